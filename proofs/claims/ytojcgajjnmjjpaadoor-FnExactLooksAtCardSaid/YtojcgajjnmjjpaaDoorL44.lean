/-
  Joined: LokA.
-/
import Derived.Test.YtojcgajjnmjjpaaDoorL34
import Derived.Test.YtojcgajjnmjjpaaDoorL42
import Derived.Test.YtojcgajjnmjjpaaDoorL43

namespace Go.Proofs.YtojcgajjnmjjpaaDoor
set_option maxRecDepth 100000
open Go.RowKit
set_option linter.unusedVariables false
set_option linter.unusedSimpArgs false

theorem look_take (m:V4) {k:Nat} (hk:k<3):(lookM m).take (k+1)=(lookM m).take k++[8*(k:Int)+m.1.getD k 0]:=by
 match k,hk with
 | 0,_=>simp [lookM]
 | 1,_=>simp [lookM]
 | 2,_=>simp [lookM]
set_option maxHeartbeats 2000000 in
theorem l08Looks_is (s:S4) (m:V4) (w:World) (h:Vmem w s m) (hs:shapeOk m=true) :
  Calls Tryd.prog 35 #[s.val] w fun e w'=>RowGot e w' w.heap.size (lookM m)∧Below w.heap.size w w':=by
 obtain ⟨i0,hi,hz0,hz1,hz2⟩:=info_parts info_int
 obtain ⟨h1,_⟩:=h
 have hl3:=(shape_parts hs).1
 have hpc:=fun k hk=>pcs_ok hs (k:=k) hk
 obtain ⟨⟨a0,n0,c0⟩,⟨a1,n1,c1⟩,⟨a2,n2,c2⟩,⟨a3,n3,c3⟩⟩:=s
 have uA:S4.val ((a0,n0,c0),(a1,n1,c1),(a2,n2,c2),(a3,n3,c3))=.agg #[.slice a0 n0 c0,.slice a1 n1 c1,.slice a2 n2 c2,.slice a3 n3 c3]:=rfl
 simp only [uA] at *
 clear uA
 replace h1:Ints .i64 w a0 n0 c0 m.1:=h1.1
 have bw:Below w.heap.size w ((w.alloc (.cells #[.slice a0 n0 c0,.slice a1 n1 c1,.slice a2 n2 c2,.slice a3 n3 c3] 40)).alloc (.cells #[] 3)):=by go_grown
 have pS:Blk ((w.alloc (.cells #[.slice a0 n0 c0,.slice a1 n1 c1,.slice a2 n2 c2,.slice a3 n3 c3] 40)).alloc (.cells #[] 3)) w.heap.size 40 [.slice a0 n0 c0,.slice a1 n1 c1,.slice a2 n2 c2,.slice a3 n3 c3]:=blkOld _ (blkAt _ _ _ rfl)
 have q0:=empty8 (w.alloc (.cells #[.slice a0 n0 c0,.slice a1 n1 c1,.slice a2 n2 c2,.slice a3 n3 c3] 40)) 3 1 (w.heap.size+1) (by simp)
 go_enter Tryd.func35,Tryd.ntmps35
 go_wp2_with fail
 generalize (w.alloc (.cells #[.slice a0 n0 c0,.slice a1 n1 c1,.slice a2 n2 c2,.slice a3 n3 c3] 40)).alloc (.cells #[] 3)=W0 at *
 simp only [World.size_alloc] at q0
 go_loopw [3,4] (fun so si wr=>∃ (k:Nat) (v:Value),v=so∧k≤3∧si=.int .i64 k∧wr.ownsRow (w.heap.size+1) 3 1 v k (((lookM m).take k).map (Value.int .i64))∧Blk wr w.heap.size 40 [.slice a0 n0 c0,.slice a1 n1 c1,.slice a2 n2 c2,.slice a3 n3 c3]∧Below w.heap.size w wr) (fun _ si _=>3 - (Go.RowKit.intOf si).toNat)
 case atStart=>exact ⟨0,_,rfl,by omega,rfl,q0,pS,bw⟩
 case round =>
  clear q0 pS bw
  obtain ⟨k,so,rfl,hk,rfl,q,pS,bw⟩:=hrel
  by_cases hlt:k<3
  ·have hk3:(k:Int)<3:=by omega
   have hk0:(0:Int)≤(k:Int):=by omega
   have hln:=h1.1
   have hkn:(k:Int)<(n0:Int):=by omega
   have HT:Hid ((lookM m).take (k+1)=(lookM m).take k++[8*(k:Int)+m.1.getD k 0]):=look_take m hlt
   have kI:=l08Item_is (k:Int) (m.1.getD k 0) wr (inB8_true.2 (by omega)) (hpc k hlt)
   obtain ⟨_,_,_,hcase⟩:=h1.below bw
   rcases hcase with e0 | ⟨b,off,rfl,hb9,hc⟩
   ·omega
   have d0:=hc k (by omega)
   have gS0:wr.cell? ⟨w.heap.size,0,none⟩=some (.slice (some ⟨b,off,none⟩) n0 c0):=by simpa using pS.cell 0
   generalize m.1.getD k 0=p at d0 HT kI
   have hsz:=bw.size
   have hsl:=pS.lt
   clear hc hb9 hln
   go_wp2_with fail
   refine kI.mono ?_
   rintro e w3 ⟨rfl,rfl⟩
   clear kI
   generalize 8*(k:Int)+p=zz at *
   go_wp2_with (at_builtin;refine wpList_append_own _ rfl _ _ 34 rfl (w.heap.size+1) 3 i0 (.int .i64 0) 1 8 Tryd.underlying34 hi hz0 hz1 hz2 rfl (by decide) _ _ _ rfl (q.alloc _) ⟨wr.heap.size,0,none⟩ 1 1 [.int .i64 zz] rfl rfl (cell_one_new _ _ _) (by simp [Value.oneCell']) ?c3 ?c4 ?c5 ?_)
   case c3=>unfold maxLen;omega
   case c4=>omega
   case c5=>simp;omega
   intro v' wn hown' hgrow _
   have R:wn.ownsRow (w.heap.size+1) 3 1 v' (k+1) (((lookM m).take (k+1)).map (Value.int .i64)):=by
    rw [HT.out,List.map_append]
    simpa [List.map_take] using hown'
   have bn:Below w.heap.size w wn:=(bw.alloc hsz _).grown hgrow (by simp;omega) (fun k hk=>by have:=(q.lt k hk).1;omega)
   have pn:Blk wn w.heap.size 40 [.slice (some ⟨b,off,none⟩) n0 c0,.slice a1 n1 c1,.slice a2 n2 c2,.slice a3 n3 c3]:=(pS.below (by go_grown:Below wr.heap.size wr (wr.alloc (.cells #[.int .i64 zz] 3)))).kept hgrow (fun e=>by have:=(q.lt _ e).1;omega)
   clear hown' hgrow q bw pS HT gS0 d0
   go_wp2
   go_roundw
   case rel=>exact ⟨k+1,_,rfl,by omega,by go_num,R,pn,bn⟩
   case measure=>simp [Go.RowKit.intOf];omega
  ·obtain rfl:k=3:=by omega
   obtain ⟨ga,gc,rfl⟩:=some8 q (by omega)
   go_wp2
   go_ret
   exact ⟨⟨_,rfl,lower8 q (by omega)⟩,bw⟩
set_option maxHeartbeats 4000000 in
theorem specLooksAt_bad (a:Option Addr) (len cap:Nat) (rows:List (List I3)) (s:S4) (m:V4)  (w:World) (hC:Codes w a len cap rows) (h:Vmem w s m) (hok:(progOk rows && shapeOk m)=false) :
  Calls Tryd.prog 11 #[.agg #[.slice a len cap],s.val] w fun e w'=>(∃ s9:Sl,e=.returned (.tuple #[.slice s9.1 s9.2.1 s9.2.2,.int .i64 1])∧Ints .i64 w' s9.1 s9.2.1 s9.2.2 [])∧Below w.heap.size w w':=by
 have kV:=fun w hC h=>specVmOK_is a len cap rows s m w hC h
 rw [hok] at kV
 have hM:=fun (W:World) (hb:Below w.heap.size w W)=>h.below hb
 obtain ⟨⟨a0,n0,c0⟩,⟨a1,n1,c1⟩,⟨a2,n2,c2⟩,⟨a3,n3,c3⟩⟩:=s
 have uA:S4.val ((a0,n0,c0),(a1,n1,c1),(a2,n2,c2),(a3,n3,c3))=.agg #[.slice a0 n0 c0,.slice a1 n1 c1,.slice a2 n2 c2,.slice a3 n3 c3]:=rfl
 simp only [uA] at *
 clear uA h
 have bw:Below w.heap.size w ((w.alloc (.cells #[.slice a len cap] 30)).alloc (.cells #[.slice a0 n0 c0,.slice a1 n1 c1,.slice a2 n2 c2,.slice a3 n3 c3] 40)):=by go_grown
 have pP:Blk ((w.alloc (.cells #[.slice a len cap] 30)).alloc (.cells #[.slice a0 n0 c0,.slice a1 n1 c1,.slice a2 n2 c2,.slice a3 n3 c3] 40)) w.heap.size 30 [.slice a len cap]:=blkOld _ (blkAt _ _ _ rfl)
 have pS:Blk ((w.alloc (.cells #[.slice a len cap] 30)).alloc (.cells #[.slice a0 n0 c0,.slice a1 n1 c1,.slice a2 n2 c2,.slice a3 n3 c3] 40)) (w.heap.size+1) 40 [.slice a0 n0 c0,.slice a1 n1 c1,.slice a2 n2 c2,.slice a3 n3 c3]:=blkAt _ _ _ (by simp)
 go_enter Tryd.func11,Tryd.ntmps11
 go_wp2_with fail
 refine (kV _ (hC.below bw) (hM _ bw)).mono ?_
 rintro e w1 ⟨rfl,hb⟩
 replace bw:=bel_trans bw hb
 replace pP:=pP.below hb
 replace pS:=pS.below hb
 clear hb
 have bz:Below w.heap.size w (w1.alloc (.cells #[] 3)):=bel_trans bw (by go_grown)
 go_wp2
 go_ret2
 exact ⟨⟨(_,0,0),rfl,rfl,Nat.le_refl _,Nat.zero_le _,.inl rfl⟩,bz⟩

set_option maxHeartbeats 4000000 in
theorem specLooksAt_ok (a:Option Addr) (len cap:Nat) (rows:List (List I3)) (s:S4) (m:V4)  (w:World) (hC:Codes w a len cap rows) (h:Vmem w s m) (hp:progOk rows=true) (hs:shapeOk m=true) :
  Calls Tryd.prog 11 #[.agg #[.slice a len cap],s.val] w fun e w'=>(∃ s9:Sl,e=.returned (.tuple #[.slice s9.1 s9.2.1 s9.2.2,.int .i64 0])∧Ints .i64 w' s9.1 s9.2.1 s9.2.2 (lookM m))∧Below w.heap.size w w':=by
 obtain ⟨hl,cs,hR⟩:=hC.rowsAt hp
 have kV:=fun w hC h=>specVmOK_is a len cap rows s m w hC h
 rw [hp,hs] at kV
 have kE:=fun (W:World) (h:Vmem W s m)=>l08Looks_is s m W h hs
 clear hl
 have hM:=fun (W:World) (hb:Below w.heap.size w W)=>h.below hb
 obtain ⟨⟨a0,n0,c0⟩,⟨a1,n1,c1⟩,⟨a2,n2,c2⟩,⟨a3,n3,c3⟩⟩:=s
 have uA:S4.val ((a0,n0,c0),(a1,n1,c1),(a2,n2,c2),(a3,n3,c3))=.agg #[.slice a0 n0 c0,.slice a1 n1 c1,.slice a2 n2 c2,.slice a3 n3 c3]:=rfl
 simp only [uA] at *
 clear uA h
 have bw:Below w.heap.size w ((w.alloc (.cells #[.slice a len cap] 30)).alloc (.cells #[.slice a0 n0 c0,.slice a1 n1 c1,.slice a2 n2 c2,.slice a3 n3 c3] 40)):=by go_grown
 have pP:Blk ((w.alloc (.cells #[.slice a len cap] 30)).alloc (.cells #[.slice a0 n0 c0,.slice a1 n1 c1,.slice a2 n2 c2,.slice a3 n3 c3] 40)) w.heap.size 30 [.slice a len cap]:=blkOld _ (blkAt _ _ _ rfl)
 have pS:Blk ((w.alloc (.cells #[.slice a len cap] 30)).alloc (.cells #[.slice a0 n0 c0,.slice a1 n1 c1,.slice a2 n2 c2,.slice a3 n3 c3] 40)) (w.heap.size+1) 40 [.slice a0 n0 c0,.slice a1 n1 c1,.slice a2 n2 c2,.slice a3 n3 c3]:=blkAt _ _ _ (by simp)
 go_enter Tryd.func11,Tryd.ntmps11
 go_wp2_with fail
 refine (kV _ (hC.below bw) (hM _ bw)).mono ?_
 rintro e w1 ⟨rfl,hb⟩
 replace bw:=bel_trans bw hb
 replace pP:=pP.below hb
 replace pS:=pS.below hb
 clear hb
 clear kV
 have gP:=pP.cell 0
 have gS0:=pS.cell 0
 have gS1:=pS.cell 1
 have gS2:=pS.cell 2
 have gS3:=pS.cell 3
 simp only [List.getElem?_cons_zero,List.getElem?_cons_succ] at gP gS0 gS1 gS2 gS3
 go_wp2_with fail
 refine (kE _ (hM _ bw)).mono ?_
 rintro e w2 ⟨⟨v,rfl,hO⟩,hb⟩
 obtain ⟨sa,sc,rfl⟩:=slice8 hO
 have hI:=ints8 hO
 replace bw:=bel_trans bw hb
 clear hb gP gS0 gS1 gS2 gS3 kE hO
 go_wp2
 go_ret2
 exact ⟨⟨(sa,(lookM m).length,sc),rfl,hI⟩,bw⟩
set_option maxHeartbeats 4000000 in
theorem implLooksAt_bad (a:Option Addr) (len cap:Nat) (rows:List (List I3)) (s:S4) (m:V4)  (w:World) (hC:Codes w a len cap rows) (h:Vmem w s m) (hV:VmShape w) (hok:(progOk rows && shapeOk m)=false) :
  Calls Tryd.prog 13 #[.agg #[.slice a len cap],s.val] w fun e w'=>e=.returned (.tuple #[.slice none 0 0,.int .i64 1])∧Below w.heap.size w w':=by
 have hM:=fun (W:World) (hb:Below w.heap.size w W)=>h.below hb
 have kM:=fun w hC h hV=>machineOf_bad a len cap rows s m w hC h hV hok
 obtain ⟨⟨a0,n0,c0⟩,⟨a1,n1,c1⟩,⟨a2,n2,c2⟩,⟨a3,n3,c3⟩⟩:=s
 have uA:S4.val ((a0,n0,c0),(a1,n1,c1),(a2,n2,c2),(a3,n3,c3))=.agg #[.slice a0 n0 c0,.slice a1 n1 c1,.slice a2 n2 c2,.slice a3 n3 c3]:=rfl
 rw [uA] at kM ⊢
 clear uA h
 have bw:Below w.heap.size w ((w.alloc (.cells #[.slice a len cap] 30)).alloc (.cells #[.slice a0 n0 c0,.slice a1 n1 c1,.slice a2 n2 c2,.slice a3 n3 c3] 40)):=by go_grown
 go_enter Tryd.func13,Tryd.ntmps13
 go_wp2_with fail
 refine (kM _ (hC.below bw) (hM _ bw) (hV.below bw)).mono ?_
 rintro e w1 ⟨rfl,hb⟩
 replace bw:=bel_trans bw hb
 skip
 skip
 have hg1:w.heap.size<w1.heap.size:=Nat.lt_of_lt_of_le (by simp;omega) hb.size
 clear hb kM hM hV hC
 have pN:=Blk.new w1 61 [.slice none 0 0,.int .i64 0,.int .i64 0,.int .i64 0,.slice none 0 0,.int .i64 0,.int .i64 0,.int .i64 0,.slice none 0 0,.int .i64 0,.int .i64 0,.int .i64 0,.int .i64 0,.int .i64 0,.int .i64 0,.int .i64 0,.int .i64 0,.int .i64 0]
 have bN:Below w1.heap.size w1 (w1.alloc (.cells #[.slice none 0 0,.int .i64 0,.int .i64 0,.int .i64 0,.slice none 0 0,.int .i64 0,.int .i64 0,.int .i64 0,.slice none 0 0,.int .i64 0,.int .i64 0,.int .i64 0,.int .i64 0,.int .i64 0,.int .i64 0,.int .i64 0,.int .i64 0,.int .i64 0] 61)):=by go_grown
 go_wp2_with (refine wpList_store_blk rfl 61 _ _ rfl w1.heap.size [.slice none 0 0,.int .i64 0,.int .i64 0,.int .i64 0,.slice none 0 0,.int .i64 0,.int .i64 0,.int .i64 0,.slice none 0 0,.int .i64 0,.int .i64 0,.int .i64 0,.int .i64 0,.int .i64 0,.int .i64 0,.int .i64 0,.int .i64 0,.int .i64 0] rfl rfl pN (by kernel_rfl) rfl rfl ?_)
 intro w2 pM g2
 skip
 replace bw:=(bel_trans bw bN).grown g2 (by simp;omega) (fun x hx=>by cases hx;omega)
 clear g2 bN pN
 generalize w1.heap.size=gM at *
 go_wp2
 go_ret2
 exact ⟨rfl,bw⟩

set_option maxHeartbeats 4000000 in
theorem implLooksAt_ok (a:Option Addr) (len cap:Nat) (rows:List (List I3)) (s:S4) (m:V4)  (w:World) (hC:Codes w a len cap rows) (h:Vmem w s m) (hV:VmShape w) (hp:progOk rows=true) (hs:shapeOk m=true) :
  Calls Tryd.prog 13 #[.agg #[.slice a len cap],s.val] w fun e w'=>(∃ s9:Sl,e=.returned (.tuple #[.slice s9.1 s9.2.1 s9.2.2,.int .i64 0])∧OwnI w' w.heap.size s9 (lookM m))∧Below w.heap.size w w':=by
 obtain ⟨-,cs,hR⟩:=hC.rowsAt hp
 have hM:=fun (W:World) (hb:Below w.heap.size w W)=>h.below hb
 have kM:=fun w hC h hV=>machineOf_ok a len cap rows s m w hC h hV hp hs
 obtain ⟨⟨a0,n0,c0⟩,⟨a1,n1,c1⟩,⟨a2,n2,c2⟩,⟨a3,n3,c3⟩⟩:=s
 have uA:S4.val ((a0,n0,c0),(a1,n1,c1),(a2,n2,c2),(a3,n3,c3))=.agg #[.slice a0 n0 c0,.slice a1 n1 c1,.slice a2 n2 c2,.slice a3 n3 c3]:=rfl
 rw [uA] at kM ⊢
 clear uA h
 have bw:Below w.heap.size w ((w.alloc (.cells #[.slice a len cap] 30)).alloc (.cells #[.slice a0 n0 c0,.slice a1 n1 c1,.slice a2 n2 c2,.slice a3 n3 c3] 40)):=by go_grown
 go_enter Tryd.func13,Tryd.ntmps13
 go_wp2_with fail
 refine (kM _ (hC.below bw) (hM _ bw) (hV.below bw)).mono ?_
 rintro e w1 ⟨⟨cs9,rfl,HI⟩,hb⟩
 obtain rfl:=(hR.below bw).uniq HI
 replace bw:=bel_trans bw hb
 skip
 skip
 have hg1:w.heap.size<w1.heap.size:=Nat.lt_of_lt_of_le (by simp;omega) hb.size
 clear hb kM hM hV hC
 have pN:=Blk.new w1 61 [.slice none 0 0,.int .i64 0,.int .i64 0,.int .i64 0,.slice none 0 0,.int .i64 0,.int .i64 0,.int .i64 0,.slice none 0 0,.int .i64 0,.int .i64 0,.int .i64 0,.int .i64 0,.int .i64 0,.int .i64 0,.int .i64 0,.int .i64 0,.int .i64 0]
 have bN:Below w1.heap.size w1 (w1.alloc (.cells #[.slice none 0 0,.int .i64 0,.int .i64 0,.int .i64 0,.slice none 0 0,.int .i64 0,.int .i64 0,.int .i64 0,.slice none 0 0,.int .i64 0,.int .i64 0,.int .i64 0,.int .i64 0,.int .i64 0,.int .i64 0,.int .i64 0,.int .i64 0,.int .i64 0] 61)):=by go_grown
 go_wp2_with (refine wpList_store_blk rfl 61 _ _ rfl w1.heap.size (machCells cs.1.val cs.2.1.val cs.2.2.val m) rfl rfl pN (by kernel_rfl) rfl rfl ?_)
 intro w2 pM g2
 skip
 replace bw:=(bel_trans bw bN).grown g2 (by simp;omega) (fun x hx=>by cases hx;omega)
 clear g2 bN pN
 generalize w1.heap.size=gM at *
 have kE:=looks_is gM 0 cs m w2 (fun j v hj=>by rw [Nat.zero_add,pM.out.cell];exact hj) hs
 go_wp2_with fail
 refine kE.mono ?_
 rintro e w3 ⟨⟨v,rfl,hO⟩,hb⟩
 obtain ⟨sa,sc,rfl⟩:=slice8 hO
 have hO2:OwnI w3 w.heap.size (sa,(lookM m).length,sc) (lookM m):=lower8 hO bw.size
 replace bw:=bel_trans bw hb
 simp only
 go_wp2
 go_ret2
 exact ⟨⟨(sa,(lookM m).length,sc),rfl,hO2⟩,bw⟩

def lookA (rows:List (List I3)) (m:V4):List Int:=if progOk rows && shapeOk m then lookM m else []
theorem lookA_len (rows:List (List I3)) (m:V4):(lookA rows m).length≤1048576:=by
 unfold lookA
 split<;>simp [lookM]
theorem specLooksAt_is (a:Option Addr) (len cap:Nat) (rows:List (List I3)) (s:S4) (m:V4) (w:World) (hC:Codes w a len cap rows) (h:Vmem w s m) :
  Calls Tryd.prog 11 #[.agg #[.slice a len cap],s.val] w fun e w'=>(∃ t:Sl,e=.returned (.tuple #[.slice t.1 t.2.1 t.2.2,.int .i64 (stuckC rows m)])∧Ints .i64 w' t.1 t.2.1 t.2.2 (lookA rows m))∧Below w.heap.size w w':=by
 unfold stuckC lookA
 cases hok:(progOk rows && shapeOk m)
 ·exact specLooksAt_bad a len cap rows s m w hC h hok
 ·obtain ⟨hp,hs⟩:=both_ok hok
  exact specLooksAt_ok a len cap rows s m w hC h hp hs
theorem implLooksAt_is (a:Option Addr) (len cap:Nat) (rows:List (List I3)) (s:S4) (m:V4) (w:World) (hC:Codes w a len cap rows) (h:Vmem w s m) (hV:VmShape w) :
  Calls Tryd.prog 13 #[.agg #[.slice a len cap],s.val] w fun e w'=>(∃ t:Sl,e=.returned (.tuple #[.slice t.1 t.2.1 t.2.2,.int .i64 (stuckC rows m)])∧OwnI w' w.heap.size t (lookA rows m))∧Below w.heap.size w w':=by
 unfold stuckC lookA
 cases hok:(progOk rows && shapeOk m)
 ·refine (implLooksAt_bad a len cap rows s m w hC h hV hok).mono ?_
  rintro e w' ⟨rfl,hb⟩
  exact ⟨⟨(none,0,0),rfl,World.ownsRow_nil _ _ _ _⟩,hb⟩
 ·obtain ⟨hp,hs⟩:=both_ok hok
  exact implLooksAt_ok a len cap rows s m w hC h hV hp hs
end Go.Proofs.YtojcgajjnmjjpaaDoor
