/-
  Joined: LokA, FindS.
-/
import Derived.Test.YtifoggpohlegmaaGreatDoorF20
import Derived.Test.YtifoggpohlegmaaGreatDoorF36

namespace Go.Proofs.YtifoggpohlegmaaGreatDoor
set_option maxRecDepth 100000
set_option maxHeartbeats 16000000
open Go.RowKit
set_option linter.unusedVariables false
set_option linter.unusedSimpArgs false

theorem look_take (m:V4) {k:Nat} (hk:k<3):(lookM m).take (k+1)=(lookM m).take k++[8*(k:Int)+m.1.getD k 0]:=by
 match k,hk with
 | 0,_=>simp [lookM]
 | 1,_=>simp [lookM]
 | 2,_=>simp [lookM]
theorem l08Looks_is (s:S4) (m:V4) (w:World) (h:Vmem w s m) (hs:shapeOk m=true) :
  Calls Tryz.prog 160 #[s.val] w fun e w'=>RowGot e w' w.heap.size (lookM m)∧Below w.heap.size w w':=by
 obtain ⟨i0,hi,hz0,hz1,hz2⟩:=info_parts info_int
 obtain ⟨h1,_⟩:=h
 have hl3:=(shape_parts hs).1
 have hpc:=fun k hk=>pcs_ok hs (k:=k) hk
 obtain ⟨⟨a0,n0,c0⟩,⟨a1,n1,c1⟩,⟨a2,n2,c2⟩,⟨a3,n3,c3⟩⟩:=s
 have uA:S4.val ((a0,n0,c0),(a1,n1,c1),(a2,n2,c2),(a3,n3,c3))=.agg #[.slice a0 n0 c0,.slice a1 n1 c1,.slice a2 n2 c2,.slice a3 n3 c3]:=rfl
 simp only [uA] at *
 clear uA
 replace h1:Ints .i64 w a0 n0 c0 m.1:=h1.1
 have bw:Below w.heap.size w ((w.alloc (.cells #[.slice a0 n0 c0,.slice a1 n1 c1,.slice a2 n2 c2,.slice a3 n3 c3] 33)).alloc (.cells #[] 3)):=by go_grown
 have pS:Blk ((w.alloc (.cells #[.slice a0 n0 c0,.slice a1 n1 c1,.slice a2 n2 c2,.slice a3 n3 c3] 33)).alloc (.cells #[] 3)) w.heap.size 33 [.slice a0 n0 c0,.slice a1 n1 c1,.slice a2 n2 c2,.slice a3 n3 c3]:=blkOld _ (blkAt _ _ _ rfl)
 have q0:=empty8 (w.alloc (.cells #[.slice a0 n0 c0,.slice a1 n1 c1,.slice a2 n2 c2,.slice a3 n3 c3] 33)) 3 1 (w.heap.size+1) (by simp)
 go_enter Tryz.func160,Tryz.ntmps160
 go_wp2_with fail
 generalize (w.alloc (.cells #[.slice a0 n0 c0,.slice a1 n1 c1,.slice a2 n2 c2,.slice a3 n3 c3] 33)).alloc (.cells #[] 3)=W0 at *
 simp only [World.size_alloc] at q0
 go_loopw [3,4] (fun so si wr=>∃ (k:Nat) (v:Value),v=so∧k≤3∧si=.int .i64 k∧wr.ownsRow (w.heap.size+1) 3 1 v k (((lookM m).take k).map (Value.int .i64))∧Blk wr w.heap.size 33 [.slice a0 n0 c0,.slice a1 n1 c1,.slice a2 n2 c2,.slice a3 n3 c3]∧Below w.heap.size w wr) (fun _ si _=>3 - (Go.RowKit.intOf si).toNat)
 case atStart=>exact ⟨0,_,rfl,by omega,rfl,q0,pS,bw⟩
 case round =>
  clear q0 pS bw
  obtain ⟨k,so,rfl,hk,rfl,q,pS,bw⟩:=hrel
  by_cases hlt:k<3
  ·have hk3:(k:Int)<3:=by omega
   have hk0:(0:Int)≤(k:Int):=by omega
   have hln:=h1.1
   have hkn:(k:Int)<(n0:Int):=by omega
   have HT:Hid ((lookM m).take (k+1)=(lookM m).take k++[8*(k:Int)+m.1.getD k 0]):=look_take m hlt
   have kI:=l08Item_is (k:Int) (m.1.getD k 0) wr (inB8_true.2 (by omega)) (hpc k hlt)
   obtain ⟨_,_,_,hcase⟩:=h1.below bw
   rcases hcase with e0 | ⟨b,off,rfl,hb9,hc⟩
   ·omega
   have d0:=hc k (by omega)
   have gS0:wr.cell? ⟨w.heap.size,0,none⟩=some (.slice (some ⟨b,off,none⟩) n0 c0):=by simpa using pS.cell 0
   generalize m.1.getD k 0=p at d0 HT kI
   have hsz:=bw.size
   have hsl:=pS.lt
   clear hc hb9 hln
   go_wp2_with fail
   refine kI.mono ?_
   rintro e w3 ⟨rfl,rfl⟩
   clear kI
   generalize 8*(k:Int)+p=zz at *
   go_wp2_with (at_builtin;refine wpList_append_own _ rfl _ _ 27 rfl (w.heap.size+1) 3 i0 (.int .i64 0) 1 8 Tryz.underlying27 hi hz0 hz1 hz2 rfl (by decide) _ _ _ rfl (q.alloc _) ⟨wr.heap.size,0,none⟩ 1 1 [.int .i64 zz] rfl rfl (cell_one_new _ _ _) (by simp [Value.oneCell']) ?c3 ?c4 ?c5 ?_)
   case c3=>unfold maxLen;omega
   case c4=>omega
   case c5=>simp;omega
   intro v' wn hown' hgrow _
   have R:wn.ownsRow (w.heap.size+1) 3 1 v' (k+1) (((lookM m).take (k+1)).map (Value.int .i64)):=by
    rw [HT.out,List.map_append]
    simpa [List.map_take] using hown'
   have bn:Below w.heap.size w wn:=(bw.alloc hsz _).grown hgrow (by simp;omega) (fun k hk=>by have:=(q.lt k hk).1;omega)
   have pn:Blk wn w.heap.size 33 [.slice (some ⟨b,off,none⟩) n0 c0,.slice a1 n1 c1,.slice a2 n2 c2,.slice a3 n3 c3]:=(pS.below (by go_grown:Below wr.heap.size wr (wr.alloc (.cells #[.int .i64 zz] 3)))).kept hgrow (fun e=>by have:=(q.lt _ e).1;omega)
   clear hown' hgrow q bw pS HT gS0 d0
   go_wp2
   go_roundw
   case rel=>exact ⟨k+1,_,rfl,by omega,by go_num,R,pn,bn⟩
   case measure=>simp [Go.RowKit.intOf];omega
  ·obtain rfl:k=3:=by omega
   obtain ⟨ga,gc,rfl⟩:=some8 q (by omega)
   go_wp2
   go_ret
   exact ⟨⟨_,rfl,lower8 q (by omega)⟩,bw⟩
theorem implLooksAt_bad (a:Option Addr) (len cap:Nat) (rows:List (List I3)) (s:S4) (m:V4)  (w:World) (hC:Codes w a len cap rows) (h:Vmem w s m) (hV:VmShape w) (hok:(progOk rows && shapeOk m)=false) :
  Calls Tryz.prog 49 #[.agg #[.slice a len cap],s.val] w fun e w'=>e=.returned (.tuple #[.slice none 0 0,.int .i64 1])∧Below w.heap.size w w':=by
 have hM:=fun (W:World) (hb:Below w.heap.size w W)=>h.below hb
 have kM:=fun w hC h hV=>machineOf_bad a len cap rows s m w hC h hV hok
 obtain ⟨⟨a0,n0,c0⟩,⟨a1,n1,c1⟩,⟨a2,n2,c2⟩,⟨a3,n3,c3⟩⟩:=s
 have uA:S4.val ((a0,n0,c0),(a1,n1,c1),(a2,n2,c2),(a3,n3,c3))=.agg #[.slice a0 n0 c0,.slice a1 n1 c1,.slice a2 n2 c2,.slice a3 n3 c3]:=rfl
 rw [uA] at kM ⊢
 clear uA h
 have bw:Below w.heap.size w ((w.alloc (.cells #[.slice a len cap] 25)).alloc (.cells #[.slice a0 n0 c0,.slice a1 n1 c1,.slice a2 n2 c2,.slice a3 n3 c3] 33)):=by go_grown
 go_enter Tryz.func49,Tryz.ntmps49
 go_wp2_with fail
 refine (kM _ (hC.below bw) (hM _ bw) (hV.below bw)).mono ?_
 rintro e w1 ⟨rfl,hb⟩
 replace bw:=bel_trans bw hb
 skip
 skip
 have hg1:w.heap.size<w1.heap.size:=Nat.lt_of_lt_of_le (by simp;omega) hb.size
 clear hb kM hM hV hC
 have pN:=Blk.new w1 89 [.slice none 0 0,.int .i64 0,.int .i64 0,.int .i64 0,.slice none 0 0,.int .i64 0,.int .i64 0,.int .i64 0,.slice none 0 0,.int .i64 0,.int .i64 0,.int .i64 0,.int .i64 0,.int .i64 0,.int .i64 0,.int .i64 0,.int .i64 0,.int .i64 0]
 have bN:Below w1.heap.size w1 (w1.alloc (.cells #[.slice none 0 0,.int .i64 0,.int .i64 0,.int .i64 0,.slice none 0 0,.int .i64 0,.int .i64 0,.int .i64 0,.slice none 0 0,.int .i64 0,.int .i64 0,.int .i64 0,.int .i64 0,.int .i64 0,.int .i64 0,.int .i64 0,.int .i64 0,.int .i64 0] 89)):=by go_grown
 go_wp2_with (refine wpList_store_blk rfl 89 _ _ rfl w1.heap.size [.slice none 0 0,.int .i64 0,.int .i64 0,.int .i64 0,.slice none 0 0,.int .i64 0,.int .i64 0,.int .i64 0,.slice none 0 0,.int .i64 0,.int .i64 0,.int .i64 0,.int .i64 0,.int .i64 0,.int .i64 0,.int .i64 0,.int .i64 0,.int .i64 0] rfl rfl pN (by kernel_rfl) rfl rfl ?_)
 intro w2 pM g2
 skip
 replace bw:=(bel_trans bw bN).grown g2 (by simp;omega) (fun x hx=>by cases hx;omega)
 clear g2 bN pN
 generalize w1.heap.size=gM at *
 go_wp2
 go_ret2
 exact ⟨rfl,bw⟩

theorem implLooksAt_ok (a:Option Addr) (len cap:Nat) (rows:List (List I3)) (s:S4) (m:V4)  (w:World) (hC:Codes w a len cap rows) (h:Vmem w s m) (hV:VmShape w) (hp:progOk rows=true) (hs:shapeOk m=true) :
  Calls Tryz.prog 49 #[.agg #[.slice a len cap],s.val] w fun e w'=>(∃ s9:Sl,e=.returned (.tuple #[.slice s9.1 s9.2.1 s9.2.2,.int .i64 0])∧OwnI w' w.heap.size s9 (lookM m))∧Below w.heap.size w w':=by
 obtain ⟨-,cs,hR⟩:=hC.rowsAt hp
 have hM:=fun (W:World) (hb:Below w.heap.size w W)=>h.below hb
 have kM:=fun w hC h hV=>machineOf_ok a len cap rows s m w hC h hV hp hs
 obtain ⟨⟨a0,n0,c0⟩,⟨a1,n1,c1⟩,⟨a2,n2,c2⟩,⟨a3,n3,c3⟩⟩:=s
 have uA:S4.val ((a0,n0,c0),(a1,n1,c1),(a2,n2,c2),(a3,n3,c3))=.agg #[.slice a0 n0 c0,.slice a1 n1 c1,.slice a2 n2 c2,.slice a3 n3 c3]:=rfl
 rw [uA] at kM ⊢
 clear uA h
 have bw:Below w.heap.size w ((w.alloc (.cells #[.slice a len cap] 25)).alloc (.cells #[.slice a0 n0 c0,.slice a1 n1 c1,.slice a2 n2 c2,.slice a3 n3 c3] 33)):=by go_grown
 go_enter Tryz.func49,Tryz.ntmps49
 go_wp2_with fail
 refine (kM _ (hC.below bw) (hM _ bw) (hV.below bw)).mono ?_
 rintro e w1 ⟨⟨cs9,rfl,HI⟩,hb⟩
 obtain rfl:=(hR.below bw).uniq HI
 replace bw:=bel_trans bw hb
 skip
 skip
 have hg1:w.heap.size<w1.heap.size:=Nat.lt_of_lt_of_le (by simp;omega) hb.size
 clear hb kM hM hV hC
 have pN:=Blk.new w1 89 [.slice none 0 0,.int .i64 0,.int .i64 0,.int .i64 0,.slice none 0 0,.int .i64 0,.int .i64 0,.int .i64 0,.slice none 0 0,.int .i64 0,.int .i64 0,.int .i64 0,.int .i64 0,.int .i64 0,.int .i64 0,.int .i64 0,.int .i64 0,.int .i64 0]
 have bN:Below w1.heap.size w1 (w1.alloc (.cells #[.slice none 0 0,.int .i64 0,.int .i64 0,.int .i64 0,.slice none 0 0,.int .i64 0,.int .i64 0,.int .i64 0,.slice none 0 0,.int .i64 0,.int .i64 0,.int .i64 0,.int .i64 0,.int .i64 0,.int .i64 0,.int .i64 0,.int .i64 0,.int .i64 0] 89)):=by go_grown
 go_wp2_with (refine wpList_store_blk rfl 89 _ _ rfl w1.heap.size (machCells cs.1.val cs.2.1.val cs.2.2.val m) rfl rfl pN (by kernel_rfl) rfl rfl ?_)
 intro w2 pM g2
 skip
 replace bw:=(bel_trans bw bN).grown g2 (by simp;omega) (fun x hx=>by cases hx;omega)
 clear g2 bN pN
 generalize w1.heap.size=gM at *
 have kE:=looks_is gM 0 cs m w2 (fun j v hj=>by rw [Nat.zero_add,pM.out.cell];exact hj) hs
 go_wp2_with fail
 refine kE.mono ?_
 rintro e w3 ⟨⟨v,rfl,hO⟩,hb⟩
 obtain ⟨sa,sc,rfl⟩:=slice8 hO
 have hO2:OwnI w3 w.heap.size (sa,(lookM m).length,sc) (lookM m):=lower8 hO bw.size
 replace bw:=bel_trans bw hb
 simp only
 go_wp2
 go_ret2
 exact ⟨⟨(sa,(lookM m).length,sc),rfl,hO2⟩,bw⟩

def lookA (rows:List (List I3)) (m:V4):List Int:=if progOk rows && shapeOk m then lookM m else []
theorem implLooksAt_is (a:Option Addr) (len cap:Nat) (rows:List (List I3)) (s:S4) (m:V4) (w:World) (hC:Codes w a len cap rows) (h:Vmem w s m) (hV:VmShape w) :
  Calls Tryz.prog 49 #[.agg #[.slice a len cap],s.val] w fun e w'=>(∃ t:Sl,e=.returned (.tuple #[.slice t.1 t.2.1 t.2.2,.int .i64 (stuckC rows m)])∧OwnI w' w.heap.size t (lookA rows m))∧Below w.heap.size w w':=by
 unfold stuckC lookA
 cases hok:(progOk rows && shapeOk m)
 ·refine (implLooksAt_bad a len cap rows s m w hC h hV hok).mono ?_
  rintro e w' ⟨rfl,hb⟩
  exact ⟨⟨(none,0,0),rfl,World.ownsRow_nil _ _ _ _⟩,hb⟩
 ·obtain ⟨hp,hs⟩:=both_ok hok
  exact implLooksAt_ok a len cap rows s m w hC h hV hp hs


theorem beq_tf {x t:ByteArray} (h:¬ x=t):(x.toList == t.toList)=false:=by
 rw [beq_eq_false_iff_ne]
 intro e
 rw [ByteArray.toList_eq,ByteArray.toList_eq] at e
 exact h (ByteArray.ext (Array.ext' e))
def findT (ts:List ByteArray) (t:ByteArray):Nat→Int
 | 0=>-1
 | n+1=>if ts.getD n ByteArray.empty=t then (n:Int) else findT ts t n
theorem findT_iff {ts:List ByteArray} {t:ByteArray}:∀ n,n≤ts.length→(0≤findT ts t n↔t ∈ ts.take n)
 | 0,_=>by simp [findT]
 | n+1,h=>by
  have ih:=findT_iff (ts:=ts) (t:=t) n (by omega)
  have e:ts.take (n+1)=ts.take n++[ts.getD n ByteArray.empty]:=by
   rw [List.take_add_one,List.getElem?_eq_getElem (show n<ts.length by omega)]
   simp [List.getD,show n<ts.length by omega]
  rw [e,List.mem_append,List.mem_singleton]
  unfold findT
  by_cases h1:ts.getD n ByteArray.empty=t
  ·rw [if_pos h1]
   exact ⟨fun _=>.inr h1.symm,fun _=>by omega⟩
  ·rw [if_neg h1,ih]
   exact ⟨.inl,fun h2=>h2.elim id (fun h3=>absurd h3.symm h1)⟩

theorem l06Find_is (a:Option Addr) (n c:Nat) (ts:List ByteArray) (t:ByteArray) (w:World) (h:Strs w a n c ts) (hn:n≤1000000) :
  Calls Tryz.prog 100 #[.slice a n c,.string t] w fun e w'=>e=.returned (.int .i64 (findT ts t n))∧w=w':=by
 obtain ⟨hl,hlc,hcm,hcase⟩:=h
 obtain ⟨f,hf⟩:∃ f,f=findT ts t n:=⟨_,rfl⟩
 have HF:Hid (f=findT ts t n):=hf
 rw [← hf]
 clear hf hl hcm
 go_enter Tryz.func100,Tryz.ntmps100
 go_wp2_with fail
 go_loopw [5] (fun si wr=>∃ ii:Nat,ii≤n∧si=.int .i64 ((ii:Int) - 1)∧Hid (f=findT ts t ii)∧w=wr) (fun si _=>(intOf si+1).toNat)
 case atStart=>exact ⟨n,Nat.le_refl _,rfl,HF,rfl⟩
 case round =>
  obtain ⟨ii,hii,rfl,HG,rfl⟩:=hrel
  rcases Nat.eq_zero_or_pos ii with rfl | hpos
  ·have HE:Hid (f=-1):=HG.out
   go_wp2
   go_ret
   exact ⟨by rw [HE.out];rfl,rfl⟩
  ·obtain ⟨i,rfl⟩:∃ i,ii=i+1:=⟨ii - 1,by omega⟩
   have hi0:((i+1:Nat):Int) - 1=(i:Int):=by omega
   rw [hi0]
   have hi9:(0:Int)≤(i:Int):=by omega
   have hin:(i:Int)<(n:Int):=by omega
   rcases hcase with h0 | ⟨b,off,rfl,hb,hcell⟩
   ·omega
   have hc:=hcell i (by omega)
   have HG2:Hid (f=if ts.getD i ByteArray.empty=t then (i:Int) else findT ts t i):=HG.out
   clear hcell HG
   generalize ts.getD i ByteArray.empty=x at *
   by_cases hx:x=t
   ·have hxx:(x.toList == t.toList)=true:=by rw [hx];simp
    have HE:Hid (f=i):=by rw [Hid,HG2.out,if_pos hx]
    clear HG2 hx
    go_wp2
    go_ret
    exact ⟨by rw [HE.out];rfl,rfl⟩
   ·have hxx:(x.toList == t.toList)=false:=beq_tf hx
    have HE:Hid (f=findT ts t i):=by rw [Hid,HG2.out,if_neg hx]
    clear HG2 hx
    go_wp2
    go_roundw
    case rel=>exact ⟨i,by omega,by go_num,HE,by first | rfl | trivial⟩
    case measure=>simp [intOf]<;>omega
end Go.Proofs.YtifoggpohlegmaaGreatDoor
