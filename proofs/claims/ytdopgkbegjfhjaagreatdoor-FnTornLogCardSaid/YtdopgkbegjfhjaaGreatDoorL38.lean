/-
  Joined: PackS.
-/
import Derived.Test.YtdopgkbegjfhjaaGreatDoorL37

namespace Go.Proofs.YtdopgkbegjfhjaaGreatDoor
set_option maxRecDepth 100000
set_option maxHeartbeats 16000000
open Go.RowKit

theorem owns_empty (w:World) (e:TypeId):(w.alloc (.cells #[] e)).ownsRow w.heap.size e 1 (.slice (some ⟨w.heap.size,0,none⟩) 0 0) 0 []:=by
 refine ⟨rfl,.inr ⟨w.heap.size,0,#[],rfl,Nat.le_refl _,?_,?_⟩⟩
 ·simpa using heap_alloc_new w (.cells #[] e)
 ·simp [maxLen]

theorem owns_drew {w:World} {B e k n:Nat} {v:Value} {cs:List Value} (h:w.ownsRow B e k v n cs):w.drew.ownsRow B e k v n cs:=h
theorem three_drew (w:World) (x y z:Value) (t:TypeId):∀ j u,[x,y,z][j]?=some u→(w.alloc (.cells #[x,y,z] t)).drew.cell? ((⟨w.heap.size,0,none⟩:Addr).add j)=some u:=cell_three_new w x y z t
theorem below_app {B e n:Nat} {wr w3:World} {o:Obj} {v:Value} {cs:List Value} (hb:B≤wr.heap.size) (hr:wr.ownsRow B e 1 v n cs) (hg:(wr.alloc o).drew.grownBy w3 v.ownBlock):Below B wr w3:=
 ((by go_grown:Below wr.heap.size wr (wr.alloc o).drew).mono hb).grown hg (by simp;omega) (fun j hj=>(hr.lt _ hj).1)
theorem cells_low {B:Nat} {wr w3:World} (h:Below B wr w3) {p:Addr} {v:Value} (hp:p.block<B) (hc:wr.cell? p=some v):w3.cell? p=some v:=by rw [h.cell hp];exact hc

theorem l02Pack_ok (a:Option Addr) (len cap:Nat) (rows:List (List I3)) (w:World) (h:Codes w a len cap rows) (hok:progOk rows=true) :
  Calls Tryz.prog 57 #[.agg #[.slice a len cap]] w fun e w'=>e=.returned (.string (strOfNums (packL (progNums rows))))∧Below w.heap.size w w':=by
 obtain ⟨i0,hi,hz0,hz1,hz2⟩:=info_parts info_int
 obtain ⟨h3,hrows⟩:=progOk_parts hok
 have hall:=progNums_ok hok
 have hplen:=progNums_len (rows:=rows) (fun r hr=>(hrows r hr).1)
 clear hok
 obtain ⟨hl,hlc,hcm,hcase⟩:=h
 obtain rfl:len=3:=by omega
 rcases hcase with h0 | ⟨b,off,rfl,hblt,hcell⟩
 ·omega
 unfold maxLen at hcm
 have hE:Hid (progNums rows=progNums (rows.take 3)):=by rw [Hid,List.take_of_length_le (by omega)]
 go_enter Tryz.func57,Tryz.ntmps57
 go_wp2
 go_loopw [3,4] (fun sv si wr=>∃ (k:Nat),k≤3∧si=.int .i64 k∧wr.ownsRow (w.heap.size+1) 3 1 sv (progNums (rows.take k)).length ((progNums (rows.take k)).map (Value.int .i64))∧wr.cell? ⟨w.heap.size,0,none⟩=some (.slice (some ⟨b,off,none⟩) 3 cap)∧Below w.heap.size w wr) (fun _ si _=>3 - (intOf si).toNat)
 case atStart=>exact ⟨0,by omega,rfl,by simpa [progNums] using owns_empty (w.alloc (.cells #[.slice (some ⟨b,off,none⟩) 3 cap] 69)) 3,by simp [go_sem],by go_grown⟩
 case round =>
  obtain ⟨k,hk,rfl,hr,cP,hbel⟩:=hrel
  by_cases hlt:k<3
  ·have hlt2:(k:Int)<3:=by omega
   have hk0:(0:Int)≤(k:Int):=by omega
   obtain ⟨a',len',cap',hc,hI⟩:=hcell k hlt
   have hst:=progNums_step (rows:=rows) (k:=k) (by omega)
   have hl6 : (rows.getD k []).length ≤ 6 := (hrows _ (by have : k < rows.length := by omega
                                                          simp [List.getD,this])).1
   have htl:(progNums (rows.take k)).length≤57:=by
    have:=progNums_len (rows:=rows.take k) (fun r hr=>(hrows r (List.mem_of_mem_take hr)).1)
    simp at this
    omega
   rw [hI.1] at hst hl6
   generalize rows.getD k []=xs at hI hst
   obtain ⟨ns,hns⟩:∃ ns,ns=progNums (rows.take k):=⟨_,rfl⟩
   rw [← hns] at hr htl hst
   have hst':Hid (progNums (rows.take (k+1))=(ns++[(len':Int)])++rowNums (xs.take len')):=by rw [Hid,hst,← hI.1,List.take_length]
   clear hst hns
   have hc':wr.cell? ⟨b,off+k,none⟩=some (.slice a' len' cap'):=by rw [hbel.cell (p:=⟨b,_,none⟩) hblt];exact hc
   have hbs:=hbel.size
   have hPl:=lt_of_cell cP
   go_wp2_with (at_builtin;refine wpList_append_own _ rfl _ _ 40 rfl (w.heap.size+1) 3 i0 (.int .i64 0) 1 8 Tryz.underlying40 hi hz0 hz1 hz2 rfl (by decide) _ _ _ rfl (hr.alloc _) ⟨wr.heap.size,0,none⟩ 1 1 [.int .i64 (len':Int)] rfl rfl (cell_one_new _ _ _) (one_i64'' _) ?c3 ?c4 ?c5 ?_)
   case c3=>unfold maxLen;omega
   case c4=>omega
   case c5=>simp;omega
   intro v2 w2 hown2 hgrow2 _
   have hB2:Below (w.heap.size+1) wr w2:=((Below.refl (w.heap.size+1) wr).alloc (by omega) _).grown hgrow2 (by simp;omega) (fun j hj=>(hr.lt _ hj).1)
   have cP2:w2.cell? ⟨w.heap.size,0,none⟩=some (.slice (some ⟨b,off,none⟩) 3 cap):=by rw [hB2.cell (p:=⟨w.heap.size,0,none⟩) (by simp)];exact cP
   have hb2:Below w.heap.size w w2:=hbel.trans (hB2.mono (by omega))
   have hr2:w2.ownsRow (w.heap.size+1) 3 1 v2 (ns.length+1) ((ns++[(len':Int)]).map (Value.int .i64)):=by simpa using hown2
   clear hown2 hgrow2 hr hbel hc' hbs cP hB2 hPl
   obtain ⟨hl',hlc',hcm',_,hcase'⟩:=hI
   unfold maxLen at hcm'
   obtain ⟨ms,hms⟩:∃ ms,ms=ns++[(len':Int)]:=⟨_,rfl⟩
   have hml:ms.length=ns.length+1:=by rw [hms];simp
   rw [← hms] at hr2 hst'
   rw [← hml] at hr2
   clear hms
   go_wp2
   go_loopw [3,5] (fun sv si wi=>∃ (i:Nat),i≤len'∧si=.int .i64 i∧wi.ownsRow (w.heap.size+1) 3 1 sv (ms++rowNums (xs.take i)).length ((ms++rowNums (xs.take i)).map (Value.int .i64))∧wi.cell? ⟨w.heap.size,0,none⟩=some (.slice (some ⟨b,off,none⟩) 3 cap)∧Below w.heap.size w wi) (fun _ si _=>len' - (intOf si).toNat)
   case atStart=>exact ⟨0,by omega,rfl,by simpa [rowNums] using hr2,cP2,hb2⟩
   case round =>
    clear hr2 hb2 cP2
    obtain ⟨i,hi',rfl,hr,cP,hbel⟩:=hrel
    have hc':wr.cell? ⟨b,off+k,none⟩=some (.slice a' len' cap'):=by rw [hbel.cell (p:=⟨b,_,none⟩) hblt];exact hc
    by_cases hil:i<len'
    ·have hil2:(i:Int)<(len':Int):=by omega
     have hi0:(0:Int)≤(i:Int):=by omega
     rcases hcase' with h0 | ⟨b',off',rfl,hblt',hcell'⟩
     ·omega
     obtain ⟨c0,c1,c2⟩:=hcell' i hil
     have hsi:=rowNums_step (xs:=xs) (k:=i) (by omega)
     generalize xs.getD i (0,0,0)=x at c0 c1 c2 hsi
     have htl2:(ms++rowNums (xs.take i)).length≤100:=by rw [List.length_append,rowNums_length,List.length_take];omega
     have hsi':Hid (ms++rowNums (xs.take (i+1))=(ms++rowNums (xs.take i))++[x.1,x.2.1,x.2.2]):=by rw [Hid,hsi,List.append_assoc]
     clear hsi hcell'
     have d0:wr.cell? ⟨b',off'+i*3,none⟩=some (.int .i64 x.1):=by rw [hbel.cell (p:=⟨b',_,none⟩) hblt'];exact c0
     have d1:wr.cell? ⟨b',off'+i*3+1,none⟩=some (.int .i64 x.2.1):=by rw [hbel.cell (p:=⟨b',_,none⟩) hblt'];exact c1
     have d2:wr.cell? ⟨b',off'+i*3+2,none⟩=some (.int .i64 x.2.2):=by rw [hbel.cell (p:=⟨b',_,none⟩) hblt'];exact c2
     clear c0 c1 c2
     generalize ms++rowNums (xs.take i)=ys at hr htl2 hsi'
     have hbs:=hbel.size
     have hPl:=lt_of_cell cP
     have hbs1:w.heap.size+1≤wr.heap.size:=hPl
     have hm1:ys.length+3≤maxLen:=by unfold maxLen;omega
     have hm2:(ys.length+3)*8≤140737488355328:=by omega
     have hm3:w.heap.size+1≤(wr.alloc (.cells #[.int .i64 x.1,.int .i64 x.2.1,.int .i64 x.2.2] 3)).drew.heap.size:=by simp;omega
     have hP1:(⟨w.heap.size,0,none⟩:Addr).block<w.heap.size+1:=by simp
     have hP2:(⟨b,off+k,none⟩:Addr).block<w.heap.size+1:=by simp;omega
     have hP3:b'<w.heap.size+1:=by omega
     go_wp2_with fail
     go_region_held3 (fun w'=>w'.cell? ⟨w.heap.size,0,none⟩=some (.slice (some ⟨b,off,none⟩) 3 cap)∧w'.cell? ⟨b,off+k,none⟩=some (.slice (some ⟨b',off',none⟩) len' cap')∧w'.cell? ⟨b',off'+i*3,none⟩=some (.int .i64 x.1)∧w'.cell? ⟨b',off'+i*3+1,none⟩=some (.int .i64 x.2.1)∧w'.cell? ⟨b',off'+i*3+2,none⟩=some (.int .i64 x.2.2)) (first | (exact ⟨cP,hc',d0,d1,d2⟩) | (exact ⟨cP3,q0,q1,q2,q3⟩) | go_keep)
      (first | (refine step_append_mine rfl _ _ 40 rfl (w.heap.size+1) 3 i0 (.int .i64 0) 1 8 Tryz.underlying40 hi hz0 hz1 hz2 rfl (by decide) _ ys.length (ys.map (Value.int .i64)) rfl (owns_drew (hr.alloc _)) ⟨wr.heap.size,0,none⟩ 3 3 [.int .i64 x.1,.int .i64 x.2.1,.int .i64 x.2.2] rfl rfl (three_drew wr _ _ _ _) (three_i64 _ _ _) hm1 hm2 hm3 ?_;intro v3 w3 hown3 hgrow3;have hB3:=below_app hbs1 hr hgrow3;have cP3:=cells_low hB3 hP1 cP;have q0:=cells_low hB3 hP2 hc';have q1:=cells_low hB3 hP3 d0;have q2:=cells_low hB3 hP3 d1;have q3:=cells_low hB3 hP3 d2))
     have hb3:Below w.heap.size w w3:=hbel.trans (hB3.mono (by omega))
     have hr3:w3.ownsRow (w.heap.size+1) 3 1 v3 (ms++rowNums (xs.take (i+1))).length ((ms++rowNums (xs.take (i+1))).map (Value.int .i64)):=by rw [hsi'.out];simpa using hown3
     clear hown3 hgrow3 hr hbel d0 d1 d2 hbs hsi' hB3 cP hPl q0 q1 q2 q3 hbs1 hm1 hm2 hm3 hP1 hP2 hP3
     go_wp2
     go_roundw
     case rel=>exact ⟨i+1,by omega,by go_num,hr3,cP3,hb3⟩
     case measure=>simp [intOf];omega
    ·obtain rfl:i=len':=by omega
     rw [← hst'.out] at hr
     clear hst' hcase'
     go_wp2
     go_roundw
     case rel=>exact ⟨k+1,by omega,by go_num,hr,cP,hbel⟩
     case measure=>simp [intOf];omega
  ·obtain rfl:k=3:=by omega
   rw [← hE.out] at hr
   have hpos:0<(progNums rows).length:=progNums_pos h3
   obtain ⟨g,c2,hu4⟩:=own_some hr hpos
   subst hu4
   have hI2:Ints .i64 wr (some ⟨g,0,none⟩) (progNums rows).length c2 (progNums rows):=Ints.of_owns hr
   clear hr hE hcell
   go_wp2_with fail
   refine (l01List_any _ _ _ (progNums rows) _ hI2 (by omega) hall).mono ?_
   rintro e w4 ⟨rfl,hb4⟩
   clear hall hI2
   go_wp2
   go_ret
   exact ⟨rfl,bel_trans hbel hb4⟩
end Go.Proofs.YtdopgkbegjfhjaaGreatDoor
