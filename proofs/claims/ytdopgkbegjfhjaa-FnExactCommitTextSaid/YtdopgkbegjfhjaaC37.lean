/-
  Joined: RecK.
-/
import Derived.Laws.Strings
import Derived.Laws.Tables
import Derived.Maps.OwnSet
import Derived.Maps.OwnOps
import Derived.Maps.Own
import Derived.Maps.AppendAt
import Derived.Shelf.SlIterI.Nil
import Derived.Shelf.SortM.Plain
import Derived.Shelf.SortM.SortNone
import Derived.Test.YtdopgkbegjfhjaaC07
import Derived.Test.YtdopgkbegjfhjaaC16
import Derived.Test.YtdopgkbegjfhjaaC20
import Derived.Test.YtdopgkbegjfhjaaC30
import Derived.Test.YtdopgkbegjfhjaaC35
import Derived.Test.YtdopgkbegjfhjaaC36

namespace Go.Proofs.Ytdopgkbegjfhjaa
set_option maxRecDepth 100000
set_option maxHeartbeats 16000000
open Go.RowKit
set_option linter.unusedVariables false
set_option linter.unusedSimpArgs false

def unT:List I3→List Int
 | []=>[]
 | x::xs=>x.1::x.2.1::x.2.2::unT xs
theorem unT_len:∀ xs:List I3,(unT xs).length=3*xs.length
 | []=>rfl
 | x::xs=>by
  simp only [unT,List.length_cons,unT_len xs]
  omega
theorem unT_app:∀ xs ys:List I3,unT (xs++ys)=unT xs++unT ys
 | [],ys=>rfl
 | x::xs,ys=>by simp [unT,unT_app xs ys]
theorem unT_take {xs:List I3} {k:Nat} (h:k<xs.length):unT (xs.take (k+1))=unT (xs.take k)++[(xs.getD k (0,0,0)).1,(xs.getD k (0,0,0)).2.1,(xs.getD k (0,0,0)).2.2]:=by
 rw [List.take_succ_eq_append_getElem h,unT_app]
 simp [unT,List.getD,h]
def cellsI (zs:List Int):List Value:=zs.map (Value.int .i64)
theorem cellsI_app (a b:List Int):cellsI (a++b)=cellsI a++cellsI b:=List.map_append

theorem l13Commit_is (a:Option Addr) (n cap:Nat) (xs:List I3) (w:World) (h:Instrs w a n cap xs) (hn:n≤1000) (hok:allOk (unT xs)) :
  Calls Try.prog 10 #[.slice a n cap] w fun e w'=>e=.returned (.string (strOfNums (packL (unT xs))))∧Below w.heap.size w w':=by
 obtain ⟨i0,hi,hz0,hz1,hz2⟩:=info_parts info_int
 obtain ⟨hl,hlc,hcm,_,hcase⟩:=h
 unfold maxLen at hcm
 have HK:Hid (allOk (unT xs)):=hok
 clear hok
 go_enter Try.func10,Try.ntmps10
 go_wp2
 go_loopw [3,4] (fun sv si wr=>∃ k q:Nat,k≤n∧Hid (q=3*k)∧si=.int .i64 (k:Int)∧wr.ownsRow w.heap.size 3 1 sv q (cellsI (unT (xs.take k)))∧Below w.heap.size w wr) (fun _ si _=>n - (intOf si).toNat)
 case atStart=>exact ⟨0,0,Nat.zero_le _,rfl,rfl,World.ownsRow_lit w #[] 0 (Nat.le_refl _) (by unfold maxLen;omega) rfl,by go_grown⟩
 case round =>
  obtain ⟨k,q,hk,hq,rfl,hr,hb⟩:=hrel
  by_cases hlt:k<n
  ·rcases hcase with h0 | ⟨b,off,rfl,hbl,hc⟩
   ·omega
   obtain ⟨d0,d1,d2⟩:=hc k hlt
   rw [← hb.cell (p:=⟨b,_,none⟩) hbl] at d0 d1 d2
   have hst:Hid (cellsI (unT (xs.take (k+1)))=cellsI (unT (xs.take k))++[.int .i64 (xs.getD k (0,0,0)).1,.int .i64 (xs.getD k (0,0,0)).2.1,.int .i64 (xs.getD k (0,0,0)).2.2]):=by
    rw [Hid,unT_take (by omega),cellsI_app]
    rfl
   clear hc
   generalize xs.getD k (0,0,0)=x at d0 d1 d2 hst
   have hlt2:(k:Int)<(n:Int):=by omega
   have hk0:(0:Int)≤(k:Int):=by omega
   have hq3:q≤3000:=by have:=hq.out;omega
   have hm1:q+3≤maxLen:=by unfold maxLen;omega
   have hm2:(q+3)*8≤140737488355328:=by omega
   have hm3:w.heap.size≤(wr.alloc (.cells #[.int .i64 x.1,.int .i64 x.2.1,.int .i64 x.2.2] 3)).drew.heap.size:=by have:=hb.size;simp;omega
   have hbis:=hb.size
   go_wp2_with fail
   go_region_held3 (fun w'=>w'.cell? ⟨b,off+k*3,none⟩=some (.int .i64 x.1)∧w'.cell? ⟨b,off+k*3+1,none⟩=some (.int .i64 x.2.1)∧w'.cell? ⟨b,off+k*3+2,none⟩=some (.int .i64 x.2.2)) (first | (exact ⟨d0,d1,d2⟩) | (exact ⟨q1,q2,q3⟩) | go_keep)
    (first | (refine step_append_mine rfl _ _ 37 rfl w.heap.size 3 i0 (.int .i64 0) 1 8 Try.underlying37 hi hz0 hz1 hz2 rfl (by decide) _ q (cellsI (unT (xs.take k))) rfl (own_dr (hr.alloc _)) ⟨wr.heap.size,0,none⟩ 3 3 [.int .i64 x.1,.int .i64 x.2.1,.int .i64 x.2.2] rfl rfl (three_dr wr _ _ _ _) (three_i64 _ _ _) hm1 hm2 hm3 ?_;intro v3 w3 hown3 hgrow3;have hB3:=below_app3 hbis hr hgrow3;have q1:=cells_lo3 hB3 hbl d0;have q2:=cells_lo3 hB3 hbl d1;have q3:=cells_lo3 hB3 hbl d2))
   have hr3:w3.ownsRow w.heap.size 3 1 v3 (q+3) (cellsI (unT (xs.take (k+1)))):=by rw [hst.out];exact hown3
   have hb3:Below w.heap.size w w3:=hb.trans hB3
   clear hown3 hgrow3 hB3 q1 q2 q3 d0 d1 d2 hr hb hm1 hm2 hm3 hbis hst
   go_wp2
   go_roundw
   case rel=>exact ⟨k+1,q+3,by omega,by have:=hq.out;rw [Hid];omega,by go_num,hr3,hb3⟩
   case measure=>simp [intOf];omega
  ·obtain rfl:k=n:=by omega
   rw [show xs.take k=xs by rw [← hl,List.take_length]] at hr
   have hql:(unT xs).length=q:=by rw [unT_len,hl,hq.out]
   have hqn:q≤4096:=by have:=hq.out;omega
   obtain ⟨a2,c2,rfl,hI⟩:∃ a2 c2,u3=.slice a2 q c2∧Ints .i64 wr a2 q c2 (unT xs):=by
    rcases id hr.2 with ⟨rfl,h0⟩ | ⟨g,c9,cur,rfl,_⟩
    ·have h00:unT xs=[]:=List.eq_nil_of_length_eq_zero (by omega)
     rw [h00]
     exact ⟨none,0,by rw [h0],by rw [h0];exact ⟨rfl,Nat.le_refl _,by unfold maxLen;omega,.inl rfl⟩⟩
    ·exact ⟨_,c9,rfl,Ints.of_owns hr⟩
   clear hr
   have hx9:¬ (k:Int)<(k:Int):=by omega
   go_wp2_with fail
   refine (l01List_any a2 q c2 (unT xs) _ hI hqn HK.out).mono ?_
   rintro e w4 ⟨rfl,b4⟩
   go_wp2
   go_ret
   exact ⟨rfl,belD hb b4⟩
end Go.Proofs.Ytdopgkbegjfhjaa
