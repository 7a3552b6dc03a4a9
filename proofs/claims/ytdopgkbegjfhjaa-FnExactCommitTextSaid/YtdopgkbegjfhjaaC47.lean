/-
  Joined: TxeI.
-/
import Derived.Laws.RangeString
import Derived.Laws.RangeAny
import Derived.Laws.Bits
import Derived.Deep.Cut
import Derived.Shelf.SlSortCmp.Insertion
import Derived.Shelf.Small.Strs
import Derived.Test.YtdopgkbegjfhjaaC15
import Derived.Test.YtdopgkbegjfhjaaC26
import Derived.Test.YtdopgkbegjfhjaaC41
import Derived.Test.YtdopgkbegjfhjaaC45

namespace Go.Proofs.Ytdopgkbegjfhjaa
set_option maxRecDepth 100000
set_option maxHeartbeats 16000000
open Go.RowKit
set_option linter.unusedVariables false
set_option linter.unusedSimpArgs false

theorem numbersOfBugs_is (a:Option Addr) (n cap:Nat) (xs:List I3) (w:World) (h:Instrs w a n cap xs) (hn:n≤30) :
  Calls Try.prog 14 #[.slice a n cap] w fun e w'=>RowGot e w' w.heap.size (rowNums xs)∧Below w.heap.size w w':=by
 obtain ⟨i1,hi1,hz10,hz11,hz12⟩:=info_parts info_int
 have hl:=h.1
 go_enter Try.func14,Try.ntmps14
 go_wp2_with fail
 go_loopw [3,8] (fun so si wr=>∃ (k:Nat) (va:Option Addr) (vn vc:Nat),k≤n∧si=.int .i64 k∧so=.slice va vn vc∧wr.ownsRow w.heap.size 3 1 (.slice va vn vc) (rowNums (xs.take k)).length ((rowNums (xs.take k)).map (Value.int .i64))∧Below w.heap.size w wr) (fun _ si _=>n - (intOf si).toNat)
 case atStart=>exact ⟨0,none,0,0,by omega,rfl,rfl,by simpa [rowNums] using World.ownsRow_nil _ _ _ _,Below.refl _ _⟩
 case round =>
  obtain ⟨k,xa,xn,xc,hk,rfl,rfl,ho,bw⟩:=hrel
  by_cases hlt:k<n
  ·obtain ⟨_,_,_,_,hcase⟩:=h.below bw
   rcases hcase with e0 | ⟨b,off,rfl,hb,hc⟩
   ·omega
   obtain ⟨x0,x1,x2⟩:=hc k hlt
   clear hc hb
   have hst:=rowNums_step (xs:=xs) (k:=k) (by omega)
   have hrl:(rowNums (xs.take k)).length≤90:=by rw [rowNums_length,List.length_take];omega
   generalize rowNums (xs.take k)=R at *
   generalize xs.getD k (0,0,0)=x at *
   obtain ⟨p0,p1,p2⟩:=x
   simp only at x0 x1 x2 hst
   have HS:Hid (rowNums (xs.take (k+1))=R++[p0,p1,p2]):=hst
   clear hst
   have hlt':(k:Int)<(n:Int):=by omega
   have hk0:(0:Int)≤(k:Int):=by omega
   have hb2:Below wr.heap.size wr ((wr.alloc (.cells #[.int .i64 p0,.int .i64 p1,.int .i64 p2] 33)).alloc (.cells #[.int .i64 p0,.int .i64 p1,.int .i64 p2] 3)):=by go_grown
   have ho2:=owns8 ho hb2
   have hs2:=bw.size
   have hs3:w.heap.size≤((wr.alloc (.cells #[.int .i64 p0,.int .i64 p1,.int .i64 p2] 33)).alloc (.cells #[.int .i64 p0,.int .i64 p1,.int .i64 p2] 3)).heap.size:=by have:=hb2.size;omega
   have hnw:∀ ad,some (⟨wr.heap.size+1,0,none⟩:Addr)=some ad→∀ j u,([p0,p1,p2].map (Value.int .i64))[j]?=some u→((wr.alloc (.cells #[.int .i64 p0,.int .i64 p1,.int .i64 p2] 33)).alloc (.cells #[.int .i64 p0,.int .i64 p1,.int .i64 p2] 3)).cell? (ad.add j)=some u:=by
    have h9:=news_new9 (wr.alloc (.cells #[.int .i64 p0,.int .i64 p1,.int .i64 p2] 33)) [.int .i64 p0,.int .i64 p1,.int .i64 p2] 3
    have e9:(wr.alloc (.cells #[.int .i64 p0,.int .i64 p1,.int .i64 p2] 33)).heap.size=wr.heap.size+1:=by simp
    rw [e9] at h9
    exact h9
   go_wp2_with (at_builtin;refine wpList_app9 rfl _ _ 37 rfl w.heap.size 3 i1 (.int .i64 0) 1 8 Try.underlying37 hi1 hz10 hz11 hz12 rfl (by decide) _ _ _ rfl ho2 _ 3 3 rfl (fun h9=>by cases h9) ([p0,p1,p2].map (Value.int .i64)) (by simp) hnw (one8 _) (by unfold maxLen;omega) (by omega) hs3 ?_)
   intro v3 w3 hown hgrow _
   have q3:w3.ownsRow w.heap.size 3 1 v3 (R++[p0,p1,p2]).length ((R++[p0,p1,p2]).map (Value.int .i64)):=by rw [List.map_append,List.length_append];exact hown
   obtain ⟨va9,vc9,rfl⟩:=slice8 q3
   have hgB:∀ g,(Value.ownBlock (.slice xa xn xc))=some g→w.heap.size≤g:=fun g hg=>(ho2.lt g hg).1
   have b3:Below w.heap.size w w3:=(bel8 bw hb2).grown hgrow hs3 (fun g hg=>hgB g hg)
   clear ho ho2 hs2 hs3 hown hgrow hgB hb2 hnw x0 x1 x2
   go_wp2
   go_roundw
   case rel=>exact ⟨k+1,_,_,_,by omega,by go_num,rfl,by rw [HS.out];exact q3,b3⟩
   case measure=>simp [intOf];omega
  ·obtain rfl:k=n:=by omega
   have e9:rowNums (xs.take k)=rowNums xs:=by rw [List.take_of_length_le (by omega)]
   rw [e9] at ho
   clear e9
   go_wp2
   go_ret
   exact ⟨⟨_,rfl,ho⟩,bw⟩

end Go.Proofs.Ytdopgkbegjfhjaa
