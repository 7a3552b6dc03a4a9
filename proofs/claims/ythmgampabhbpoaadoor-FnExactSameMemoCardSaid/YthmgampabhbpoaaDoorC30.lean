/-
  Joined: MrgB, PackNum0.
-/
import Derived.Shelf.Abstract
import Derived.Deep.RegionLaw
import Derived.Laws.OwnMore
import Derived.Maps.AppendAt
import Derived.Deep.Cut
import Derived.Test.YthmgampabhbpoaaDoorC03
import Derived.Test.YthmgampabhbpoaaDoorC04
import Derived.Test.YthmgampabhbpoaaDoorC09

namespace Go.Proofs.YthmgampabhbpoaaDoor
set_option maxRecDepth 100000
set_option maxHeartbeats 16000000
open Go.RowKit
set_option linter.unusedVariables false
set_option linter.unusedSimpArgs false

def okBs (xs:List I3):Bool:=xs.all okB
theorem okBs_step {xs:List I3} {k:Nat} (hk:k<xs.length):okBs (xs.drop k)=(okB (xs.getD k (0,0,0)) && okBs (xs.drop (k+1))):=by
 unfold okBs
 rw [List.drop_eq_getElem_cons hk,List.all_cons,List.getD,List.getElem?_eq_getElem hk,Option.getD_some]
theorem bugsOK_is (a:Option Addr) (n cap:Nat) (xs:List I3) (w:World) (h:Instrs w a n cap xs) (hn:n≤1048576) :
  Calls Tryd.prog 86 #[.slice a n cap] w fun e w'=>e=.returned (.bool (okBs xs))∧Below w.heap.size w w':=by
 have hl:=h.1
 obtain ⟨r,hr⟩:∃ r,r=okBs xs:=⟨_,rfl⟩
 rw [← hr]
 have HR:Hid (r=okBs (xs.drop 0)):=by rw [Hid];simpa using hr
 clear hr
 go_enter Tryd.func86,Tryd.ntmps86
 go_wp2_with fail
 go_loopw [7] (fun si wr=>∃ k:Nat,k≤n∧si=.int .i64 k∧Hid (r=okBs (xs.drop k))∧Below w.heap.size w wr) (fun si _=>n - (intOf si).toNat)
 case atStart=>exact ⟨0,by omega,rfl,HR,Below.refl _ _⟩
 case round =>
  clear HR
  obtain ⟨k,hk,rfl,HR,bw⟩:=hrel
  by_cases hlt:k<n
  ·obtain ⟨_,_,_,_,hcase⟩:=h.below bw
   rcases hcase with e0 | ⟨b,off,rfl,hb,hc⟩
   ·omega
   obtain ⟨d0,d1,d2⟩:=hc k hlt
   clear hc hb
   have hst:=okBs_step (xs:=xs) (k:=k) (by omega)
   have kB:=implBugOK_is (xs.getD k (0,0,0))
   generalize xs.getD k (0,0,0)=x at *
   have HS:Hid (okBs (xs.drop k)=(okB x && okBs (xs.drop (k+1)))):=hst
   clear hst
   have hlt':(k:Int)<(n:Int):=by omega
   have hk0:(0:Int)≤(k:Int):=by omega
   cases hx:okB x
   ·have HF:Hid (r=false):=by rw [Hid,HR.out,HS.out,hx];rfl
    rw [hx] at kB
    clear hx HS HR
    obtain ⟨x0,x1,x2⟩:=x
    unfold I3.val at kB
    simp only at d0 d1 d2 kB
    go_wp2_with fail
    refine (kB _).mono ?_
    rintro e w1 ⟨rfl,hb1⟩
    have bw1:=bel_trans bw (bel_trans (by go_grown) hb1)
    clear hb1 d0 d1 d2 kB
    go_wp2
    go_ret
    exact ⟨by rw [HF.out];rfl,bw1⟩
   ·have HF:Hid (r=okBs (xs.drop (k+1))):=by rw [Hid,HR.out,HS.out,hx];rfl
    rw [hx] at kB
    clear hx HS HR
    obtain ⟨x0,x1,x2⟩:=x
    unfold I3.val at kB
    simp only at d0 d1 d2 kB
    go_wp2_with fail
    refine (kB _).mono ?_
    rintro e w1 ⟨rfl,hb1⟩
    have bw1:=bel_trans bw (bel_trans (by go_grown) hb1)
    clear hb1 d0 d1 d2 kB
    go_wp2
    go_roundw
    case rel=>exact ⟨k+1,by omega,by go_num,HF,bw1⟩
    case measure=>simp [intOf];omega
  ·obtain rfl:k=n:=by omega
   have HF:Hid (r=true):=by rw [Hid,HR.out,List.drop_of_length_le (by omega)];rfl
   clear HR
   go_wp2
   go_ret
   exact ⟨by rw [HF.out];rfl,bw⟩


theorem l01Number_any (n:Nat) (w:World) (hn:n≤999999999) :
  Calls Tryd.prog 120 #[.int .i64 n] w fun e w'=>e=.returned (.string (strOfNums (pack n)))∧Below w.heap.size w w':=by
 obtain ⟨i0,hi,hz0,hz1,hz2⟩:=info_parts info_u8
 go_enter Tryd.func120,Tryd.ntmps120
 go_wp2
 go_loopw [0,3] (fun si sv wr=>∃ (k:Nat) (ys:List Int),k≤999999999∧si=.int .i64 k∧wr.ownsRow w.heap.size 5 1 sv ys.length (u8s ys)∧Hid (ys++pack k=pack n)∧Below w.heap.size w wr) (fun si _ _=>(intOf si).toNat)
 case atStart=>exact ⟨n,[],hn,rfl,World.ownsRow_lit w #[] 0 (Nat.le_refl _) (by unfold maxLen;omega) rfl,by simp [Hid],(Below.refl _ _).alloc (Nat.le_refl _) _⟩
 case round =>
  obtain ⟨k,ys,hk,rfl,ho,HY,hbel⟩:=hrel
  have hlen:ys.length≤4:=by
   have h1:=congrArg List.length HY.out
   have h2:=pack_len k
   have h3:=pack_len n
   simp at h1;omega
  have hbw:w.heap.size≤wr.heap.size:=hbel.size
  by_cases hlt:128≤k
  ·go_wp2_with (at_builtin;refine wpList_append_own _ rfl _ _ 128 rfl w.heap.size 5 i0 (.int .u8 0) 1 1 Tryd.underlying128 hi hz0 hz1 hz2 rfl (by decide) _ _ _ rfl (ho.alloc _) ⟨wr.heap.size,0,none⟩ 1 1 [.int .u8 (128+(k:Int) % 128)] rfl rfl (cell_one_new _ _ _) (one_u8 _) ?c3 ?c4 ?c5 ?_)
   case c3=>unfold maxLen;omega
   case c4=>omega
   case c5=>simp;omega
   intro v' w1 hown' hgrow _
   have hcomm:(128+(k:Int) % 128)=(k:Int) % 128+128:=by omega
   rw [hcomm] at hown'
   clear hcomm
   have R:w1.ownsRow w.heap.size 5 1 v' (ys++[(k:Int) % 128+128]).length (u8s (ys++[(k:Int) % 128+128])):=by simpa [Nat.add_assoc] using hown'
   have hb1:Below w.heap.size w w1:=(hbel.alloc hbw _).grown hgrow (by simp;omega) (fun j hj=>(ho.lt _ hj).1)
   clear hown' hgrow ho
   go_wp2
   go_roundw
   case rel=>exact ⟨k / 128,ys++[(k:Int) % 128+128],by omega,by go_num,R,by rw [Hid,List.append_assoc,List.singleton_append,← pack_step hlt (by omega)];exact HY.out,hb1⟩
   case measure=>simp [intOf];omega
  ·go_wp2_with (at_builtin;refine wpList_append_own _ rfl _ _ 128 rfl w.heap.size 5 i0 (.int .u8 0) 1 1 Tryd.underlying128 hi hz0 hz1 hz2 rfl (by decide) _ _ _ rfl (ho.alloc _) ⟨wr.heap.size,0,none⟩ 1 1 [.int .u8 (k:Int)] rfl rfl (cell_one_new _ _ _) (one_u8 _) ?d3 ?d4 ?d5 ?_)
   case d3=>unfold maxLen;omega
   case d4=>omega
   case d5=>simp;omega
   intro v' w1 hown' hgrow _
   have hb1:Below w.heap.size w w1:=(hbel.alloc hbw _).grown hgrow (by simp;omega) (fun j hj=>(ho.lt _ hj).1)
   have hp:pack n=ys++[(k:Int)]:=by rw [← HY.out,pack_small (by omega)]
   have R:w1.ownsRow w.heap.size 5 1 v' (ys.length+1) (u8s (pack n)):=by rw [hp];simpa [Nat.add_assoc] using hown'
   have hcv:=conv_owned R
   clear hown' hgrow ho hp HY R
   go_wp2
   go_ret
   exact ⟨rfl,hb1⟩

end Go.Proofs.YthmgampabhbpoaaDoor
