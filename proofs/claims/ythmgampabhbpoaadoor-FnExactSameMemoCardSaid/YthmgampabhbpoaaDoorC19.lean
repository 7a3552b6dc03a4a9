/-
  Joined: EqlB.
-/
import Derived.Laws.StructEq
import Derived.Test.YthmgampabhbpoaaDoorC18

namespace Go.Proofs.YthmgampabhbpoaaDoor
set_option maxRecDepth 100000
set_option maxHeartbeats 16000000
open Go.RowKit

theorem bel_drewN9 (w:World) (n:Nat):Below w.heap.size w (w.drewN n):=⟨rfl,rfl,rfl,Nat.le_refl _,fun _ _=>rfl⟩

theorem eqlB_is (a a':Option Addr) (len len' cap cap':Nat) (xs ys:List I3) (w:World) (h:Instrs w a len cap xs) (h':Instrs w a' len' cap' ys) (hlen:len=len') (hpos:len≠0) :
  Calls Tryd.prog 108 #[.slice a len cap,.slice a' len' cap'] w fun e w'=>e=.returned (.bool (decide (xs=ys)))∧Below w.heap.size w w':=by
 subst hlen
 obtain ⟨hl,hlc,hcm,_,hcase⟩:=h
 obtain ⟨hl',hlc',hcm',_,hcase'⟩:=h'
 unfold maxLen at hcm hcm'
 rcases hcase with h0' | ⟨b,off,rfl,hblt,hcell⟩
 ·exact absurd h0' hpos
 rcases hcase' with h0' | ⟨b',off',rfl,hblt',hcell'⟩
 ·exact absurd h0' hpos
 have hne:((len:Int) != (len:Int))=false:=by simp
 go_enter Tryd.func108,Tryd.ntmps108
 go_wp2
 go_loopw [13] (fun si wr=>∃ (k:Nat),k≤len∧si=.int .i64 k∧xs.take k=ys.take k∧Below w.heap.size w wr) (fun si _=>len - (intOf si).toNat)
 case atStart=>exact ⟨0,by omega,rfl,by simp,Below.refl _ _⟩
 case round =>
  obtain ⟨k,hk,rfl,hH,hbel⟩:=hrel
  have hH':Hid (xs.take k=ys.take k):=hH
  clear hH
  by_cases hlt:k<len
  ·obtain ⟨c0,c1,c2⟩:=hcell k hlt
   obtain ⟨e0,e1,e2⟩:=hcell' k hlt
   rw [← hbel.cell (p:=⟨b,_,none⟩) hblt] at c0 c1 c2
   rw [← hbel.cell (p:=⟨b',_,none⟩) hblt'] at e0 e1 e2
   have hlt':(k:Int)<(len:Int):=by omega
   have hk0:(0:Int)≤(k:Int):=by omega
   have hxg:Hid (xs.getD k (0,0,0)=xs[k]'(by omega)∧ys.getD k (0,0,0)=ys[k]'(by omega)):=⟨by simp [List.getD,hl,hlt],by simp [List.getD,hl',hlt]⟩
   by_cases hxy:xs.getD k (0,0,0)=ys.getD k (0,0,0)
   ·have hH2:Hid (xs.take (k+1)=ys.take (k+1)):=by
     rw [Hid,List.take_succ_eq_append_getElem (by omega),List.take_succ_eq_append_getElem (by omega),hH'.out,← hxg.out.1,← hxg.out.2,hxy]
    rw [← hxy] at e0 e1 e2
    clear hcell hcell' hxg hxy hH'
    generalize xs.getD k (0,0,0)=x at c0 c1 c2 e0 e1 e2
    obtain ⟨x0,x1,x2⟩:=x
    simp only [] at c0 c1 c2 e0 e1 e2
    go_wp2_with fail
    go_quiet (fail)
    have hb2:Below w.heap.size w (wr.drewN nq):=bel_trans hbel (bel_drewN9 _ _)
    go_wp2
    go_roundw
    case rel=>exact ⟨k+1,by omega,by go_num,hH2.out,hb2⟩
    case measure=>simp [intOf];omega
   ·have hff:Hid (decide (xs=ys)=false):=by
     rw [Hid,decide_eq_false_iff_not]
     intro h
     subst h
     exact hxy rfl
    clear hcell hcell' hxg hH'
    generalize xs.getD k (0,0,0)=x at c0 c1 c2 hxy
    generalize ys.getD k (0,0,0)=y at e0 e1 e2 hxy
    obtain ⟨x0,x1,x2⟩:=x
    obtain ⟨y0,y1,y2⟩:=y
    simp only [] at c0 c1 c2 e0 e1 e2
    have hb2:∀ nq,Below w.heap.size w (wr.drewN nq):=fun nq=>bel_trans hbel (bel_drewN9 _ _)
    by_cases h0:x0=y0
    ·subst h0
     by_cases h1:x1=y1
     ·subst h1
      have h2:(x2 == y2)=false:=by
       simp only [beq_eq_false_iff_ne]
       intro h
       exact hxy (by rw [h])
      clear hxy
      go_wp2_with fail
      go_quiet (fail)
      go_wp2
      go_ret
      exact ⟨by rw [hff.out];rfl,hb2 _⟩
     ·have h1':(x1 == y1)=false:=by simpa using h1
      clear hxy
      go_wp2_with fail
      go_quiet (fail)
      go_wp2
      go_ret
      exact ⟨by rw [hff.out];rfl,hb2 _⟩
    ·have h0':(x0 == y0)=false:=by simpa using h0
     clear hxy
     go_wp2_with fail
     go_quiet (fail)
     go_wp2
     go_ret
     exact ⟨by rw [hff.out];rfl,hb2 _⟩
  ·obtain rfl:k=len:=by omega
   have hff:decide (xs=ys)=true:=by
    have:=hH'.out
    rw [List.take_of_length_le (by omega),List.take_of_length_le (by omega)] at this
    simpa using this
   clear hcell hcell' hH'
   go_wp2
   go_ret
   exact ⟨by rw [hff];rfl,hbel⟩

theorem eqlB_lens (a a':Option Addr) (len len' cap cap':Nat) (w:World) (hlen:len≠len') :
  Calls Tryd.prog 108 #[.slice a len cap,.slice a' len' cap'] w fun e w'=>e=.returned (.bool false)∧Below w.heap.size w w':=by
 have hne:((len:Int) != (len':Int))=true:=by simp;omega
 go_enter Tryd.func108,Tryd.ntmps108
 go_wp2
 go_ret
 exact ⟨rfl,Below.refl _ _⟩
theorem eqlB_none (a a':Option Addr) (cap cap':Nat) (w:World) :
  Calls Tryd.prog 108 #[.slice a 0 cap,.slice a' 0 cap'] w fun e w'=>e=.returned (.bool true)∧Below w.heap.size w w':=by
 go_enter Tryd.func108,Tryd.ntmps108
 go_wp2
 refine wp_loop_rounds 1 ?_
 rw [rounds_succ]
 go_wp2
 go_ret
 exact ⟨rfl,Below.refl _ _⟩
theorem eqlB_any (a a':Option Addr) (len len' cap cap':Nat) (xs ys:List I3) (w:World) (h:Instrs w a len cap xs) (h':Instrs w a' len' cap' ys) :
  Calls Tryd.prog 108 #[.slice a len cap,.slice a' len' cap'] w fun e w'=>e=.returned (.bool (decide (xs=ys)))∧Below w.heap.size w w':=by
 by_cases hl:len=len'
 ·by_cases h0:len=0
  ·subst h0
   subst hl
   obtain rfl:xs=[]:=List.length_eq_zero_iff.1 h.1
   obtain rfl:ys=[]:=List.length_eq_zero_iff.1 h'.1
   simpa using eqlB_none a a' cap cap' w
  ·exact eqlB_is a a' len len' cap cap' xs ys w h h' hl h0
 ·have hd:decide (xs=ys)=false:=by
   rw [decide_eq_false_iff_not]
   intro e
   subst e
   exact hl (h.1.symm.trans h'.1)
  rw [hd]
  exact eqlB_lens a a' len len' cap cap' w hl
theorem eqlI_lens (a a':Option Addr) (len len' cap cap':Nat) (w:World) (hlen:len≠len') :
  Calls Tryd.prog 109 #[.slice a len cap,.slice a' len' cap'] w fun e w'=>e=.returned (.bool false)∧Below w.heap.size w w':=by
 have hne:((len:Int) != (len':Int))=true:=by simp;omega
 go_enter Tryd.func109,Tryd.ntmps109
 go_wp2
 go_ret
 exact ⟨rfl,Below.refl _ _⟩
theorem eqlI_none (a a':Option Addr) (cap cap':Nat) (w:World) :
  Calls Tryd.prog 109 #[.slice a 0 cap,.slice a' 0 cap'] w fun e w'=>e=.returned (.bool true)∧Below w.heap.size w w':=by
 go_enter Tryd.func109,Tryd.ntmps109
 go_wp2
 refine wp_loop_rounds 1 ?_
 rw [rounds_succ]
 go_wp2
 go_ret
 exact ⟨rfl,Below.refl _ _⟩
theorem eqlI_any (a a':Option Addr) (len len' cap cap':Nat) (xs ys:List Int) (w:World) (h:Ints .i64 w a len cap xs) (h':Ints .i64 w a' len' cap' ys) :
  Calls Tryd.prog 109 #[.slice a len cap,.slice a' len' cap'] w fun e w'=>e=.returned (.bool (decide (xs=ys)))∧Below w.heap.size w w':=by
 by_cases hl:len=len'
 ·by_cases h0:len=0
  ·subst h0
   subst hl
   obtain rfl:xs=[]:=List.length_eq_zero_iff.1 h.1
   obtain rfl:ys=[]:=List.length_eq_zero_iff.1 h'.1
   simpa using eqlI_none a a' cap cap' w
  ·exact (by subst hl;exact equalI_is a a' len cap cap' xs ys w h h' h0)
 ·have hd:decide (xs=ys)=false:=by
   rw [decide_eq_false_iff_not]
   intro e
   subst e
   exact hl (h.1.symm.trans h'.1)
  rw [hd]
  exact eqlI_lens a a' len len' cap cap' w hl
end Go.Proofs.YthmgampabhbpoaaDoor
