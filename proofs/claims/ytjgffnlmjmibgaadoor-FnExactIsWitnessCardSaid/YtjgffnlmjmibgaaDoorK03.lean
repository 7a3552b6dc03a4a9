/-
  Joined: Prog4, SizeB.
-/
import Derived.Test.YtjgffnlmjmibgaaDoorK02

namespace Go.Proofs.YtjgffnlmjmibgaaDoor
set_option maxRecDepth 100000
set_option maxHeartbeats 16000000
open Go.RowKit

theorem cells_kept {w w':World} (h:Below w.heap.size w w'):∀ (p:Addr) (v:Value),w.cell? p=some v→w'.cell? p=some v:=by
 intro p v hv
 have hlt:p.block<w.heap.size:=by
  rcases Nat.lt_or_ge p.block w.heap.size with h' | h'
  ·exact h'
  ·simp [World.cell?,Array.getElem?_eq_none h'] at hv
 rw [h.cell hlt]
 exact hv

theorem eqInstrS_same (a a':Option Addr) (len cap cap':Nat) (xs:List I3) (w:World) (h:Instrs w a len cap xs) (h':Instrs w a' len cap' xs) :
  Calls Tryd.prog 79 #[.slice a len cap,.slice a' len cap'] w fun e w'=>e=.returned (.bool true)∧Below w.heap.size w w':=by
 obtain ⟨hl,hlc,hcm,_,hcase⟩:=h
 obtain ⟨_,hlc',hcm',_,hcase'⟩:=h'
 unfold maxLen at hcm hcm'
 have hne:((len:Int) != (len:Int))=false:=by simp
 by_cases h0:len=0
 ·subst h0
  go_enter Tryd.func79,Tryd.ntmps79
  go_wp2
  refine wp_loop_rounds 1 ?_
  rw [rounds_succ]
  go_wp2
  go_ret
  exact ⟨rfl,Below.refl _ _⟩
 ·rcases hcase with h0' | ⟨b,off,rfl,hblt,hcell⟩
  ·exact absurd h0' h0
  rcases hcase' with h0' | ⟨b',off',rfl,hblt',hcell'⟩
  ·exact absurd h0' h0
  go_enter Tryd.func79,Tryd.ntmps79
  go_wp2
  go_loopw [5] (fun si wr=>∃ k:Nat,k≤len∧si=.int .i64 k∧Below w.heap.size w wr) (fun si _=>len - (intOf si).toNat)
  case atStart=>exact ⟨0,by omega,rfl,Below.refl _ _⟩
  case round =>
   obtain ⟨k,hk,rfl,hbel⟩:=hrel
   by_cases hlt:k<len
   ·obtain ⟨c0,c1,c2⟩:=hcell k hlt
    obtain ⟨e0,e1,e2⟩:=hcell' k hlt
    rw [← hbel.cell (p:=⟨b,_,none⟩) hblt] at c0 c1 c2
    rw [← hbel.cell (p:=⟨b',_,none⟩) hblt'] at e0 e1 e2
    have hlt':(k:Int)<(len:Int):=by omega
    generalize xs.getD k (0,0,0)=x at c0 c1 c2 e0 e1 e2
    clear hcell hcell'
    go_wp2_with fail
    have hk0:(0:Int)≤(k:Int):=by omega
    go_region_held3 (fun w'=>w'.cell? ⟨b,off+k*3,none⟩=some (.int .i64 x.1)∧w'.cell? ⟨b,off+k*3+1,none⟩=some (.int .i64 x.2.1)∧w'.cell? ⟨b,off+k*3+2,none⟩=some (.int .i64 x.2.2)∧w'.cell? ⟨b',off'+k*3,none⟩=some (.int .i64 x.1)∧w'.cell? ⟨b',off'+k*3+1,none⟩=some (.int .i64 x.2.1)∧w'.cell? ⟨b',off'+k*3+2,none⟩=some (.int .i64 x.2.2)) (first | (exact ⟨c0,c1,c2,e0,e1,e2⟩) | (refine ⟨?_,?_,?_,?_,?_,?_⟩<;>(apply cells_kept (by assumption);assumption)) | go_keep)
     (first | (go_at_call 109;refine (eqInstr_same x _).mono ?_;rintro e w1 ⟨rfl,hb1⟩))
    have hbel1:Below w.heap.size w w1:=bel_trans hbel (bel_trans (by go_grown) hb1)
    go_wp2
    go_roundw
    case rel=>exact ⟨k+1,by omega,by go_num,hbel1⟩
    case measure=>simp [intOf];omega
   ·go_wp2
    go_ret
    exact ⟨rfl,hbel⟩

theorem eqInstrSS_same (a a':Option Addr) (len cap cap':Nat) (rows:List (List I3)) (w:World) (h:Codes w a len cap rows) (h':Codes w a' len cap' rows) :
  Calls Tryd.prog 45 #[.slice a len cap,.slice a' len cap'] w fun e w'=>e=.returned (.bool true)∧Below w.heap.size w w':=by
 obtain ⟨hl,hlc,hcm,hcase⟩:=h
 obtain ⟨_,hlc',hcm',hcase'⟩:=h'
 unfold maxLen at hcm hcm'
 have hne:((len:Int) != (len:Int))=false:=by simp
 by_cases h0:len=0
 ·subst h0
  go_enter Tryd.func45,Tryd.ntmps45
  go_wp2
  refine wp_loop_rounds 1 ?_
  rw [rounds_succ]
  go_wp2
  go_ret
  exact ⟨rfl,Below.refl _ _⟩
 ·rcases hcase with h0' | ⟨b,off,rfl,hblt,hcell⟩
  ·exact absurd h0' h0
  rcases hcase' with h0' | ⟨b',off',rfl,hblt',hcell'⟩
  ·exact absurd h0' h0
  go_enter Tryd.func45,Tryd.ntmps45
  go_wp2
  go_loopw [5] (fun si wr=>∃ k:Nat,k≤len∧si=.int .i64 k∧Below w.heap.size w wr) (fun si _=>len - (intOf si).toNat)
  case atStart=>exact ⟨0,by omega,rfl,Below.refl _ _⟩
  case round =>
   obtain ⟨k,hk,rfl,hbel⟩:=hrel
   by_cases hlt:k<len
   ·obtain ⟨a1,l1,c1,hc,hI⟩:=hcell k hlt
    obtain ⟨a2,l2,c2,hc',hI'⟩:=hcell' k hlt
    obtain rfl:l1=l2:=hI.1.symm.trans hI'.1
    rw [← hbel.cell (p:=⟨b,_,none⟩) hblt] at hc
    rw [← hbel.cell (p:=⟨b',_,none⟩) hblt'] at hc'
    have hJ:=(hI.below hbel).below (w':=wr.drew) (by go_grown)
    have hJ':=(hI'.below hbel).below (w':=wr.drew) (by go_grown)
    have hlt':(k:Int)<(len:Int):=by omega
    have hk0:(0:Int)≤(k:Int):=by omega
    clear hcell hcell' hI hI'
    go_wp2_with fail
    go_region_held3 (fun w'=>w'.cell? ⟨b,off+k,none⟩=some (.slice a1 l1 c1)∧w'.cell? ⟨b',off'+k,none⟩=some (.slice a2 l1 c2)) (first | (exact ⟨hc,hc'⟩) | (refine ⟨?_,?_⟩<;>(apply cells_kept (by assumption);assumption)) | go_keep)
     (first | (go_at_call 79;refine (eqInstrS_same a1 a2 l1 c1 c2 _ _ hJ hJ').mono ?_;rintro e w1 ⟨rfl,hb1⟩))
    have hbel1:Below w.heap.size w w1:=bel_trans hbel (bel_trans (by go_grown) hb1)
    clear hJ hJ'
    go_wp2
    go_roundw
    case rel=>exact ⟨k+1,by omega,by go_num,hbel1⟩
    case measure=>simp [intOf];omega
   ·go_wp2
    go_ret
    exact ⟨rfl,hbel⟩

theorem eqProgram_same (a a':Option Addr) (len cap cap':Nat) (rows:List (List I3)) (w:World) (h:Codes w a len cap rows) (h':Codes w a' len cap' rows) :
  Calls Tryd.prog 20 #[.agg #[.slice a len cap],.agg #[.slice a' len cap']] w fun e w'=>e=.returned (.bool true)∧Below w.heap.size w w':=by
 go_enter Tryd.func20,Tryd.ntmps20
 go_wp2_with fail
 refine (eqInstrSS_same _ _ _ _ _ rows _ (h.below (by go_grown)) (h'.below (by go_grown))).mono ?_
 rintro e w1 ⟨rfl,hb1⟩
 have hbw:Below w.heap.size w w1:=bel_trans (by go_grown) hb1
 clear hb1 h h'
 go_wp2
 go_ret
 exact ⟨rfl,hbw⟩


theorem lessAll_each:∀ (rows:List (List I3)) (left:Int),0≤lessAll left rows→0≤left→∀ r ∈ rows,(r.length:Int)≤left
 | [],_,_,_,r,hr=>by cases hr
 | x::xs,left,h,h0,r,hr=>by
  unfold lessAll at h
  split at h
  ·omega
  ·rcases List.mem_cons.1 hr with rfl | hr
   ·omega
   ·have:=lessAll_each xs (left - x.length) h (by omega) r hr
    omega

theorem getD_length_le {rows:List (List I3)} {n:Nat} (h:∀ r ∈ rows,r.length≤n) (t:Nat):(rows.getD t []).length≤n:=by
 by_cases ht:t<rows.length
 ·have:rows.getD t []=rows[t]:=by simp [List.getD,ht]
  rw [this]
  exact h _ (List.getElem_mem ht)
 ·have:rows.getD t []=[]:=by simp [List.getD,List.getElem?_eq_none (Nat.le_of_not_lt ht)]
  rw [this]
  exact Nat.zero_le _

theorem size_bounds {rows:List (List I3)} {left:Int} (hm:left≤1048576) (h:0≤sizeLeft left rows) (h0:0≤left):rows.length≤1048576∧∀ t,(rows.getD t []).length≤1048576:=by
 unfold sizeLeft at h
 split at h
 ·omega
 ·refine ⟨by omega,fun t=>getD_length_le (fun r hr=>?_) t⟩
  have:=lessAll_each rows _ h (by omega) r hr
  omega

end Go.Proofs.YtjgffnlmjmibgaaDoor
