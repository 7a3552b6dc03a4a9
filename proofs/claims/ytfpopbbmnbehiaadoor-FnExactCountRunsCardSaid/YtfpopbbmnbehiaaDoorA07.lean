/-
  Joined: Leads, Prog4.
-/
import Derived.Test.YtfpopbbmnbehiaaDoorA03
import Derived.Test.YtfpopbbmnbehiaaDoorA06

namespace Go.Proofs.YtfpopbbmnbehiaaDoor
set_option maxRecDepth 100000
set_option maxHeartbeats 16000000
open Go.RowKit

def leads (x:I3) (k n:Int):Bool:=if x.1=7 then inB x.2.2 (k+1) n else true

theorem to_shared (v:Value) (w:World):(Instr.typeAssert (.iface 156 v) 150 153 true).run Tryd.prog w=.ok (.tuple #[.int .i64 0,.bool false]) w:=by kernel_rfl
theorem to_register (v:Value) (w:World):(Instr.typeAssert (.iface 155 v) 150 153 true).run Tryd.prog w=.ok (.tuple #[.int .i64 0,.bool false]) w:=by kernel_rfl
theorem to_value (v:Value) (w:World):(Instr.typeAssert (.iface 157 v) 150 153 true).run Tryd.prog w=.ok (.tuple #[.int .i64 0,.bool false]) w:=by kernel_rfl
theorem to_no (v:Value) (w:World):(Instr.typeAssert (.iface 159 v) 150 153 true).run Tryd.prog w=.ok (.tuple #[.int .i64 0,.bool false]) w:=by kernel_rfl
theorem to_target (v:Value) (w:World):(Instr.typeAssert (.iface 153 v) 150 153 true).run Tryd.prog w=.ok (.tuple #[v,.bool true]) w:=by kernel_rfl
theorem to_nil (w:World):(Instr.typeAssert .nilIface 150 153 true).run Tryd.prog w=.ok (.tuple #[.int .i64 0,.bool false]) w:=by kernel_rfl

theorem leadsOn_1 (a b k n:Int) (w:World):Calls Tryd.prog 91 #[.agg #[.int .i64 1,.int .i64 a,.int .i64 b],.int .i64 k,.int .i64 n] w fun e w'=>e=.returned (.bool true)∧Below w.heap.size w w':=by
 have ta:=to_shared (.int .i64 b)
 go_enter Tryd.func91,Tryd.ntmps91
 go_wp2_with fail
 refine (operandsOf_1 a b _).mono ?_
 rintro e w1 ⟨rfl,hb1⟩
 have hb:Below w.heap.size w w1:=bel_trans (by go_grown) hb1
 clear hb1
 go_wp2
 go_ret
 exact ⟨rfl,hb⟩

theorem leadsOn_2 (a b k n:Int) (w:World):Calls Tryd.prog 91 #[.agg #[.int .i64 2,.int .i64 a,.int .i64 b],.int .i64 k,.int .i64 n] w fun e w'=>e=.returned (.bool true)∧Below w.heap.size w w':=by
 have ta:=to_register (.int .i64 b)
 go_enter Tryd.func91,Tryd.ntmps91
 go_wp2_with fail
 refine (operandsOf_2 a b _).mono ?_
 rintro e w1 ⟨rfl,hb1⟩
 have hb:Below w.heap.size w w1:=bel_trans (by go_grown) hb1
 clear hb1
 go_wp2
 go_ret
 exact ⟨rfl,hb⟩

theorem leadsOn_3 (a b k n:Int) (w:World):Calls Tryd.prog 91 #[.agg #[.int .i64 3,.int .i64 a,.int .i64 b],.int .i64 k,.int .i64 n] w fun e w'=>e=.returned (.bool true)∧Below w.heap.size w w':=by
 have ta:=to_value (.int .i64 b)
 go_enter Tryd.func91,Tryd.ntmps91
 go_wp2_with fail
 refine (operandsOf_3 a b _).mono ?_
 rintro e w1 ⟨rfl,hb1⟩
 have hb:Below w.heap.size w w1:=bel_trans (by go_grown) hb1
 clear hb1
 go_wp2
 go_ret
 exact ⟨rfl,hb⟩

theorem leadsOn_4 (a b k n:Int) (w:World):Calls Tryd.prog 91 #[.agg #[.int .i64 4,.int .i64 a,.int .i64 b],.int .i64 k,.int .i64 n] w fun e w'=>e=.returned (.bool true)∧Below w.heap.size w w':=by
 have ta:=to_value (.int .i64 b)
 go_enter Tryd.func91,Tryd.ntmps91
 go_wp2_with fail
 refine (operandsOf_4 a b _).mono ?_
 rintro e w1 ⟨rfl,hb1⟩
 have hb:Below w.heap.size w w1:=bel_trans (by go_grown) hb1
 clear hb1
 go_wp2
 go_ret
 exact ⟨rfl,hb⟩

theorem leadsOn_5 (a b k n:Int) (w:World):Calls Tryd.prog 91 #[.agg #[.int .i64 5,.int .i64 a,.int .i64 b],.int .i64 k,.int .i64 n] w fun e w'=>e=.returned (.bool true)∧Below w.heap.size w w':=by
 have ta:=to_no (.int .i64 b)
 go_enter Tryd.func91,Tryd.ntmps91
 go_wp2_with fail
 refine (operandsOf_5 a b _).mono ?_
 rintro e w1 ⟨rfl,hb1⟩
 have hb:Below w.heap.size w w1:=bel_trans (by go_grown) hb1
 clear hb1
 go_wp2
 go_ret
 exact ⟨rfl,hb⟩

theorem leadsOn_6 (a b k n:Int) (w:World):Calls Tryd.prog 91 #[.agg #[.int .i64 6,.int .i64 a,.int .i64 b],.int .i64 k,.int .i64 n] w fun e w'=>e=.returned (.bool true)∧Below w.heap.size w w':=by
 have ta:=to_no (.int .i64 b)
 go_enter Tryd.func91,Tryd.ntmps91
 go_wp2_with fail
 refine (operandsOf_6 a b _).mono ?_
 rintro e w1 ⟨rfl,hb1⟩
 have hb:Below w.heap.size w w1:=bel_trans (by go_grown) hb1
 clear hb1
 go_wp2
 go_ret
 exact ⟨rfl,hb⟩

theorem leadsOn_8 (a b k n:Int) (w:World):Calls Tryd.prog 91 #[.agg #[.int .i64 8,.int .i64 a,.int .i64 b],.int .i64 k,.int .i64 n] w fun e w'=>e=.returned (.bool true)∧Below w.heap.size w w':=by
 have ta:=to_value (.int .i64 b)
 go_enter Tryd.func91,Tryd.ntmps91
 go_wp2_with fail
 refine (operandsOf_8 a b _).mono ?_
 rintro e w1 ⟨rfl,hb1⟩
 have hb:Below w.heap.size w w1:=bel_trans (by go_grown) hb1
 clear hb1
 go_wp2
 go_ret
 exact ⟨rfl,hb⟩

theorem leadsOn_0 (c a b k n:Int) (w:World) (h:c≠1∧c≠2∧c≠3∧c≠4∧c≠5∧c≠6∧c≠7∧c≠8):Calls Tryd.prog 91 #[.agg #[.int .i64 c,.int .i64 a,.int .i64 b],.int .i64 k,.int .i64 n] w fun e w'=>e=.returned (.bool true)∧Below w.heap.size w w':=by
 have ta:=to_nil
 go_enter Tryd.func91,Tryd.ntmps91
 go_wp2_with fail
 refine (operandsOf_0 c a b _ h).mono ?_
 rintro e w1 ⟨rfl,hb1⟩
 have hb:Below w.heap.size w w1:=bel_trans (by go_grown) hb1
 clear hb1 h
 go_wp2
 go_ret
 exact ⟨rfl,hb⟩

theorem leadsOn_7 (a b k n:Int) (w:World):Calls Tryd.prog 91 #[.agg #[.int .i64 7,.int .i64 a,.int .i64 b],.int .i64 k,.int .i64 n] w fun e w'=>e=.returned (.bool (inB b (k+1) n))∧Below w.heap.size w w':=by
 obtain ⟨p,hp⟩:∃ p,p=inB b (k+1) n:=⟨_,rfl⟩
 rw [← hp]
 have ta:=to_target (.int .i64 b)
 by_cases h1:k<b
 ·have hp':p=decide (b≤n):=by
   subst hp
   by_cases h2:b≤n
   ·rw [decide_eq_true h2,inB_true];omega
   ·rw [decide_eq_false h2,inB_false];omega
  clear hp
  subst hp'
  go_enter Tryd.func91,Tryd.ntmps91
  go_wp2_with fail
  refine (operandsOf_7 a b _).mono ?_
  rintro e w1 ⟨rfl,hb1⟩
  have hb:Below w.heap.size w w1:=bel_trans (by go_grown) hb1
  clear hb1
  go_wp2
  go_ret
  exact ⟨rfl,hb⟩
 ·have hp':p=false:=by
   subst hp
   rw [inB_false];omega
  clear hp
  subst hp'
  go_enter Tryd.func91,Tryd.ntmps91
  go_wp2_with fail
  refine (operandsOf_7 a b _).mono ?_
  rintro e w1 ⟨rfl,hb1⟩
  have hb:Below w.heap.size w w1:=bel_trans (by go_grown) hb1
  clear hb1
  go_wp2
  go_ret
  exact ⟨rfl,hb⟩

theorem leadsOn_is (x:I3) (k n:Int) (w:World):Calls Tryd.prog 91 #[x.val,.int .i64 k,.int .i64 n] w fun e w'=>e=.returned (.bool (leads x k n))∧Below w.heap.size w w':=by
 obtain ⟨c,a,b⟩:=x
 unfold I3.val leads
 rcases op_cases (c,a,b) with h | h | h | h | h | h | h | h | h

 ·obtain rfl:c=1:=h
  simpa using leadsOn_1 a b k n w
 ·obtain rfl:c=2:=h
  simpa using leadsOn_2 a b k n w
 ·obtain rfl:c=3:=h
  simpa using leadsOn_3 a b k n w
 ·obtain rfl:c=4:=h
  simpa using leadsOn_4 a b k n w
 ·obtain rfl:c=5:=h
  simpa using leadsOn_5 a b k n w
 ·obtain rfl:c=6:=h
  simpa using leadsOn_6 a b k n w
 ·obtain rfl:c=7:=h
  simpa using leadsOn_7 a b k n w
 ·obtain rfl:c=8:=h
  simpa using leadsOn_8 a b k n w
 ·have h':=h
  obtain ⟨h1,h2,h3,h4,h5,h6,h7,h8⟩:=h
  simp only [] at h7
  rw [if_neg h7]
  exact leadsOn_0 c a b k n w h'


theorem cells_kept {w w':World} (h:Below w.heap.size w w'):∀ (p:Addr) (v:Value),w.cell? p=some v→w'.cell? p=some v:=by
 intro p v hv
 have hlt:p.block<w.heap.size:=by
  rcases Nat.lt_or_ge p.block w.heap.size with h' | h'
  ·exact h'
  ·simp [World.cell?,Array.getElem?_eq_none h'] at hv
 rw [h.cell hlt]
 exact hv

theorem eqInstrS_same (a a':Option Addr) (len cap cap':Nat) (xs:List I3) (w:World) (h:Instrs w a len cap xs) (h':Instrs w a' len cap' xs) :
  Calls Tryd.prog 58 #[.slice a len cap,.slice a' len cap'] w fun e w'=>e=.returned (.bool true)∧Below w.heap.size w w':=by
 obtain ⟨hl,hlc,hcm,_,hcase⟩:=h
 obtain ⟨_,hlc',hcm',_,hcase'⟩:=h'
 unfold maxLen at hcm hcm'
 have hne:((len:Int) != (len:Int))=false:=by simp
 by_cases h0:len=0
 ·subst h0
  go_enter Tryd.func58,Tryd.ntmps58
  go_wp2
  refine wp_loop_rounds 1 ?_
  rw [rounds_succ]
  go_wp2
  go_ret
  exact ⟨rfl,Below.refl _ _⟩
 ·rcases hcase with h0' | ⟨b,off,rfl,hblt,hcell⟩
  ·exact absurd h0' h0
  rcases hcase' with h0' | ⟨b',off',rfl,hblt',hcell'⟩
  ·exact absurd h0' h0
  go_enter Tryd.func58,Tryd.ntmps58
  go_wp2
  go_loopw [5] (fun si wr=>∃ k:Nat,k≤len∧si=.int .i64 k∧Below w.heap.size w wr) (fun si _=>len - (intOf si).toNat)
  case atStart=>exact ⟨0,by omega,rfl,Below.refl _ _⟩
  case round =>
   obtain ⟨k,hk,rfl,hbel⟩:=hrel
   by_cases hlt:k<len
   ·obtain ⟨c0,c1,c2⟩:=hcell k hlt
    obtain ⟨e0,e1,e2⟩:=hcell' k hlt
    rw [← hbel.cell (p:=⟨b,_,none⟩) hblt] at c0 c1 c2
    rw [← hbel.cell (p:=⟨b',_,none⟩) hblt'] at e0 e1 e2
    have hlt':(k:Int)<(len:Int):=by omega
    generalize xs.getD k (0,0,0)=x at c0 c1 c2 e0 e1 e2
    clear hcell hcell'
    go_wp2_with fail
    have hk0:(0:Int)≤(k:Int):=by omega
    go_region_held3 (fun w'=>w'.cell? ⟨b,off+k*3,none⟩=some (.int .i64 x.1)∧w'.cell? ⟨b,off+k*3+1,none⟩=some (.int .i64 x.2.1)∧w'.cell? ⟨b,off+k*3+2,none⟩=some (.int .i64 x.2.2)∧w'.cell? ⟨b',off'+k*3,none⟩=some (.int .i64 x.1)∧w'.cell? ⟨b',off'+k*3+1,none⟩=some (.int .i64 x.2.1)∧w'.cell? ⟨b',off'+k*3+2,none⟩=some (.int .i64 x.2.2)) (first | (exact ⟨c0,c1,c2,e0,e1,e2⟩) | (refine ⟨?_,?_,?_,?_,?_,?_⟩<;>(apply cells_kept (by assumption);assumption)) | go_keep)
     (first | (go_at_call 75;refine (eqInstr_same x _).mono ?_;rintro e w1 ⟨rfl,hb1⟩))
    have hbel1:Below w.heap.size w w1:=bel_trans hbel (bel_trans (by go_grown) hb1)
    go_wp2
    go_roundw
    case rel=>exact ⟨k+1,by omega,by go_num,hbel1⟩
    case measure=>simp [intOf];omega
   ·go_wp2
    go_ret
    exact ⟨rfl,hbel⟩

theorem eqInstrSS_same (a a':Option Addr) (len cap cap':Nat) (rows:List (List I3)) (w:World) (h:Codes w a len cap rows) (h':Codes w a' len cap' rows) :
  Calls Tryd.prog 32 #[.slice a len cap,.slice a' len cap'] w fun e w'=>e=.returned (.bool true)∧Below w.heap.size w w':=by
 obtain ⟨hl,hlc,hcm,hcase⟩:=h
 obtain ⟨_,hlc',hcm',hcase'⟩:=h'
 unfold maxLen at hcm hcm'
 have hne:((len:Int) != (len:Int))=false:=by simp
 by_cases h0:len=0
 ·subst h0
  go_enter Tryd.func32,Tryd.ntmps32
  go_wp2
  refine wp_loop_rounds 1 ?_
  rw [rounds_succ]
  go_wp2
  go_ret
  exact ⟨rfl,Below.refl _ _⟩
 ·rcases hcase with h0' | ⟨b,off,rfl,hblt,hcell⟩
  ·exact absurd h0' h0
  rcases hcase' with h0' | ⟨b',off',rfl,hblt',hcell'⟩
  ·exact absurd h0' h0
  go_enter Tryd.func32,Tryd.ntmps32
  go_wp2
  go_loopw [5] (fun si wr=>∃ k:Nat,k≤len∧si=.int .i64 k∧Below w.heap.size w wr) (fun si _=>len - (intOf si).toNat)
  case atStart=>exact ⟨0,by omega,rfl,Below.refl _ _⟩
  case round =>
   obtain ⟨k,hk,rfl,hbel⟩:=hrel
   by_cases hlt:k<len
   ·obtain ⟨a1,l1,c1,hc,hI⟩:=hcell k hlt
    obtain ⟨a2,l2,c2,hc',hI'⟩:=hcell' k hlt
    obtain rfl:l1=l2:=hI.1.symm.trans hI'.1
    rw [← hbel.cell (p:=⟨b,_,none⟩) hblt] at hc
    rw [← hbel.cell (p:=⟨b',_,none⟩) hblt'] at hc'
    have hJ:=(hI.below hbel).below (w':=wr.drew) (by go_grown)
    have hJ':=(hI'.below hbel).below (w':=wr.drew) (by go_grown)
    have hlt':(k:Int)<(len:Int):=by omega
    have hk0:(0:Int)≤(k:Int):=by omega
    clear hcell hcell' hI hI'
    go_wp2_with fail
    go_region_held3 (fun w'=>w'.cell? ⟨b,off+k,none⟩=some (.slice a1 l1 c1)∧w'.cell? ⟨b',off'+k,none⟩=some (.slice a2 l1 c2)) (first | (exact ⟨hc,hc'⟩) | (refine ⟨?_,?_⟩<;>(apply cells_kept (by assumption);assumption)) | go_keep)
     (first | (go_at_call 58;refine (eqInstrS_same a1 a2 l1 c1 c2 _ _ hJ hJ').mono ?_;rintro e w1 ⟨rfl,hb1⟩))
    have hbel1:Below w.heap.size w w1:=bel_trans hbel (bel_trans (by go_grown) hb1)
    clear hJ hJ'
    go_wp2
    go_roundw
    case rel=>exact ⟨k+1,by omega,by go_num,hbel1⟩
    case measure=>simp [intOf];omega
   ·go_wp2
    go_ret
    exact ⟨rfl,hbel⟩

theorem eqProgram_same (a a':Option Addr) (len cap cap':Nat) (rows:List (List I3)) (w:World) (h:Codes w a len cap rows) (h':Codes w a' len cap' rows) :
  Calls Tryd.prog 12 #[.agg #[.slice a len cap],.agg #[.slice a' len cap']] w fun e w'=>e=.returned (.bool true)∧Below w.heap.size w w':=by
 go_enter Tryd.func12,Tryd.ntmps12
 go_wp2_with fail
 refine (eqInstrSS_same _ _ _ _ _ rows _ (h.below (by go_grown)) (h'.below (by go_grown))).mono ?_
 rintro e w1 ⟨rfl,hb1⟩
 have hbw:Below w.heap.size w w1:=bel_trans (by go_grown) hb1
 clear hb1 h h'
 go_wp2
 go_ret
 exact ⟨rfl,hbw⟩
end Go.Proofs.YtfpopbbmnbehiaaDoor
