/-
  Joined: MarkH, BugS.
-/
import Derived.Test.YtjgffnlmjmibgaaGreatDoorE04
import Derived.Test.YtjgffnlmjmibgaaGreatDoorE26

namespace Go.Proofs.YtjgffnlmjmibgaaGreatDoor
set_option maxRecDepth 100000
set_option maxHeartbeats 16000000
open Go.RowKit

theorem flat_at {xs:List I3} {t:Nat} (ht:t<xs.length):(flat xs)[t*3]?=some (.int .i64 (xs.getD t (0,0,0)).1)∧(flat xs)[t*3+1]?=some (.int .i64 (xs.getD t (0,0,0)).2.1)∧(flat xs)[t*3+2]?=some (.int .i64 (xs.getD t (0,0,0)).2.2):=by
 have hsplit:flat xs=flat (xs.take t)++((xs.getD t (0,0,0)).cells++flat (xs.drop (t+1))):=by
  rw [← List.append_assoc,← flat_take_succ ht]
  unfold flat
  rw [← List.flatMap_append,List.take_append_drop]
 have hlt:(flat (xs.take t)).length=t*3:=by rw [flat_length,List.length_take];rw [Nat.min_eq_left (by omega)]
 have h:∀ j,j<3→(flat xs)[t*3+j]?=((xs.getD t (0,0,0)).cells)[j]?:=fun j hj=>by
  rw [hsplit,List.getElem?_append_right (by omega),hlt,Nat.add_sub_cancel_left,List.getElem?_append_left (by simp [I3.cells];omega)]
 exact ⟨by simpa [I3.cells] using h 0 (by omega),by simpa [I3.cells] using h 1 (by omega),by simpa [I3.cells] using h 2 (by omega)⟩

set_option linter.unusedVariables false

theorem info_bug:(Tryz.prog.info? 99).map (fun i=>(i.zero,i.size,i.bytes))=some (some (.agg #[.int .i64 0,.int .i64 0,.int .i64 0]),3,24):=by kernel_rfl

theorem eqBugS_same (a a':Option Addr) (len cap cap':Nat) (xs:List I3) (w:World) (h:Instrs w a len cap xs) (h':Instrs w a' len cap' xs) :
  Calls Tryz.prog 34 #[.slice a len cap,.slice a' len cap'] w fun e w'=>e=.returned (.bool true)∧Below w.heap.size w w':=by
 obtain ⟨hl,hlc,hcm,_,hcase⟩:=h
 obtain ⟨_,hlc',hcm',_,hcase'⟩:=h'
 unfold maxLen at hcm hcm'
 have hne:((len:Int) != (len:Int))=false:=by simp
 by_cases h0:len=0
 ·subst h0
  go_enter Tryz.func34,Tryz.ntmps34
  go_wp2
  refine wp_loop_rounds 1 ?_
  rw [rounds_succ]
  go_wp2
  go_ret
  exact ⟨rfl,Below.refl _ _⟩
 ·rcases hcase with h0' | ⟨b,off,rfl,hblt,hcell⟩
  ·exact absurd h0' h0
  rcases hcase' with h0' | ⟨b',off',rfl,hblt',hcell'⟩
  ·exact absurd h0' h0
  go_enter Tryz.func34,Tryz.ntmps34
  go_wp2
  go_loopw [5] (fun si wr=>∃ k:Nat,k≤len∧si=.int .i64 k∧Below w.heap.size w wr) (fun si _=>len - (intOf si).toNat)
  case atStart=>exact ⟨0,by omega,rfl,Below.refl _ _⟩
  case round =>
   obtain ⟨k,hk,rfl,hbel⟩:=hrel
   by_cases hlt:k<len
   ·obtain ⟨c0,c1,c2⟩:=hcell k hlt
    obtain ⟨e0,e1,e2⟩:=hcell' k hlt
    rw [← hbel.cell (p:=⟨b,_,none⟩) hblt] at c0 c1 c2
    rw [← hbel.cell (p:=⟨b',_,none⟩) hblt'] at e0 e1 e2
    have hlt':(k:Int)<(len:Int):=by omega
    generalize xs.getD k (0,0,0)=x at c0 c1 c2 e0 e1 e2
    clear hcell hcell'
    go_wp2_with fail
    have hk0:(0:Int)≤(k:Int):=by omega
    go_region_held3 (fun w'=>w'.cell? ⟨b,off+k*3,none⟩=some (.int .i64 x.1)∧w'.cell? ⟨b,off+k*3+1,none⟩=some (.int .i64 x.2.1)∧w'.cell? ⟨b,off+k*3+2,none⟩=some (.int .i64 x.2.2)∧w'.cell? ⟨b',off'+k*3,none⟩=some (.int .i64 x.1)∧w'.cell? ⟨b',off'+k*3+1,none⟩=some (.int .i64 x.2.1)∧w'.cell? ⟨b',off'+k*3+2,none⟩=some (.int .i64 x.2.2)) (first | (exact ⟨c0,c1,c2,e0,e1,e2⟩) | (refine ⟨?_,?_,?_,?_,?_,?_⟩<;>(apply cells_kept (by assumption);assumption)) | go_keep)
     (first | (go_at_call 88;refine (eqBug_same x _).mono ?_;rintro e w1 ⟨rfl,hb1⟩))
    have hbel1:Below w.heap.size w w1:=bel_trans hbel (bel_trans (by go_grown) hb1)
    go_wp2
    go_roundw
    case rel=>exact ⟨k+1,by omega,by go_num,hbel1⟩
    case measure=>simp [intOf];omega
   ·go_wp2
    go_ret
    exact ⟨rfl,hbel⟩

theorem markBugS_own (base g n cap:Nat) (k:Int) (xs:List I3) (w:World) (hk0:0≤k) (hk:k≤1000000000) (hn:n≤1048576) (hl:xs.length=n) (ho:w.ownsRow base 99 3 (.slice (some ⟨g,0,none⟩) n cap) n (flat xs)) :
  Calls Tryz.prog 40 #[.slice (some ⟨g,0,none⟩) n cap,.int .i64 k] w fun e w'=>e=.returned (.int .i64 (k+n*3)) ∧
   w'.ownsRow base 99 3 (.slice (some ⟨g,0,none⟩) n cap) n (flat (mkI k xs n))∧w.grownBy w' (some g):=by
 go_enter Tryz.func40,Tryz.ntmps40
 go_wp2
 go_loopw [1,5] (fun sk si wr=>∃ j:Nat,j≤n∧si=.int .i64 j∧sk=.int .i64 (k+j*3)∧wr.ownsRow base 99 3 (.slice (some ⟨g,0,none⟩) n cap) n (flat (mkI k xs j))∧w.grownBy wr (some g)) (fun _ si _=>n - (intOf si).toNat)
 case atStart=>exact ⟨0,by omega,rfl,by go_num,by simpa [mkI] using ho,World.grownBy.refl _ _⟩
 case round =>
  obtain ⟨j,hj,rfl,rfl,hr,hg⟩:=hrel
  by_cases hlt:j<n
  ·have hlt2:(j:Int)<(n:Int):=by omega
   have hj0:(0:Int)≤(j:Int):=by omega
   have f0:=hr.frozenAt (j*3)
   have f1:=hr.frozenAt (j*3+1)
   have f2:=hr.frozenAt (j*3+2)
   have hlen:(flat (mkI k xs j)).length=n*3:=by rw [flat_length,mkI_len,hl]
   obtain ⟨u0,hu0⟩:∃ u,wr.cell? ⟨g,j*3,none⟩=some u:=⟨_,by rw [hr.cellAt _ (by omega)];exact List.getElem?_eq_getElem (by omega)⟩
   obtain ⟨u1,hu1⟩:∃ u,wr.cell? ⟨g,j*3+1,none⟩=some u:=⟨_,by rw [hr.cellAt _ (by omega)];exact List.getElem?_eq_getElem (by omega)⟩
   obtain ⟨u2,hu2⟩:∃ u,wr.cell? ⟨g,j*3+2,none⟩=some u:=⟨_,by rw [hr.cellAt _ (by omega)];exact List.getElem?_eq_getElem (by omega)⟩
   have R:=(((hr.stored (j*3) (.int .i64 (k+j*3))).1.stored (j*3+1) (.int .i64 (k+j*3+1))).1.stored (j*3+2) (.int .i64 (k+j*3+1+1))).1
   rw [show (k+(j:Int)*3+1+1)=k+j*3+2 by omega,mkI_set k xs j (by omega),show (k+(j:Int)*3+2)=k+j*3+1+1 by omega] at R
   have G:=grownBy_tr hg (grownBy_tr (grownBy_set wr g (j*3) (.int .i64 (k+j*3))) (grownBy_tr (grownBy_set _ g (j*3+1) (.int .i64 (k+j*3+1))) (grownBy_set _ g (j*3+2) (.int .i64 (k+j*3+1+1)))))
   clear hr hg ho hlen
   go_wp2
   go_roundw
   case rel=>exact ⟨j+1,by omega,by go_num,by go_num,R,G⟩
   case measure=>simp [intOf];omega
  ·obtain rfl:j=n:=by omega
   go_wp2
   go_ret
   exact ⟨rfl,hr,hg⟩

theorem markBugS_none (k:Int) (w:World):Calls Tryz.prog 40 #[.slice none 0 0,.int .i64 k] w fun e w'=>e=.returned (.int .i64 k)∧w=w':=by
 go_enter Tryz.func40,Tryz.ntmps40
 go_wp2
 refine wp_loop_rounds 1 ?_
 rw [rounds_succ]
 go_wp2
 go_ret
 exact ⟨rfl,rfl⟩

theorem markBugS_any (base:Nat) (v:Value) (k:Int) (xs:List I3) (w:World) (hk0:0≤k) (hk:k≤1000000000) (hn:xs.length≤1048576) (ho:w.ownsRow base 99 3 v xs.length (flat xs)) :
  Calls Tryz.prog 40 #[v,.int .i64 k] w fun e w'=>e=.returned (.int .i64 (k+xs.length*3)) ∧
   w'.ownsRow base 99 3 v xs.length (flat (mkI k xs xs.length))∧w.grownBy w' v.ownBlock:=by
 rcases ho.2 with ⟨rfl,h0⟩ | ⟨g,cap,cur,rfl,_⟩
 ·obtain rfl:xs=[]:=List.eq_nil_of_length_eq_zero h0
  refine (markBugS_none k w).mono ?_
  rintro e w' ⟨rfl,rfl⟩
  exact ⟨by simp,ho,World.grownBy.refl _ _⟩
 ·exact markBugS_own base g _ cap k xs w hk0 hk hn rfl ho

theorem heldBugS_own (base g n cap:Nat) (k:Int) (xs:List I3) (w:World) (hk0:0≤k) (hk:k≤1000000000) (hn:n≤1048576) (hl:xs.length=n) (ho:w.ownsRow base 99 3 (.slice (some ⟨g,0,none⟩) n cap) n (flat (mkI k xs n))) :
  Calls Tryz.prog 42 #[.slice (some ⟨g,0,none⟩) n cap,.int .i64 k] w fun e w'=>e=.returned (.int .i64 (k+n*3))∧w=w':=by
 go_enter Tryz.func42,Tryz.ntmps42
 go_wp2
 go_loop [1,5] (fun sk si=>∃ j:Nat,j≤n∧si=.int .i64 j∧sk=.int .i64 (k+j*3)) (fun _ si=>n - (intOf si).toNat)
 case atStart=>exact ⟨0,by omega,rfl,by go_num⟩
 case round =>
  obtain ⟨j,hj,rfl,rfl⟩:=hrel
  by_cases hlt:j<n
  ·have hlt2:(j:Int)<(n:Int):=by omega
   have hj0:(0:Int)≤(j:Int):=by omega
   obtain ⟨a0,a1,a2⟩:=flat_at (xs:=mkI k xs n) (t:=j) (by rw [mkI_len];omega)
   rw [mkI_get k xs n j hlt (by omega)] at a0 a1 a2
   have c0:w.cell? ⟨g,j*3,none⟩=some (.int .i64 (k+j*3)):=by rw [ho.cellAt _ (by omega)];exact a0
   have c1:w.cell? ⟨g,j*3+1,none⟩=some (.int .i64 (k+j*3+1)):=by rw [ho.cellAt _ (by omega)];exact a1
   have c2:w.cell? ⟨g,j*3+2,none⟩=some (.int .i64 (k+j*3+1+1)):=by rw [ho.cellAt _ (by omega),a2];simp;omega
   have n0:((k+(j:Int)*3) != (k+(j:Int)*3))=false:=by simp
   have n1:((k+(j:Int)*3+1) != (k+(j:Int)*3+1))=false:=by simp
   have n2:((k+(j:Int)*3+1+1) != (k+(j:Int)*3+1+1))=false:=by simp
   clear ho a0 a1 a2
   go_wp2
   go_round
   case rel=>exact ⟨j+1,by omega,by go_num,by go_num⟩
   case measure=>simp [intOf];omega
  ·obtain rfl:j=n:=by omega
   clear ho
   go_wp2
   go_ret
   exact ⟨rfl,rfl⟩

theorem heldBugS_none (k:Int) (w:World):Calls Tryz.prog 42 #[.slice none 0 0,.int .i64 k] w fun e w'=>e=.returned (.int .i64 k)∧w=w':=by
 go_enter Tryz.func42,Tryz.ntmps42
 go_wp2
 refine wp_loop_rounds 1 ?_
 rw [rounds_succ]
 go_wp2
 go_ret
 exact ⟨rfl,rfl⟩

theorem heldBugS_any (base:Nat) (v:Value) (k:Int) (xs:List I3) (w:World) (hk0:0≤k) (hk:k≤1000000000) (hn:xs.length≤1048576) (ho:w.ownsRow base 99 3 v xs.length (flat (mkI k xs xs.length))) :
  Calls Tryz.prog 42 #[v,.int .i64 k] w fun e w'=>e=.returned (.int .i64 (k+xs.length*3))∧w=w':=by
 rcases ho.2 with ⟨rfl,h0⟩ | ⟨g,cap,cur,rfl,_⟩
 ·obtain rfl:xs=[]:=List.eq_nil_of_length_eq_zero h0
  refine (heldBugS_none k w).mono ?_
  rintro e w' ⟨rfl,rfl⟩
  exact ⟨by simp,rfl⟩
 ·exact heldBugS_own base g _ cap k xs w hk0 hk hn rfl ho

end Go.Proofs.YtjgffnlmjmibgaaGreatDoor
