/-
  Joined: Prog4, Vm1.
-/
import Derived.Test.YtjgffnlmjmibgaaGreatDoorE03

namespace Go.Proofs.YtjgffnlmjmibgaaGreatDoor
set_option maxRecDepth 100000
set_option maxHeartbeats 16000000
open Go.RowKit

theorem cells_kept {w w':World} (h:Below w.heap.size w w'):∀ (p:Addr) (v:Value),w.cell? p=some v→w'.cell? p=some v:=by
 intro p v hv
 have hlt:p.block<w.heap.size:=by
  rcases Nat.lt_or_ge p.block w.heap.size with h' | h'
  ·exact h'
  ·simp [World.cell?,Array.getElem?_eq_none h'] at hv
 rw [h.cell hlt]
 exact hv

theorem eqInstrS_same (a a':Option Addr) (len cap cap':Nat) (xs:List I3) (w:World) (h:Instrs w a len cap xs) (h':Instrs w a' len cap' xs) :
  Calls Tryz.prog 137 #[.slice a len cap,.slice a' len cap'] w fun e w'=>e=.returned (.bool true)∧Below w.heap.size w w':=by
 obtain ⟨hl,hlc,hcm,_,hcase⟩:=h
 obtain ⟨_,hlc',hcm',_,hcase'⟩:=h'
 unfold maxLen at hcm hcm'
 have hne:((len:Int) != (len:Int))=false:=by simp
 by_cases h0:len=0
 ·subst h0
  go_enter Tryz.func137,Tryz.ntmps137
  go_wp2
  refine wp_loop_rounds 1 ?_
  rw [rounds_succ]
  go_wp2
  go_ret
  exact ⟨rfl,Below.refl _ _⟩
 ·rcases hcase with h0' | ⟨b,off,rfl,hblt,hcell⟩
  ·exact absurd h0' h0
  rcases hcase' with h0' | ⟨b',off',rfl,hblt',hcell'⟩
  ·exact absurd h0' h0
  go_enter Tryz.func137,Tryz.ntmps137
  go_wp2
  go_loopw [5] (fun si wr=>∃ k:Nat,k≤len∧si=.int .i64 k∧Below w.heap.size w wr) (fun si _=>len - (intOf si).toNat)
  case atStart=>exact ⟨0,by omega,rfl,Below.refl _ _⟩
  case round =>
   obtain ⟨k,hk,rfl,hbel⟩:=hrel
   by_cases hlt:k<len
   ·obtain ⟨c0,c1,c2⟩:=hcell k hlt
    obtain ⟨e0,e1,e2⟩:=hcell' k hlt
    rw [← hbel.cell (p:=⟨b,_,none⟩) hblt] at c0 c1 c2
    rw [← hbel.cell (p:=⟨b',_,none⟩) hblt'] at e0 e1 e2
    have hlt':(k:Int)<(len:Int):=by omega
    generalize xs.getD k (0,0,0)=x at c0 c1 c2 e0 e1 e2
    clear hcell hcell'
    go_wp2_with fail
    have hk0:(0:Int)≤(k:Int):=by omega
    go_region_held3 (fun w'=>w'.cell? ⟨b,off+k*3,none⟩=some (.int .i64 x.1)∧w'.cell? ⟨b,off+k*3+1,none⟩=some (.int .i64 x.2.1)∧w'.cell? ⟨b,off+k*3+2,none⟩=some (.int .i64 x.2.2)∧w'.cell? ⟨b',off'+k*3,none⟩=some (.int .i64 x.1)∧w'.cell? ⟨b',off'+k*3+1,none⟩=some (.int .i64 x.2.1)∧w'.cell? ⟨b',off'+k*3+2,none⟩=some (.int .i64 x.2.2)) (first | (exact ⟨c0,c1,c2,e0,e1,e2⟩) | (refine ⟨?_,?_,?_,?_,?_,?_⟩<;>(apply cells_kept (by assumption);assumption)) | go_keep)
     (first | (go_at_call 159;refine (eqInstr_same x _).mono ?_;rintro e w1 ⟨rfl,hb1⟩))
    have hbel1:Below w.heap.size w w1:=bel_trans hbel (bel_trans (by go_grown) hb1)
    go_wp2
    go_roundw
    case rel=>exact ⟨k+1,by omega,by go_num,hbel1⟩
    case measure=>simp [intOf];omega
   ·go_wp2
    go_ret
    exact ⟨rfl,hbel⟩

theorem eqInstrSS_same (a a':Option Addr) (len cap cap':Nat) (rows:List (List I3)) (w:World) (h:Codes w a len cap rows) (h':Codes w a' len cap' rows) :
  Calls Tryz.prog 89 #[.slice a len cap,.slice a' len cap'] w fun e w'=>e=.returned (.bool true)∧Below w.heap.size w w':=by
 obtain ⟨hl,hlc,hcm,hcase⟩:=h
 obtain ⟨_,hlc',hcm',hcase'⟩:=h'
 unfold maxLen at hcm hcm'
 have hne:((len:Int) != (len:Int))=false:=by simp
 by_cases h0:len=0
 ·subst h0
  go_enter Tryz.func89,Tryz.ntmps89
  go_wp2
  refine wp_loop_rounds 1 ?_
  rw [rounds_succ]
  go_wp2
  go_ret
  exact ⟨rfl,Below.refl _ _⟩
 ·rcases hcase with h0' | ⟨b,off,rfl,hblt,hcell⟩
  ·exact absurd h0' h0
  rcases hcase' with h0' | ⟨b',off',rfl,hblt',hcell'⟩
  ·exact absurd h0' h0
  go_enter Tryz.func89,Tryz.ntmps89
  go_wp2
  go_loopw [5] (fun si wr=>∃ k:Nat,k≤len∧si=.int .i64 k∧Below w.heap.size w wr) (fun si _=>len - (intOf si).toNat)
  case atStart=>exact ⟨0,by omega,rfl,Below.refl _ _⟩
  case round =>
   obtain ⟨k,hk,rfl,hbel⟩:=hrel
   by_cases hlt:k<len
   ·obtain ⟨a1,l1,c1,hc,hI⟩:=hcell k hlt
    obtain ⟨a2,l2,c2,hc',hI'⟩:=hcell' k hlt
    obtain rfl:l1=l2:=hI.1.symm.trans hI'.1
    rw [← hbel.cell (p:=⟨b,_,none⟩) hblt] at hc
    rw [← hbel.cell (p:=⟨b',_,none⟩) hblt'] at hc'
    have hJ:=(hI.below hbel).below (w':=wr.drew) (by go_grown)
    have hJ':=(hI'.below hbel).below (w':=wr.drew) (by go_grown)
    have hlt':(k:Int)<(len:Int):=by omega
    have hk0:(0:Int)≤(k:Int):=by omega
    clear hcell hcell' hI hI'
    go_wp2_with fail
    go_region_held3 (fun w'=>w'.cell? ⟨b,off+k,none⟩=some (.slice a1 l1 c1)∧w'.cell? ⟨b',off'+k,none⟩=some (.slice a2 l1 c2)) (first | (exact ⟨hc,hc'⟩) | (refine ⟨?_,?_⟩<;>(apply cells_kept (by assumption);assumption)) | go_keep)
     (first | (go_at_call 137;refine (eqInstrS_same a1 a2 l1 c1 c2 _ _ hJ hJ').mono ?_;rintro e w1 ⟨rfl,hb1⟩))
    have hbel1:Below w.heap.size w w1:=bel_trans hbel (bel_trans (by go_grown) hb1)
    clear hJ hJ'
    go_wp2
    go_roundw
    case rel=>exact ⟨k+1,by omega,by go_num,hbel1⟩
    case measure=>simp [intOf];omega
   ·go_wp2
    go_ret
    exact ⟨rfl,hbel⟩

theorem eqProgram_same (a a':Option Addr) (len cap cap':Nat) (rows:List (List I3)) (w:World) (h:Codes w a len cap rows) (h':Codes w a' len cap' rows) :
  Calls Tryz.prog 35 #[.agg #[.slice a len cap],.agg #[.slice a' len cap']] w fun e w'=>e=.returned (.bool true)∧Below w.heap.size w w':=by
 go_enter Tryz.func35,Tryz.ntmps35
 go_wp2_with fail
 refine (eqInstrSS_same _ _ _ _ _ rows _ (h.below (by go_grown)) (h'.below (by go_grown))).mono ?_
 rintro e w1 ⟨rfl,hb1⟩
 have hbw:Below w.heap.size w w1:=bel_trans (by go_grown) hb1
 clear hb1 h h'
 go_wp2
 go_ret
 exact ⟨rfl,hbw⟩


theorem eqVm_same (s s':S4) (m:V4) (w:World) (h:Vmem w s m) (h':Vmem w s' m) :
  Calls Tryz.prog 33 #[s.val,s'.val] w fun e w'=>e=.returned (.bool true)∧Below w.heap.size w w':=by
 obtain ⟨⟨i0,_⟩,⟨i1,_⟩,⟨i2,_⟩,⟨i3,_⟩⟩:=h
 obtain ⟨⟨j0,_⟩,⟨j1,_⟩,⟨j2,_⟩,⟨j3,_⟩⟩:=h'
 obtain ⟨⟨a0,n0,c0⟩,⟨a1,n1,c1⟩,⟨a2,n2,c2⟩,⟨a3,n3,c3⟩⟩:=s
 obtain ⟨⟨b0,k0,d0⟩,⟨b1,k1,d1⟩,⟨b2,k2,d2⟩,⟨b3,k3,d3⟩⟩:=s'
 obtain ⟨m0,m1,m2,m3⟩:=m
 unfold S4.val
 simp only at i0 i1 i2 i3 j0 j1 j2 j3 ⊢
 obtain rfl:k0=n0:=j0.1.symm.trans i0.1
 obtain rfl:k1=n1:=j1.1.symm.trans i1.1
 obtain rfl:k2=n2:=j2.1.symm.trans i2.1
 obtain rfl:k3=n3:=j3.1.symm.trans i3.1
 have hb0:Below w.heap.size w ((w.alloc (.cells #[.slice a0 k0 c0,.slice a1 k1 c1,.slice a2 k2 c2,.slice a3 k3 c3] 33)).alloc (.cells #[.slice b0 k0 d0,.slice b1 k1 d1,.slice b2 k2 d2,.slice b3 k3 d3] 33)):=by go_grown
 have hw:∀ j v,[Value.slice a0 k0 c0,.slice a1 k1 c1,.slice a2 k2 c2,.slice a3 k3 c3][j]?=some v→((w.alloc (.cells #[.slice a0 k0 c0,.slice a1 k1 c1,.slice a2 k2 c2,.slice a3 k3 c3] 33)).alloc (.cells #[.slice b0 k0 d0,.slice b1 k1 d1,.slice b2 k2 d2,.slice b3 k3 d3] 33)).cell? ⟨w.heap.size,j,none⟩=some v:=by
  intro j v hj
  match j,hj with
  | 0,hj=>simp at hj;subst hj;simp [go_sem]
  | 1,hj=>simp at hj;subst hj;simp [go_sem]
  | 2,hj=>simp at hj;subst hj;simp [go_sem]
  | 3,hj=>simp at hj;subst hj;simp [go_sem]
  | (j+4),hj=>simp at hj
 have hw':∀ j v,[Value.slice b0 k0 d0,.slice b1 k1 d1,.slice b2 k2 d2,.slice b3 k3 d3][j]?=some v→((w.alloc (.cells #[.slice a0 k0 c0,.slice a1 k1 c1,.slice a2 k2 c2,.slice a3 k3 c3] 33)).alloc (.cells #[.slice b0 k0 d0,.slice b1 k1 d1,.slice b2 k2 d2,.slice b3 k3 d3] 33)).cell? ⟨w.heap.size+1,j,none⟩=some v:=by
  intro j v hj
  match j,hj with
  | 0,hj=>simp at hj;subst hj;simp [go_sem]
  | 1,hj=>simp at hj;subst hj;simp [go_sem]
  | 2,hj=>simp at hj;subst hj;simp [go_sem]
  | 3,hj=>simp at hj;subst hj;simp [go_sem]
  | (j+4),hj=>simp at hj
 have u0:=hw 0 _ rfl
 have u1:=hw 1 _ rfl
 have u2:=hw 2 _ rfl
 have u3:=hw 3 _ rfl
 have v0:=hw' 0 _ rfl
 have v1:=hw' 1 _ rfl
 have v2:=hw' 2 _ rfl
 have v3:=hw' 3 _ rfl
 clear hw hw'
 go_enter Tryz.func33,Tryz.ntmps33
 go_wp2_with fail
 generalize (w.alloc (.cells #[.slice a0 k0 c0,.slice a1 k1 c1,.slice a2 k2 c2,.slice a3 k3 c3] 33)).alloc (.cells #[.slice b0 k0 d0,.slice b1 k1 d1,.slice b2 k2 d2,.slice b3 k3 d3] 33)=W at *
 replace i0:=i0.below hb0
 replace i1:=i1.below hb0
 replace i2:=i2.below hb0
 replace i3:=i3.below hb0
 replace j0:=j0.below hb0
 replace j1:=j1.below hb0
 replace j2:=j2.below hb0
 replace j3:=j3.below hb0
 refine (eqIntS_same a0 b0 k0 c0 d0 m0 _ i0 j0).mono ?_
 rintro e w1 ⟨rfl,d,rfl⟩
 replace hb0:Below w.heap.size w (W.drewN d):=⟨hb0.os,hb0.tape,hb0.output,hb0.size,hb0.block⟩
 replace i1:Ints .i64 (W.drewN d) a1 k1 c1 m1:=i1
 replace j1:Ints .i64 (W.drewN d) b1 k1 d1 m1:=j1
 replace u1:(W.drewN d).cell? ⟨w.heap.size,1,none⟩=some (.slice a1 k1 c1):=u1
 replace v1:(W.drewN d).cell? ⟨w.heap.size+1,1,none⟩=some (.slice b1 k1 d1):=v1
 replace i2:Ints .i64 (W.drewN d) a2 k2 c2 m2:=i2
 replace j2:Ints .i64 (W.drewN d) b2 k2 d2 m2:=j2
 replace u2:(W.drewN d).cell? ⟨w.heap.size,2,none⟩=some (.slice a2 k2 c2):=u2
 replace v2:(W.drewN d).cell? ⟨w.heap.size+1,2,none⟩=some (.slice b2 k2 d2):=v2
 replace i3:Ints .i64 (W.drewN d) a3 k3 c3 m3:=i3
 replace j3:Ints .i64 (W.drewN d) b3 k3 d3 m3:=j3
 replace u3:(W.drewN d).cell? ⟨w.heap.size,3,none⟩=some (.slice a3 k3 c3):=u3
 replace v3:(W.drewN d).cell? ⟨w.heap.size+1,3,none⟩=some (.slice b3 k3 d3):=v3
 clear i0 j0 u0 v0
 generalize W.drewN d=W at *
 go_wp2_with fail
 refine (eqIntS_same a1 b1 k1 c1 d1 m1 _ i1 j1).mono ?_
 rintro e w1 ⟨rfl,d,rfl⟩
 replace hb0:Below w.heap.size w (W.drewN d):=⟨hb0.os,hb0.tape,hb0.output,hb0.size,hb0.block⟩
 replace i2:Ints .i64 (W.drewN d) a2 k2 c2 m2:=i2
 replace j2:Ints .i64 (W.drewN d) b2 k2 d2 m2:=j2
 replace u2:(W.drewN d).cell? ⟨w.heap.size,2,none⟩=some (.slice a2 k2 c2):=u2
 replace v2:(W.drewN d).cell? ⟨w.heap.size+1,2,none⟩=some (.slice b2 k2 d2):=v2
 replace i3:Ints .i64 (W.drewN d) a3 k3 c3 m3:=i3
 replace j3:Ints .i64 (W.drewN d) b3 k3 d3 m3:=j3
 replace u3:(W.drewN d).cell? ⟨w.heap.size,3,none⟩=some (.slice a3 k3 c3):=u3
 replace v3:(W.drewN d).cell? ⟨w.heap.size+1,3,none⟩=some (.slice b3 k3 d3):=v3
 clear i1 j1 u1 v1
 generalize W.drewN d=W at *
 go_wp2_with fail
 refine (eqIntS_same a2 b2 k2 c2 d2 m2 _ i2 j2).mono ?_
 rintro e w1 ⟨rfl,d,rfl⟩
 replace hb0:Below w.heap.size w (W.drewN d):=⟨hb0.os,hb0.tape,hb0.output,hb0.size,hb0.block⟩
 replace i3:Ints .i64 (W.drewN d) a3 k3 c3 m3:=i3
 replace j3:Ints .i64 (W.drewN d) b3 k3 d3 m3:=j3
 replace u3:(W.drewN d).cell? ⟨w.heap.size,3,none⟩=some (.slice a3 k3 c3):=u3
 replace v3:(W.drewN d).cell? ⟨w.heap.size+1,3,none⟩=some (.slice b3 k3 d3):=v3
 clear i2 j2 u2 v2
 generalize W.drewN d=W at *
 go_wp2_with fail
 refine (eqIntS_same a3 b3 k3 c3 d3 m3 _ i3 j3).mono ?_
 rintro e w1 ⟨rfl,d,rfl⟩
 replace hb0:Below w.heap.size w (W.drewN d):=⟨hb0.os,hb0.tape,hb0.output,hb0.size,hb0.block⟩
 clear i3 j3 u3 v3
 generalize W.drewN d=W at *
 go_wp2
 go_ret
 exact ⟨rfl,hb0⟩
end Go.Proofs.YtjgffnlmjmibgaaGreatDoor
