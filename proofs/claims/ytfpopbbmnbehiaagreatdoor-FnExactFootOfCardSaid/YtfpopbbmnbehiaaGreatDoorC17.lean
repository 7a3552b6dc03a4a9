/-
  Joined: NrmQ, EqInts, Vm1.
-/
import Derived.Test.YtfpopbbmnbehiaaGreatDoorC10

namespace Go.Proofs.YtfpopbbmnbehiaaGreatDoor
set_option maxRecDepth 100000
set_option maxHeartbeats 16000000
set_option linter.unusedVariables false

theorem depM_symm (x y:I4):depM x y=depM y x:=by
 unfold depM
 by_cases h1:x.1=y.1
 ·simp [h1]
 ·have h1':¬ y.1=x.1:=fun e=>h1 e.symm
  by_cases h2:x.2.2.2=y.2.2.2
  ·simp only [h1,h1',h2,decide_false,Bool.false_or,decide_true,Bool.and_true]
   rw [Bool.and_comm (decide (x.2.2.1=1))]
  ·have h2':¬ y.2.2.2=x.2.2.2:=fun e=>h2 e.symm
   simp [h1,h1',h2,h2']
def Sw1 (es es':List I4):Prop:=∃ a x y b,es=a++x::y::b∧es'=a++y::x::b∧depM x y=false
inductive Sw:List I4→List I4→Prop
 | refl (es:List I4):Sw es es
 | step {es es' es'':List I4}:Sw es es'→Sw1 es' es''→Sw es es''
theorem Sw1.symm {es es':List I4} (h:Sw1 es es'):Sw1 es' es:=by
 obtain ⟨a,x,y,b,h1,h2,h3⟩:=h
 exact ⟨a,y,x,b,h2,h1,by rw [depM_symm];exact h3⟩
theorem Sw.trans {a b c:List I4} (h:Sw a b) (g:Sw b c):Sw a c:=by
 induction g with
 | refl=>exact h
 | step _ s ih=>exact .step ih s
theorem Sw.symm {a b:List I4} (h:Sw a b):Sw b a:=by
 induction h with
 | refl=>exact .refl _
 | step _ s ih=>exact (Sw.step (.refl _) s.symm).trans ih

open Go.RowKit

theorem eqIntS_same (a a':Option Addr) (len cap cap':Nat) (zs:List Int) (w:World) (h:Ints .i64 w a len cap zs) (h':Ints .i64 w a' len cap' zs) :
  Calls Tryz.prog 44 #[.slice a len cap,.slice a' len cap'] w fun e w'=>e=.returned (.bool true)∧∃ d,w'=w.drewN d:=by
 obtain ⟨hl,hlc,hcm,hcase⟩:=h
 obtain ⟨_,hlc',hcm',hcase'⟩:=h'
 unfold maxLen at hcm hcm'
 have hne:((len:Int) != (len:Int))=false:=by simp
 by_cases h0:len=0
 ·subst h0
  go_enter Tryz.func44,Tryz.ntmps44
  go_wp2
  refine wp_loop_rounds 1 ?_
  rw [rounds_succ]
  go_wp2
  go_ret
  exact ⟨rfl,0,rfl⟩
 ·rcases hcase with h0' | ⟨b,off,rfl,hblt,hcell⟩
  ·exact absurd h0' h0
  rcases hcase' with h0' | ⟨b',off',rfl,hblt',hcell'⟩
  ·exact absurd h0' h0
  go_enter Tryz.func44,Tryz.ntmps44
  go_wp2
  go_loopw [5] (fun si wr=>∃ k d:Nat,k≤len∧si=.int .i64 k∧wr=w.drewN d) (fun si _=>len - (intOf si).toNat)
  case atStart=>exact ⟨0,0,by omega,rfl,rfl⟩
  case round =>
   obtain ⟨k,d,hk,rfl,rfl⟩:=hrel
   by_cases hlt:k<len
   ·have hc:=hcell k hlt
    have hc':=hcell' k hlt
    have hlt':(k:Int)<(len:Int):=by omega
    generalize zs.getD k 0=x at hc hc'
    clear hcell hcell'
    go_wp2
    go_quiet (fail)
    go_wp2
    go_roundw
    case rel=>exact ⟨k+1,_,by omega,by go_num,rfl⟩
    case measure=>simp [intOf];omega
   ·go_wp2
    go_ret
    exact ⟨rfl,d,rfl⟩


theorem szIntS_less (a:Option Addr) (len cap:Nat) (left:Int) (w:World) (hl:len≤maxLen) (h0:0≤left) (h1:left≤2 ^ 20) :
  Calls Tryz.prog 94 #[.slice a len cap,.int .i64 left] w fun e w'=>e=.returned (.int .i64 (less left len))∧w=w':=by
 unfold maxLen at hl
 unfold less
 go_enter Tryz.func94,Tryz.ntmps94
 by_cases h:left - len<0
 ·rw [if_pos h]
  go_wp2
  go_ret
  exact ⟨rfl,rfl⟩
 ·rw [if_neg h]
  go_wp2
  go_ret
  exact ⟨rfl,rfl⟩
theorem szIntS_neg (a:Option Addr) (len cap:Nat) (left:Int) (w:World) (hl:len≤maxLen) (h0:0≤left) (h1:left≤2 ^ 20) (h:left - len<0) :
  Calls Tryz.prog 94 #[.slice a len cap,.int .i64 left] w fun e w'=>e=.returned (.int .i64 (-1))∧w=w':=by
 have:=szIntS_less a len cap left w hl h0 h1
 unfold less at this
 rwa [if_pos h] at this
theorem szIntS_pos (a:Option Addr) (len cap:Nat) (left:Int) (w:World) (hl:len≤maxLen) (h0:0≤left) (h1:left≤2 ^ 20) (h:0≤left - len) :
  Calls Tryz.prog 94 #[.slice a len cap,.int .i64 left] w fun e w'=>e=.returned (.int .i64 (left - len))∧w=w':=by
 have:=szIntS_less a len cap left w hl h0 h1
 unfold less at this
 rwa [if_neg (by omega)] at this

def SzV (s:S4) (left r:Int):Prop:=r=-1∨(0≤r∧r≤left∧(s.1.2.1:Int)≤left∧(s.2.1.2.1:Int)≤left∧(s.2.2.1.2.1:Int)≤left∧(s.2.2.2.2.1:Int)≤left)

theorem szVm_any (s:S4) (m:V4) (left:Int) (w:World) (h:Vmem w s m) (h0:0≤left) (h1:left≤2 ^ 20) :
  Calls Tryz.prog 42 #[s.val,.int .i64 left] w fun e w'=>(∃ r,e=.returned (.int .i64 r)∧SzV s left r)∧Below w.heap.size w w':=by
 have q0:=Nat.le_trans h.1.1.2.1 h.1.1.2.2.1
 have q1:=Nat.le_trans h.2.1.1.2.1 h.2.1.1.2.2.1
 have q2:=Nat.le_trans h.2.2.1.1.2.1 h.2.2.1.1.2.2.1
 have q3:=Nat.le_trans h.2.2.2.1.2.1 h.2.2.2.1.2.2.1
 clear h
 obtain ⟨⟨a0,n0,c0⟩,⟨a1,n1,c1⟩,⟨a2,n2,c2⟩,⟨a3,n3,c3⟩⟩:=s
 unfold S4.val
 simp only at q0 q1 q2 q3 ⊢
 have hb:Below w.heap.size w (w.alloc (.cells #[.slice a0 n0 c0,.slice a1 n1 c1,.slice a2 n2 c2,.slice a3 n3 c3] 71)):=by go_grown
 by_cases g0:left - n0<0
 ·go_enter Tryz.func42,Tryz.ntmps42
  go_wp2_with fail
  refine (szIntS_neg a0 n0 c0 (left) _ q0 (by omega) (by omega) g0).mono ?_
  rintro e w1 ⟨rfl,rfl⟩
  go_wp2
  go_ret
  exact ⟨⟨_,rfl,.inl rfl⟩,hb⟩
 by_cases g1:left - n0 - n1<0
 ·go_enter Tryz.func42,Tryz.ntmps42
  go_wp2_with fail
  refine (szIntS_pos a0 n0 c0 (left) _ q0 (by omega) (by omega) (by omega)).mono ?_
  rintro e w1 ⟨rfl,rfl⟩
  go_wp2_with fail
  refine (szIntS_neg a1 n1 c1 (left - n0) _ q1 (by omega) (by omega) g1).mono ?_
  rintro e w1 ⟨rfl,rfl⟩
  go_wp2
  go_ret
  exact ⟨⟨_,rfl,.inl rfl⟩,hb⟩
 by_cases g2:left - n0 - n1 - n2<0
 ·go_enter Tryz.func42,Tryz.ntmps42
  go_wp2_with fail
  refine (szIntS_pos a0 n0 c0 (left) _ q0 (by omega) (by omega) (by omega)).mono ?_
  rintro e w1 ⟨rfl,rfl⟩
  go_wp2_with fail
  refine (szIntS_pos a1 n1 c1 (left - n0) _ q1 (by omega) (by omega) (by omega)).mono ?_
  rintro e w1 ⟨rfl,rfl⟩
  go_wp2_with fail
  refine (szIntS_neg a2 n2 c2 (left - n0 - n1) _ q2 (by omega) (by omega) g2).mono ?_
  rintro e w1 ⟨rfl,rfl⟩
  go_wp2
  go_ret
  exact ⟨⟨_,rfl,.inl rfl⟩,hb⟩
 by_cases g3:left - n0 - n1 - n2 - n3<0
 ·go_enter Tryz.func42,Tryz.ntmps42
  go_wp2_with fail
  refine (szIntS_pos a0 n0 c0 (left) _ q0 (by omega) (by omega) (by omega)).mono ?_
  rintro e w1 ⟨rfl,rfl⟩
  go_wp2_with fail
  refine (szIntS_pos a1 n1 c1 (left - n0) _ q1 (by omega) (by omega) (by omega)).mono ?_
  rintro e w1 ⟨rfl,rfl⟩
  go_wp2_with fail
  refine (szIntS_pos a2 n2 c2 (left - n0 - n1) _ q2 (by omega) (by omega) (by omega)).mono ?_
  rintro e w1 ⟨rfl,rfl⟩
  go_wp2_with fail
  refine (szIntS_neg a3 n3 c3 (left - n0 - n1 - n2) _ q3 (by omega) (by omega) g3).mono ?_
  rintro e w1 ⟨rfl,rfl⟩
  go_wp2
  go_ret
  exact ⟨⟨_,rfl,.inl rfl⟩,hb⟩
 go_enter Tryz.func42,Tryz.ntmps42
 go_wp2_with fail
 refine (szIntS_pos a0 n0 c0 (left) _ q0 (by omega) (by omega) (by omega)).mono ?_
 rintro e w1 ⟨rfl,rfl⟩
 go_wp2_with fail
 refine (szIntS_pos a1 n1 c1 (left - n0) _ q1 (by omega) (by omega) (by omega)).mono ?_
 rintro e w1 ⟨rfl,rfl⟩
 go_wp2_with fail
 refine (szIntS_pos a2 n2 c2 (left - n0 - n1) _ q2 (by omega) (by omega) (by omega)).mono ?_
 rintro e w1 ⟨rfl,rfl⟩
 go_wp2_with fail
 refine (szIntS_pos a3 n3 c3 (left - n0 - n1 - n2) _ q3 (by omega) (by omega) (by omega)).mono ?_
 rintro e w1 ⟨rfl,rfl⟩
 go_wp2
 go_ret
 exact ⟨⟨_,rfl,.inr ⟨by omega,by omega,by simp only;omega,by simp only;omega,by simp only;omega,by simp only;omega⟩⟩,hb⟩

theorem eqVm_same (s s':S4) (m:V4) (w:World) (h:Vmem w s m) (h':Vmem w s' m) :
  Calls Tryz.prog 45 #[s.val,s'.val] w fun e w'=>e=.returned (.bool true)∧Below w.heap.size w w':=by
 obtain ⟨⟨i0,_⟩,⟨i1,_⟩,⟨i2,_⟩,⟨i3,_⟩⟩:=h
 obtain ⟨⟨j0,_⟩,⟨j1,_⟩,⟨j2,_⟩,⟨j3,_⟩⟩:=h'
 obtain ⟨⟨a0,n0,c0⟩,⟨a1,n1,c1⟩,⟨a2,n2,c2⟩,⟨a3,n3,c3⟩⟩:=s
 obtain ⟨⟨b0,k0,d0⟩,⟨b1,k1,d1⟩,⟨b2,k2,d2⟩,⟨b3,k3,d3⟩⟩:=s'
 obtain ⟨m0,m1,m2,m3⟩:=m
 unfold S4.val
 simp only at i0 i1 i2 i3 j0 j1 j2 j3 ⊢
 obtain rfl:k0=n0:=j0.1.symm.trans i0.1
 obtain rfl:k1=n1:=j1.1.symm.trans i1.1
 obtain rfl:k2=n2:=j2.1.symm.trans i2.1
 obtain rfl:k3=n3:=j3.1.symm.trans i3.1
 have hb0:Below w.heap.size w ((w.alloc (.cells #[.slice a0 k0 c0,.slice a1 k1 c1,.slice a2 k2 c2,.slice a3 k3 c3] 33)).alloc (.cells #[.slice b0 k0 d0,.slice b1 k1 d1,.slice b2 k2 d2,.slice b3 k3 d3] 33)):=by go_grown
 have hw:∀ j v,[Value.slice a0 k0 c0,.slice a1 k1 c1,.slice a2 k2 c2,.slice a3 k3 c3][j]?=some v→((w.alloc (.cells #[.slice a0 k0 c0,.slice a1 k1 c1,.slice a2 k2 c2,.slice a3 k3 c3] 33)).alloc (.cells #[.slice b0 k0 d0,.slice b1 k1 d1,.slice b2 k2 d2,.slice b3 k3 d3] 33)).cell? ⟨w.heap.size,j,none⟩=some v:=by
  intro j v hj
  match j,hj with
  | 0,hj=>simp at hj;subst hj;simp [go_sem]
  | 1,hj=>simp at hj;subst hj;simp [go_sem]
  | 2,hj=>simp at hj;subst hj;simp [go_sem]
  | 3,hj=>simp at hj;subst hj;simp [go_sem]
  | (j+4),hj=>simp at hj
 have hw':∀ j v,[Value.slice b0 k0 d0,.slice b1 k1 d1,.slice b2 k2 d2,.slice b3 k3 d3][j]?=some v→((w.alloc (.cells #[.slice a0 k0 c0,.slice a1 k1 c1,.slice a2 k2 c2,.slice a3 k3 c3] 33)).alloc (.cells #[.slice b0 k0 d0,.slice b1 k1 d1,.slice b2 k2 d2,.slice b3 k3 d3] 33)).cell? ⟨w.heap.size+1,j,none⟩=some v:=by
  intro j v hj
  match j,hj with
  | 0,hj=>simp at hj;subst hj;simp [go_sem]
  | 1,hj=>simp at hj;subst hj;simp [go_sem]
  | 2,hj=>simp at hj;subst hj;simp [go_sem]
  | 3,hj=>simp at hj;subst hj;simp [go_sem]
  | (j+4),hj=>simp at hj
 have u0:=hw 0 _ rfl
 have u1:=hw 1 _ rfl
 have u2:=hw 2 _ rfl
 have u3:=hw 3 _ rfl
 have v0:=hw' 0 _ rfl
 have v1:=hw' 1 _ rfl
 have v2:=hw' 2 _ rfl
 have v3:=hw' 3 _ rfl
 clear hw hw'
 go_enter Tryz.func45,Tryz.ntmps45
 go_wp2_with fail
 generalize (w.alloc (.cells #[.slice a0 k0 c0,.slice a1 k1 c1,.slice a2 k2 c2,.slice a3 k3 c3] 33)).alloc (.cells #[.slice b0 k0 d0,.slice b1 k1 d1,.slice b2 k2 d2,.slice b3 k3 d3] 33)=W at *
 replace i0:=i0.below hb0
 replace i1:=i1.below hb0
 replace i2:=i2.below hb0
 replace i3:=i3.below hb0
 replace j0:=j0.below hb0
 replace j1:=j1.below hb0
 replace j2:=j2.below hb0
 replace j3:=j3.below hb0
 refine (eqIntS_same a0 b0 k0 c0 d0 m0 _ i0 j0).mono ?_
 rintro e w1 ⟨rfl,d,rfl⟩
 replace hb0:Below w.heap.size w (W.drewN d):=⟨hb0.os,hb0.tape,hb0.output,hb0.size,hb0.block⟩
 replace i1:Ints .i64 (W.drewN d) a1 k1 c1 m1:=i1
 replace j1:Ints .i64 (W.drewN d) b1 k1 d1 m1:=j1
 replace u1:(W.drewN d).cell? ⟨w.heap.size,1,none⟩=some (.slice a1 k1 c1):=u1
 replace v1:(W.drewN d).cell? ⟨w.heap.size+1,1,none⟩=some (.slice b1 k1 d1):=v1
 replace i2:Ints .i64 (W.drewN d) a2 k2 c2 m2:=i2
 replace j2:Ints .i64 (W.drewN d) b2 k2 d2 m2:=j2
 replace u2:(W.drewN d).cell? ⟨w.heap.size,2,none⟩=some (.slice a2 k2 c2):=u2
 replace v2:(W.drewN d).cell? ⟨w.heap.size+1,2,none⟩=some (.slice b2 k2 d2):=v2
 replace i3:Ints .i64 (W.drewN d) a3 k3 c3 m3:=i3
 replace j3:Ints .i64 (W.drewN d) b3 k3 d3 m3:=j3
 replace u3:(W.drewN d).cell? ⟨w.heap.size,3,none⟩=some (.slice a3 k3 c3):=u3
 replace v3:(W.drewN d).cell? ⟨w.heap.size+1,3,none⟩=some (.slice b3 k3 d3):=v3
 clear i0 j0 u0 v0
 generalize W.drewN d=W at *
 go_wp2_with fail
 refine (eqIntS_same a1 b1 k1 c1 d1 m1 _ i1 j1).mono ?_
 rintro e w1 ⟨rfl,d,rfl⟩
 replace hb0:Below w.heap.size w (W.drewN d):=⟨hb0.os,hb0.tape,hb0.output,hb0.size,hb0.block⟩
 replace i2:Ints .i64 (W.drewN d) a2 k2 c2 m2:=i2
 replace j2:Ints .i64 (W.drewN d) b2 k2 d2 m2:=j2
 replace u2:(W.drewN d).cell? ⟨w.heap.size,2,none⟩=some (.slice a2 k2 c2):=u2
 replace v2:(W.drewN d).cell? ⟨w.heap.size+1,2,none⟩=some (.slice b2 k2 d2):=v2
 replace i3:Ints .i64 (W.drewN d) a3 k3 c3 m3:=i3
 replace j3:Ints .i64 (W.drewN d) b3 k3 d3 m3:=j3
 replace u3:(W.drewN d).cell? ⟨w.heap.size,3,none⟩=some (.slice a3 k3 c3):=u3
 replace v3:(W.drewN d).cell? ⟨w.heap.size+1,3,none⟩=some (.slice b3 k3 d3):=v3
 clear i1 j1 u1 v1
 generalize W.drewN d=W at *
 go_wp2_with fail
 refine (eqIntS_same a2 b2 k2 c2 d2 m2 _ i2 j2).mono ?_
 rintro e w1 ⟨rfl,d,rfl⟩
 replace hb0:Below w.heap.size w (W.drewN d):=⟨hb0.os,hb0.tape,hb0.output,hb0.size,hb0.block⟩
 replace i3:Ints .i64 (W.drewN d) a3 k3 c3 m3:=i3
 replace j3:Ints .i64 (W.drewN d) b3 k3 d3 m3:=j3
 replace u3:(W.drewN d).cell? ⟨w.heap.size,3,none⟩=some (.slice a3 k3 c3):=u3
 replace v3:(W.drewN d).cell? ⟨w.heap.size+1,3,none⟩=some (.slice b3 k3 d3):=v3
 clear i2 j2 u2 v2
 generalize W.drewN d=W at *
 go_wp2_with fail
 refine (eqIntS_same a3 b3 k3 c3 d3 m3 _ i3 j3).mono ?_
 rintro e w1 ⟨rfl,d,rfl⟩
 replace hb0:Below w.heap.size w (W.drewN d):=⟨hb0.os,hb0.tape,hb0.output,hb0.size,hb0.block⟩
 clear i3 j3 u3 v3
 generalize W.drewN d=W at *
 go_wp2
 go_ret
 exact ⟨rfl,hb0⟩
end Go.Proofs.YtfpopbbmnbehiaaGreatDoor
