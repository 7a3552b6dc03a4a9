/-
  Joined: VmI, VmOKI.
-/
import Derived.Test.YtgmhhegckcionaaGreatDoorF05

namespace Go.Proofs.YtgmhhegckcionaaGreatDoor
set_option maxRecDepth 100000
set_option maxHeartbeats 16000000
open Go.RowKit

def ZN (w:World):Prop:=∀ i v,([3,6,4,9,2,3,6,9].map (Value.int .i64))[i]?=some v→w.cell? ⟨0,i,none⟩=some v
theorem ZN.below {w w':World} (h:ZN w) (hb:Below w.heap.size w w'):ZN w':=fun i v hi=>Za hb _ _ (h i v hi)

theorem QJ (s:S4) (w:World) :
  Calls Tryz.prog 109 #[s.val] w fun e w'=>e=.returned s.val∧Below w.heap.size w w':=by
 obtain ⟨⟨a0,n0,c0⟩,⟨a1,n1,c1⟩,⟨a2,n2,c2⟩,⟨a3,n3,c3⟩⟩:=s
 unfold S4.val
 simp only
 go_enter Tryz.func109,Tryz.ntmps109
 go_wp2
 go_returns
 exact ⟨rfl,by go_grown⟩

theorem R4 (n high:Int) (a:Option Addr) (len cap:Nat) (zs:List Int) (w:World) (h:Yn .i64 w a len cap zs) :
  Calls Tryz.prog 146 #[.agg #[.int .i64 n,.int .i64 high],.slice a len cap] w fun e w'=>e=.returned (.bool (Xz zs n high))∧Below w.heap.size w w':=by
 obtain ⟨hl,hlc,hcm,hcase⟩:=h
 unfold maxLen at hcm
 obtain ⟨fin,hfin⟩:∃ fin,fin=Xz zs n high:=⟨_,rfl⟩
 rw [← hfin]
 have HF:Hid (fin=Xz zs n high):=hfin
 clear hfin
 by_cases hn:(len:Int)=n
 ·have HE:Hid (Hid (∀ i,i<zs.length→0≤zs.getD i 0∧zs.getD i 0≤high)→fin=true):=fun h=>by rw [HF.out,JL h.out,hl,decide_eq_true hn]
  have hne:((len:Int) != n)=false:=by simp [hn]
  by_cases h0:len=0
  ·subst h0
   obtain rfl:fin=true:=HE.out (fun i hi=>by omega)
   clear HE HF
   simp only [Int.natCast_zero] at hne
   go_enter Tryz.func146,Tryz.ntmps146
   go_wp2
   refine wp_loop_rounds 1 ?_
   rw [rounds_succ]
   go_wp2
   go_ret
   exact ⟨rfl,by go_grown⟩
  rcases hcase with h0' | ⟨bk,off,rfl,hblt,hcell⟩
  ·exact absurd h0' h0
  have bw:Below w.heap.size w (w.alloc (.cells #[.int .i64 n,.int .i64 high] 217)):=by go_grown
  have q1:(w.alloc (.cells #[.int .i64 n,.int .i64 high] 217)).cell? ⟨w.heap.size,1,none⟩=some (.int .i64 high):=by simp [go_sem]
  have hc2:∀ t,t<len→(w.alloc (.cells #[.int .i64 n,.int .i64 high] 217)).cell? ⟨bk,off+t,none⟩=some (.int .i64 (zs.getD t 0)):=fun t ht=>Za bw _ _ (hcell t ht)
  clear hcell
  go_enter Tryz.func146,Tryz.ntmps146
  go_wp2
  generalize (w.alloc (.cells #[.int .i64 n,.int .i64 high] 217))=W at *
  go_loopw [14] (fun si wr=>∃ k:Nat,k≤len∧si=.int .i64 k∧Hid (∀ i,i<k→0≤zs.getD i 0∧zs.getD i 0≤high)∧W=wr) (fun si _=>len - (intOf si).toNat)
  case atStart=>exact ⟨0,by omega,rfl,(fun i hi=>by omega),rfl⟩
  case round =>
   obtain ⟨k,hk,rfl,HK,rfl⟩:=hrel
   by_cases hlt:k<len
   ·have hc:=hc2 k hlt
    have hlt':(k:Int)<(len:Int):=by omega
    have hno:¬ (0≤zs.getD k 0∧zs.getD k 0≤high)→fin=false:=fun hin=>by rw [HF.out];exact Fa (by omega) hin
    have HN:Hid (¬ (0≤zs.getD k 0∧zs.getD k 0≤high)→fin=false):=hno
    have HK2:Hid (0≤zs.getD k 0∧zs.getD k 0≤high→Hid (∀ i,i<k+1→0≤zs.getD i 0∧zs.getD i 0≤high)):=fun hin i hi=>by
     by_cases e:i=k
     ·subst e;exact hin
     exact HK.out i (by omega)
    clear hc2 hno
    generalize zs.getD k 0=x at hc HN HK2
    by_cases g0:x<0
    ·obtain rfl:fin=false:=HN.out (by omega)
     clear HN HK2 HK HF HE
     go_wp2
     go_ret
     exact ⟨rfl,bw⟩
    by_cases g1:high<x
    ·obtain rfl:fin=false:=HN.out (by omega)
     have g0':decide (x<0)=false:=by simp;omega
     clear HN HK2 HK HF HE
     go_wp2
     go_ret
     exact ⟨rfl,bw⟩
    have HK3:=HK2.out ⟨by omega,by omega⟩
    have g0':decide (x<0)=false:=by simp;omega
    have g1':decide (high<x)=false:=by simp;omega
    clear HN HK2 HK HF HE
    go_wp2
    go_roundw
    case rel=>exact ⟨k+1,by omega,by go_num,HK3,by trivial⟩
    case measure=>simp [intOf];omega
   obtain rfl:k=len:=by omega
   obtain rfl:fin=true:=HE.out (fun i hi=>HK.out i (by omega))
   clear hc2 HE HF HK
   go_wp2
   go_ret
   exact ⟨rfl,bw⟩
 obtain rfl:fin=false:=by
  rw [HF.out]
  unfold Xz
  rw [hl,decide_eq_false hn,Bool.and_false]
 have hne:((len:Int) != n)=true:=by simp [hn]
 clear HF hcase
 go_enter Tryz.func146,Tryz.ntmps146
 go_wp2
 go_ret
 exact ⟨rfl,by go_grown⟩

theorem Kl (v0 v1 v2 v3:Value) (w:World):(Instr.index 179 (.agg #[v0,v1,v2,v3]) (.int .i64 0)).run Tryz.prog w=.ok v0 w:=by kernel_rfl
theorem Km (v0 v1 v2 v3:Value) (w:World):(Instr.index 179 (.agg #[v0,v1,v2,v3]) (.int .i64 1)).run Tryz.prog w=.ok v1 w:=by kernel_rfl
theorem Kn (v0 v1 v2 v3:Value) (w:World):(Instr.index 179 (.agg #[v0,v1,v2,v3]) (.int .i64 2)).run Tryz.prog w=.ok v2 w:=by kernel_rfl
theorem Ko (v0 v1 v2 v3:Value) (w:World):(Instr.index 179 (.agg #[v0,v1,v2,v3]) (.int .i64 3)).run Tryz.prog w=.ok v3 w:=by kernel_rfl

theorem Q0 (s:S4) (m:V4) (w:World) (h:Xd w s m) (hV:ZN w) :
  Calls Tryz.prog 110 #[s.val] w fun e w'=>e=.returned (.bool (Zc m))∧Below w.heap.size w w':=by
 have kL:=QJ s
 obtain ⟨⟨i0,_⟩,⟨i1,_⟩,⟨i2,_⟩,⟨i3,_⟩⟩:=h
 obtain ⟨⟨a0,n0,c0⟩,⟨a1,n1,c1⟩,⟨a2,n2,c2⟩,⟨a3,n3,c3⟩⟩:=s
 obtain ⟨m0,m1,m2,m3⟩:=m
 unfold S4.val at kL ⊢
 unfold Zc
 simp only at i0 i1 i2 i3 kL ⊢
 have bw:Below w.heap.size w (w.alloc (.cells #[.slice a0 n0 c0,.slice a1 n1 c1,.slice a2 n2 c2,.slice a3 n3 c3] 88)):=by go_grown
 have k0:=fun w h=>R4 3 6 a0 n0 c0 m0 w h
 have k1:=fun w h=>R4 4 9 a1 n1 c1 m1 w h
 have k2:=fun w h=>R4 2 3 a2 n2 c2 m2 w h
 have k3:=fun w h=>R4 6 9 a3 n3 c3 m3 w h
 generalize Xz m0 3 6=x0 at *
 generalize Xz m1 4 9=x1 at *
 generalize Xz m2 2 3=x2 at *
 generalize Xz m3 6 9=x3 at *
 have d0:=Kl (.slice a0 n0 c0) (.slice a1 n1 c1) (.slice a2 n2 c2) (.slice a3 n3 c3)
 have d1:=Km (.slice a0 n0 c0) (.slice a1 n1 c1) (.slice a2 n2 c2) (.slice a3 n3 c3)
 have d2:=Kn (.slice a0 n0 c0) (.slice a1 n1 c1) (.slice a2 n2 c2) (.slice a3 n3 c3)
 have d3:=Ko (.slice a0 n0 c0) (.slice a1 n1 c1) (.slice a2 n2 c2) (.slice a3 n3 c3)
 go_enter Tryz.func110,Tryz.ntmps110
 go_wp2_with fail
 refine (kL _).mono ?_
 rintro e w1 ⟨rfl,hb⟩
 replace bw:=Zb bw hb
 replace hV:=hV.below bw
 clear hb kL
 have t0:=hV 0 _ rfl
 have t1:=hV 1 _ rfl
 go_wp2_with fail
 refine wp_loop_rounds 5 ?_
 rw [rounds_succ]
 go_wp2_with fail
 refine (k0 _ (i0.below bw)).mono ?_
 rintro e w2 ⟨rfl,hb⟩
 replace bw:=Zb bw hb
 replace hV:=hV.below hb
 clear hb k0 i0 t0 t1
 cases x0
 ·go_wp2
  go_ret
  exact ⟨rfl,bw⟩
 have t2:=hV 2 _ rfl
 have t3:=hV 3 _ rfl
 go_wp2_with fail
 rw [rounds_succ]
 go_wp2_with fail
 refine (k1 _ (i1.below bw)).mono ?_
 rintro e w3 ⟨rfl,hb⟩
 replace bw:=Zb bw hb
 replace hV:=hV.below hb
 clear hb k1 i1 t2 t3
 cases x1
 ·go_wp2
  go_ret
  exact ⟨rfl,bw⟩
 have t4:=hV 4 _ rfl
 have t5:=hV 5 _ rfl
 go_wp2_with fail
 rw [rounds_succ]
 go_wp2_with fail
 refine (k2 _ (i2.below bw)).mono ?_
 rintro e w4 ⟨rfl,hb⟩
 replace bw:=Zb bw hb
 replace hV:=hV.below hb
 clear hb k2 i2 t4 t5
 cases x2
 ·go_wp2
  go_ret
  exact ⟨rfl,bw⟩
 have t6:=hV 6 _ rfl
 have t7:=hV 7 _ rfl
 go_wp2_with fail
 rw [rounds_succ]
 go_wp2_with fail
 refine (k3 _ (i3.below bw)).mono ?_
 rintro e w5 ⟨rfl,hb⟩
 replace bw:=Zb bw hb
 clear hb k3 i3 t6 t7 hV
 cases x3
 ·go_wp2
  go_ret
  exact ⟨rfl,bw⟩
 go_wp2_with fail
 rw [rounds_succ]
 go_wp2
 go_ret
 exact ⟨rfl,bw⟩


theorem RG (a:Option Addr) (len cap:Nat) (rows:List (List I3)) (s:S4) (m:V4) (w:World) (hC:YT w a len cap rows) (h:Xd w s m) (hV:ZN w) :
  Calls Tryz.prog 84 #[.agg #[.slice a len cap],s.val] w fun e w'=>e=.returned (.bool (Zf rows && Zc m))∧Below w.heap.size w w':=by
 have kP:=Ud a len cap rows
 have kS:=Q0 s m
 generalize Zf rows=x at *
 generalize Zc m=y at *
 obtain ⟨⟨a0,n0,c0⟩,⟨a1,n1,c1⟩,⟨a2,n2,c2⟩,⟨a3,n3,c3⟩⟩:=s
 unfold S4.val at kS ⊢
 simp only at kS ⊢
 have hu:Hid (∀ W,Below w.heap.size w W→Xd W ((a0,n0,c0),(a1,n1,c1),(a2,n2,c2),(a3,n3,c3)) m):=fun W hb=>h.below hb
 have bw:Below w.heap.size w ((w.alloc (.cells #[.slice a len cap] 25)).alloc (.cells #[.slice a0 n0 c0,.slice a1 n1 c1,.slice a2 n2 c2,.slice a3 n3 c3] 88)):=by go_grown
 have cS:∀ j v,[Value.slice a0 n0 c0,.slice a1 n1 c1,.slice a2 n2 c2,.slice a3 n3 c3][j]?=some v→((w.alloc (.cells #[.slice a len cap] 25)).alloc (.cells #[.slice a0 n0 c0,.slice a1 n1 c1,.slice a2 n2 c2,.slice a3 n3 c3] 88)).cell? ⟨w.heap.size+1,j,none⟩=some v:=by
  intro j v hj
  match j,hj with
  | 0,hj=>simp at hj;subst hj;simp [go_sem]
  | 1,hj=>simp at hj;subst hj;simp [go_sem]
  | 2,hj=>simp at hj;subst hj;simp [go_sem]
  | 3,hj=>simp at hj;subst hj;simp [go_sem]
  | (j+4),hj=>simp at hj
 have s0:=cS 0 _ rfl
 have s1:=cS 1 _ rfl
 have s2:=cS 2 _ rfl
 have s3:=cS 3 _ rfl
 clear cS
 go_enter Tryz.func84,Tryz.ntmps84
 go_wp2_with fail
 refine (kP _ (hC.below bw)).mono ?_
 rintro e w1 ⟨rfl,hb⟩
 replace bw:=Zb bw hb
 replace s0:=Za hb _ _ s0
 replace s1:=Za hb _ _ s1
 replace s2:=Za hb _ _ s2
 replace s3:=Za hb _ _ s3
 clear hb hC kP
 cases x
 ·go_wp2
  go_ret
  exact ⟨rfl,bw⟩
 go_wp2_with fail
 refine (kS _ (hu.out _ bw) (hV.below bw)).mono ?_
 rintro e w2 ⟨rfl,hb⟩
 replace bw:=Zb bw hb
 cases y
 ·go_wp2
  go_ret
  exact ⟨rfl,bw⟩
 go_wp2
 go_ret
 exact ⟨rfl,bw⟩
end Go.Proofs.YtgmhhegckcionaaGreatDoor
