/-
  Joined: Vm5, SameVmI.
-/
import Derived.Test.YtifoggpohlegmaaGreatDoorC08

namespace Go.Proofs.YtifoggpohlegmaaGreatDoor
set_option maxRecDepth 100000
set_option maxHeartbeats 16000000
open Go.RowKit

def sameV (m q:V4):Bool:=shapeOk m && (shapeOk q && ((keyT m).toList == (keyT q).toList))


theorem digit_inj {a b:Int} (ha:0≤a∧a≤9) (hb:0≤b∧b≤9) (h:UInt8.ofNat (48+a).toNat=UInt8.ofNat (48+b).toNat):a=b:=by
 have:=congrArg UInt8.toNat h
 rw [UInt8.toNat_ofNat',UInt8.toNat_ofNat'] at this
 omega
theorem digits_inj:∀ {xs ys:List Int},(∀ z ∈ xs,0≤z∧z≤9)→(∀ z ∈ ys,0≤z∧z≤9)→(xs.map fun z=>48+z).map (fun n:Int=>UInt8.ofNat n.toNat)=(ys.map fun z=>48+z).map (fun n:Int=>UInt8.ofNat n.toNat)→xs=ys
 | [],[],_,_,_=>rfl
 | [],_::_,_,_,h=>by simp at h
 | _::_,[],_,_,h=>by simp at h
 | x::xs,y::ys,hx,hy,h=>by
  simp only [List.map_cons,List.cons.injEq] at h
  rw [digit_inj (hx x (by simp)) (hy y (by simp)) h.1,digits_inj (fun z hz=>hx z (by simp [hz])) (fun z hz=>hy z (by simp [hz])) h.2]
theorem keyT_inj {m q:V4} (hm:shapeOk m=true) (hq:shapeOk q=true) (h:(keyT m).toList=(keyT q).toList):m=q:=by
 obtain ⟨l0,l1,l2,l3,d⟩:=shape_parts hm
 obtain ⟨k0,k1,k2,k3,e⟩:=shape_parts hq
 have hall:allOf m=allOf q:=by
  refine digits_inj d e ?_
  rw [ByteArray.toList_eq,ByteArray.toList_eq] at h
  exact h
 unfold allOf at hall
 obtain ⟨h1,e3⟩:=List.append_inj hall (by simp;omega)
 obtain ⟨h2,e2⟩:=List.append_inj h1 (by simp;omega)
 obtain ⟨e0,e1⟩:=List.append_inj h2 (by omega)
 obtain ⟨a,b,c,f⟩:=m
 obtain ⟨a',b',c',f'⟩:=q
 simp only at e0 e1 e2 e3
 rw [e0,e1,e2,e3]
theorem sameV_eq (m q:V4):sameV m q=(shapeOk m && (shapeOk q && decide (m=q))):=by
 unfold sameV
 cases hm:shapeOk m
 ·rfl
 cases hq:shapeOk q
 ·rfl
 by_cases h:m=q
 ·subst h;simp
 ·have:¬ (keyT m).toList=(keyT q).toList:=fun e=>h (keyT_inj hm hq e)
  simp [h,this]

theorem bel_dN (w:World) (n:Nat):Below w.heap.size w (w.drewN n):=⟨rfl,rfl,rfl,Nat.le_refl _,fun _ _=>rfl⟩

theorem equalI_is (a a':Option Addr) (len cap cap':Nat) (xs ys:List Int) (w:World) (h:Ints .i64 w a len cap xs) (h':Ints .i64 w a' len cap' ys) (hpos:len≠0) :
  Calls Tryz.prog 61 #[.slice a len cap,.slice a' len cap'] w fun e w'=>e=.returned (.bool (decide (xs=ys)))∧Below w.heap.size w w':=by
 obtain ⟨hl,hlc,hcm,hcase⟩:=h
 obtain ⟨hl',hlc',hcm',hcase'⟩:=h'
 unfold maxLen at hcm hcm'
 rcases hcase with h0' | ⟨b,off,rfl,hblt,hcell⟩
 ·exact absurd h0' hpos
 rcases hcase' with h0' | ⟨b',off',rfl,hblt',hcell'⟩
 ·exact absurd h0' hpos
 have hne:((len:Int) != (len:Int))=false:=by simp
 obtain ⟨fin,hfin⟩:∃ fin,fin=decide (xs=ys):=⟨_,rfl⟩
 rw [← hfin]
 have HF:Hid (fin=decide (xs=ys)):=hfin
 clear hfin
 go_enter Tryz.func61,Tryz.ntmps61
 go_wp2
 go_loopw [13] (fun si wr=>∃ (k:Nat),k≤len∧si=.int .i64 k∧Hid (xs.take k=ys.take k)∧Below w.heap.size w wr) (fun si _=>len - (intOf si).toNat)
 case atStart=>exact ⟨0,by omega,rfl,by simp [Hid],Below.refl _ _⟩
 case round =>
  obtain ⟨k,hk,rfl,hH',hbel⟩:=hrel
  by_cases hlt:k<len
  ·have c0:=hcell k hlt
   have e0:=hcell' k hlt
   rw [← hbel.cell (p:=⟨b,_,none⟩) hblt] at c0
   rw [← hbel.cell (p:=⟨b',_,none⟩) hblt'] at e0
   have hlt':(k:Int)<(len:Int):=by omega
   have hk0:(0:Int)≤(k:Int):=by omega
   have hxg:Hid (xs.getD k 0=xs[k]'(by omega)∧ys.getD k 0=ys[k]'(by omega)):=⟨by simp [List.getD,hl,hlt],by simp [List.getD,hl',hlt]⟩
   by_cases hxy:xs.getD k 0=ys.getD k 0
   ·have hH2:Hid (xs.take (k+1)=ys.take (k+1)):=by
     rw [Hid,List.take_succ_eq_append_getElem (by omega),List.take_succ_eq_append_getElem (by omega),hH'.out,← hxg.out.1,← hxg.out.2,hxy]
    rw [← hxy] at e0
    clear hcell hcell' hxg hxy hH'
    generalize xs.getD k 0=x at c0 e0
    have hxx:(x != x)=false:=by simp
    go_wp2_with fail
    go_quiet (fail)
    have hb2:Below w.heap.size w (wr.drewN nq):=bel_trans hbel (bel_dN _ _)
    go_wp2
    go_roundw
    case rel=>exact ⟨k+1,by omega,by go_num,hH2,hb2⟩
    case measure=>simp [intOf];omega
   ·obtain rfl:fin=false:=by
     rw [HF.out,decide_eq_false_iff_not]
     intro h
     subst h
     exact hxy rfl
    clear hcell hcell' hxg hH' HF
    generalize xs.getD k 0=x at c0 hxy
    generalize ys.getD k 0=y at e0 hxy
    have hxx:(x != y)=true:=by simp [hxy]
    have hb2:∀ nq,Below w.heap.size w (wr.drewN nq):=fun nq=>bel_trans hbel (bel_dN _ _)
    go_wp2_with fail
    go_quiet (fail)
    go_wp2
    go_ret
    exact ⟨rfl,hb2 _⟩
  ·obtain rfl:k=len:=by omega
   obtain rfl:fin=true:=by
    rw [HF.out,decide_eq_true_eq]
    have h9:=hH'.out
    rwa [List.take_of_length_le (by omega),List.take_of_length_le (by omega)] at h9
   clear hcell hcell' hH' HF
   go_wp2
   go_ret
   exact ⟨rfl,hbel⟩

theorem implSameVm_is (s:S4) (m:V4) (t:S4) (q:V4) (w:World) (hA:Vmem w s m) (hB:Vmem w t q) (hV:VmShape w) :
  Calls Tryz.prog 18 #[s.val,t.val] w fun e w'=>e=.returned (.bool (sameV m q))∧Below w.heap.size w w':=by
 have kA:=fun w h=>right_is s m w h
 have kB:=fun w h=>right_is t q w h
 have kLA:=fun w=>lists_is s w
 have kLB:=fun w=>lists_is t w
 have hMA:=fun (W:World) (hb:Below w.heap.size w W)=>hA.below hb
 have hMB:=fun (W:World) (hb:Below w.heap.size w W)=>hB.below hb
 rw [sameV_eq]
 have hpA:=fun h:shapeOk m=true=>shape_parts h
 have hpB:=fun h:shapeOk q=true=>shape_parts h
 obtain ⟨⟨i0,_⟩,⟨i1,_⟩,⟨i2,_⟩,⟨i3,_⟩⟩:=hA
 obtain ⟨⟨j0,_⟩,⟨j1,_⟩,⟨j2,_⟩,⟨j3,_⟩⟩:=hB
 obtain ⟨⟨a0,n0,c0⟩,⟨a1,n1,c1⟩,⟨a2,n2,c2⟩,⟨a3,n3,c3⟩⟩:=s
 obtain ⟨⟨b0,k0,d0⟩,⟨b1,k1,d1⟩,⟨b2,k2,d2⟩,⟨b3,k3,d3⟩⟩:=t
 have uA:S4.val ((a0,n0,c0),(a1,n1,c1),(a2,n2,c2),(a3,n3,c3))=.agg #[.slice a0 n0 c0,.slice a1 n1 c1,.slice a2 n2 c2,.slice a3 n3 c3]:=rfl
 have uB:S4.val ((b0,k0,d0),(b1,k1,d1),(b2,k2,d2),(b3,k3,d3))=.agg #[.slice b0 k0 d0,.slice b1 k1 d1,.slice b2 k2 d2,.slice b3 k3 d3]:=rfl
 rw [uA] at kA kLA
 rw [uB] at kB kLB
 rw [uA,uB]
 clear uA uB
 have bw:Below w.heap.size w ((w.alloc (.cells #[.slice a0 n0 c0,.slice a1 n1 c1,.slice a2 n2 c2,.slice a3 n3 c3] 33)).alloc (.cells #[.slice b0 k0 d0,.slice b1 k1 d1,.slice b2 k2 d2,.slice b3 k3 d3] 33)):=by go_grown
 have pA:Blk ((w.alloc (.cells #[.slice a0 n0 c0,.slice a1 n1 c1,.slice a2 n2 c2,.slice a3 n3 c3] 33)).alloc (.cells #[.slice b0 k0 d0,.slice b1 k1 d1,.slice b2 k2 d2,.slice b3 k3 d3] 33)) w.heap.size 33 [.slice a0 n0 c0,.slice a1 n1 c1,.slice a2 n2 c2,.slice a3 n3 c3]:=(Blk.new w _ [.slice a0 n0 c0,.slice a1 n1 c1,.slice a2 n2 c2,.slice a3 n3 c3]).below (by go_grown)
 have pB:Blk ((w.alloc (.cells #[.slice a0 n0 c0,.slice a1 n1 c1,.slice a2 n2 c2,.slice a3 n3 c3] 33)).alloc (.cells #[.slice b0 k0 d0,.slice b1 k1 d1,.slice b2 k2 d2,.slice b3 k3 d3] 33)) (w.heap.size+1) 33 [.slice b0 k0 d0,.slice b1 k1 d1,.slice b2 k2 d2,.slice b3 k3 d3]:=by
  have h9:=Blk.new (w.alloc (.cells #[.slice a0 n0 c0,.slice a1 n1 c1,.slice a2 n2 c2,.slice a3 n3 c3] 33)) 33 [.slice b0 k0 d0,.slice b1 k1 d1,.slice b2 k2 d2,.slice b3 k3 d3]
  rwa [World.size_alloc] at h9
 cases hx:shapeOk m
 ·rw [hx] at kA
  go_enter Tryz.func18,Tryz.ntmps18
  go_wp2_with fail
  refine (kA _ (hMA _ bw) (hV.below bw)).mono ?_
  rintro e w1 ⟨rfl,hb⟩
  replace bw:=bel_trans bw hb
  go_wp2
  go_ret
  exact ⟨rfl,bw⟩
 rw [hx] at kA
 cases hy:shapeOk q
 ·rw [hy] at kB
  go_enter Tryz.func18,Tryz.ntmps18
  go_wp2_with fail
  refine (kA _ (hMA _ bw) (hV.below bw)).mono ?_
  rintro e w1 ⟨rfl,hb⟩
  replace bw:=bel_trans bw hb
  replace pB:=pB.below hb
  have g0:=pB.cell 0
  have g1:=pB.cell 1
  have g2:=pB.cell 2
  have g3:=pB.cell 3
  simp at g0 g1 g2 g3
  go_wp2_with fail
  refine (kB _ (hMB _ bw) (hV.below bw)).mono ?_
  rintro e w2 ⟨rfl,hb2⟩
  replace bw:=bel_trans bw hb2
  clear g0 g1 g2 g3
  go_wp2
  go_ret
  exact ⟨rfl,bw⟩
 rw [hy] at kB
 obtain ⟨l0,l1,l2,l3,_⟩:=hpA hx
 obtain ⟨r0,r1,r2,r3,_⟩:=hpB hy
 obtain ⟨m0,m1,m2,m3⟩:=m
 obtain ⟨q0,q1,q2,q3⟩:=q
 simp only at i0 i1 i2 i3 j0 j1 j2 j3 l0 l1 l2 l3 r0 r1 r2 r3
 obtain rfl:n0=3:=i0.1.symm.trans l0
 obtain rfl:n1=4:=i1.1.symm.trans l1
 obtain rfl:n2=2:=i2.1.symm.trans l2
 obtain rfl:n3=6:=i3.1.symm.trans l3
 obtain rfl:k0=3:=j0.1.symm.trans r0
 obtain rfl:k1=4:=j1.1.symm.trans r1
 obtain rfl:k2=2:=j2.1.symm.trans r2
 obtain rfl:k3=6:=j3.1.symm.trans r3
 have z0:=fun (W:World) (hb:Below w.heap.size w W)=>equalI_is a0 b0 3 c0 d0 m0 q0 W (i0.below hb) (j0.below hb) (by decide)
 have z1:=fun (W:World) (hb:Below w.heap.size w W)=>equalI_is a1 b1 4 c1 d1 m1 q1 W (i1.below hb) (j1.below hb) (by decide)
 have z2:=fun (W:World) (hb:Below w.heap.size w W)=>equalI_is a2 b2 2 c2 d2 m2 q2 W (i2.below hb) (j2.below hb) (by decide)
 have z3:=fun (W:World) (hb:Below w.heap.size w W)=>equalI_is a3 b3 6 c3 d3 m3 q3 W (i3.below hb) (j3.below hb) (by decide)
 have hfin:decide ((m0,m1,m2,m3)=(q0,q1,q2,q3))=(decide (m0=q0) && (decide (m1=q1) && (decide (m2=q2) && decide (m3=q3)))):=by
  simp only [Prod.mk.injEq,Bool.decide_and]
 rw [hfin]
 clear hfin i0 i1 i2 i3 j0 j1 j2 j3 l0 l1 l2 l3 r0 r1 r2 r3 hpA hpB
 generalize decide (m0=q0)=x0 at *
 generalize decide (m1=q1)=x1 at *
 generalize decide (m2=q2)=x2 at *
 generalize decide (m3=q3)=x3 at *
 have y0:=idx4_0 (.slice a0 3 c0) (.slice a1 4 c1) (.slice a2 2 c2) (.slice a3 6 c3)
 have y1:=idx4_1 (.slice a0 3 c0) (.slice a1 4 c1) (.slice a2 2 c2) (.slice a3 6 c3)
 have y2:=idx4_2 (.slice a0 3 c0) (.slice a1 4 c1) (.slice a2 2 c2) (.slice a3 6 c3)
 have y3:=idx4_3 (.slice a0 3 c0) (.slice a1 4 c1) (.slice a2 2 c2) (.slice a3 6 c3)
 go_enter Tryz.func18,Tryz.ntmps18
 go_wp2_with fail
 refine (kA _ (hMA _ bw) (hV.below bw)).mono ?_
 rintro e w1 ⟨rfl,hb⟩
 replace bw:=bel_trans bw hb
 replace pA:=pA.below hb
 replace pB:=pB.below hb
 have g0:=pB.cell 0
 have g1:=pB.cell 1
 have g2:=pB.cell 2
 have g3:=pB.cell 3
 simp at g0 g1 g2 g3
 clear hb kA
 go_wp2_with fail
 refine (kB _ (hMB _ bw) (hV.below bw)).mono ?_
 rintro e w2 ⟨rfl,hb⟩
 replace bw:=bel_trans bw hb
 replace pA:=pA.below hb
 replace pB:=pB.below hb
 replace g0:=cells_kept hb _ _ g0
 replace g1:=cells_kept hb _ _ g1
 replace g2:=cells_kept hb _ _ g2
 replace g3:=cells_kept hb _ _ g3
 clear hb kB hMA hMB hV
 go_wp2_with fail
 refine (kLB _).mono ?_
 rintro e w3 ⟨rfl,hb⟩
 replace bw:=bel_trans bw hb
 replace pA:=pA.below hb
 clear hb kLB g0 g1 g2 g3 pB
 have hb4:Below w3.heap.size w3 (w3.alloc (.cells #[.slice b0 3 d0,.slice b1 4 d1,.slice b2 2 d2,.slice b3 6 d3] 100)):=by go_grown
 have pC:=Blk.new w3 100 [.slice b0 3 d0,.slice b1 4 d1,.slice b2 2 d2,.slice b3 6 d3]
 replace bw:=bel_trans bw hb4
 replace pA:=pA.below hb4
 clear hb4
 have g0:=pA.cell 0
 have g1:=pA.cell 1
 have g2:=pA.cell 2
 have g3:=pA.cell 3
 simp at g0 g1 g2 g3
 go_wp2_with fail
 generalize (w3.alloc (.cells #[.slice b0 3 d0,.slice b1 4 d1,.slice b2 2 d2,.slice b3 6 d3] 100))=w4 at *
 generalize w3.heap.size=gC at *
 refine (kLA _).mono ?_
 rintro e w5 ⟨rfl,hb⟩
 replace bw:=bel_trans bw hb
 replace pC:=pC.below hb
 clear hb kLA g0 g1 g2 g3 pA
 have g0:=pC.cell 0
 simp at g0
 go_wp2_with fail
 refine wp_loop_rounds 5 ?_
 rw [rounds_succ]
 go_wp2_with fail
 refine (z0 _ bw).mono ?_
 rintro e w6 ⟨rfl,hb⟩
 replace bw:=bel_trans bw hb
 replace pC:=pC.below hb
 clear hb g0 z0
 cases x0
 ·go_wp2
  go_ret
  exact ⟨rfl,bw⟩
 have g0:=pC.cell 1
 simp at g0
 go_wp2_with fail
 rw [rounds_succ]
 go_wp2_with fail
 refine (z1 _ bw).mono ?_
 rintro e w7 ⟨rfl,hb⟩
 replace bw:=bel_trans bw hb
 replace pC:=pC.below hb
 clear hb g0 z1
 cases x1
 ·go_wp2
  go_ret
  exact ⟨rfl,bw⟩
 have g0:=pC.cell 2
 simp at g0
 go_wp2_with fail
 rw [rounds_succ]
 go_wp2_with fail
 refine (z2 _ bw).mono ?_
 rintro e w8 ⟨rfl,hb⟩
 replace bw:=bel_trans bw hb
 replace pC:=pC.below hb
 clear hb g0 z2
 cases x2
 ·go_wp2
  go_ret
  exact ⟨rfl,bw⟩
 have g0:=pC.cell 3
 simp at g0
 go_wp2_with fail
 rw [rounds_succ]
 go_wp2_with fail
 refine (z3 _ bw).mono ?_
 rintro e w9 ⟨rfl,hb⟩
 replace bw:=bel_trans bw hb
 clear hb g0 z3
 cases x3
 ·go_wp2
  go_ret
  exact ⟨rfl,bw⟩
 go_wp2_with fail
 rw [rounds_succ]
 go_wp2
 go_ret
 exact ⟨rfl,bw⟩
end Go.Proofs.YtifoggpohlegmaaGreatDoor
