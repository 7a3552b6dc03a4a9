/-
  Joined: MarkV, InOK.
-/
import Derived.Test.YtjgffnlmjmibgaaGreatDoorE07

namespace Go.Proofs.YtjgffnlmjmibgaaGreatDoor
set_option maxRecDepth 100000
set_option maxHeartbeats 16000000
open Go.RowKit

theorem Sl.some_or {w:World} {B:Nat} {s:Sl} {zs:List Int} (h:OwnI w B s zs):(s=(none,0,0)∧zs=[])∨∃ g n c,s=(some ⟨g,0,none⟩,n,c):=by
 obtain ⟨a,n,c⟩:=s
 unfold OwnI at h
 simp only at h
 rcases h.2 with ⟨h0,h1⟩ | ⟨g,cap,cur,hv,_⟩
 ·cases h0
  exact .inl ⟨rfl,by simpa using h.1⟩
 ·cases hv
  exact .inr ⟨g,n,c,rfl⟩

theorem markIntS_grown0 (base g n cap:Nat) (k:Int) (xs:List Int) (w:World) (hk0:0≤k) (hk:k≤1000000000) (hn:n≤1048576) (ho:w.ownsRow base 3 1 (.slice (some ⟨g,0,none⟩) n cap) n (xs.map (Value.int .i64))) :
  Calls Tryz.prog 38 #[.slice (some ⟨g,0,none⟩) n cap,.int .i64 k] w fun e w'=>e=.returned (.int .i64 (k+n)) ∧
   w'.ownsRow base 3 1 (.slice (some ⟨g,0,none⟩) n cap) n ((mkTo k xs n).map (Value.int .i64))∧w.grownBy w' (some g):=by
 have hlen:xs.length=n:=by simpa using ho.1
 go_enter Tryz.func38,Tryz.ntmps38
 go_wp2
 go_loopw [1,5] (fun sk si wr=>∃ j:Nat,j≤n∧si=.int .i64 j∧sk=.int .i64 (k+j)∧wr.ownsRow base 3 1 (.slice (some ⟨g,0,none⟩) n cap) n ((mkTo k xs j).map (Value.int .i64))∧w.grownBy wr (some g)) (fun _ si _=>n - (intOf si).toNat)
 case atStart=>exact ⟨0,by omega,rfl,by go_num,by simpa [mkTo] using ho,World.grownBy.refl _ _⟩
 case round =>
  obtain ⟨j,hj,rfl,rfl,hr,hbel⟩:=hrel
  by_cases hlt:j<n
  ·have hf:=hr.frozenAt j
   have hst:=(hr.stored j (.int .i64 (k+j))).1
   rw [← List.map_set,mkTo_set k xs j (by omega)] at hst
   have hold:∃ u,wr.cell? ⟨g,j,none⟩=some u:=by
    have:=hr.cellAt j (by omega)
    rw [this]
    exact ⟨_,List.getElem?_eq_getElem (by simp [mkTo_len];omega)⟩
   obtain ⟨u,hu⟩:=hold
   have hb1:=grownBy_tr hbel (grownBy_set wr g j (.int .i64 (k+j)))
   clear hr ho
   go_wp2
   go_roundw
   case rel=>exact ⟨j+1,by omega,by go_num,by go_num,hst,hb1⟩
   case measure=>simp [intOf];omega
  ·obtain rfl:j=n:=by omega
   go_wp2
   go_ret
   exact ⟨rfl,hr,hbel⟩

theorem markIntS_grown (B:Nat) (s:Sl) (k:Int) (xs:List Int) (w:World) (hk0:0≤k) (hk:k≤1000000000) (hn:s.2.1≤1048576) (ho:OwnI w B s xs) :
  Calls Tryz.prog 38 #[.slice s.1 s.2.1 s.2.2,.int .i64 k] w fun e w'=>e=.returned (.int .i64 (k+s.2.1))∧OwnI w' B s (mkTo k xs s.2.1)∧w.grownBy w' (Value.slice s.1 s.2.1 s.2.2).ownBlock:=by
 rcases Sl.some_or ho with ⟨rfl,rfl⟩ | ⟨g,n,c,rfl⟩
 ·refine (markIntS_none none 0 k w).mono ?_
  rintro e w' ⟨rfl,rfl⟩
  exact ⟨by simp,ho,World.grownBy.refl _ _⟩
 ·exact markIntS_grown0 B g n c k xs w hk0 hk hn ho

def KeptOff (s:S4) (w w':World):Prop:=∀ j,j<w.heap.size→(Value.slice s.1.1 s.1.2.1 s.1.2.2).ownBlock≠some j→(Value.slice s.2.1.1 s.2.1.2.1 s.2.1.2.2).ownBlock≠some j→(Value.slice s.2.2.1.1 s.2.2.1.2.1 s.2.2.1.2.2).ownBlock≠some j→(Value.slice s.2.2.2.1 s.2.2.2.2.1 s.2.2.2.2.2).ownBlock≠some j→w'.heap[j]?=w.heap[j]?

def mkV (k:Int) (m:V4):V4:=
 (mkTo k m.1 m.1.length,mkTo (k+m.1.length) m.2.1 m.2.1.length,mkTo (k+m.1.length+m.2.1.length) m.2.2.1 m.2.2.1.length,mkTo (k+m.1.length+m.2.1.length+m.2.2.1.length) m.2.2.2 m.2.2.2.length)
def cntV (m:V4):Int:=(m.1.length:Int)+m.2.1.length+m.2.2.1.length+m.2.2.2.length

theorem OwnI.len {w:World} {B:Nat} {s:Sl} {zs:List Int} (h:OwnI w B s zs):zs.length=s.2.1:=by
 have:=h.1
 simpa using this
theorem OwnI.kept {w w':World} {B:Nat} {s s':Sl} {zs:List Int} (h:OwnI w B s zs) (hg:w.grownBy w' (Value.slice s'.1 s'.2.1 s'.2.2).ownBlock) (ha:Apart s s'):OwnI w' B s zs:=by
 refine World.ownsRow.kept h hg ?_
 cases hb:(Value.slice s.1 s.2.1 s.2.2).ownBlock with
 | none=>exact .inl rfl
 | some g=>exact .inr fun e=>ha g hb e.symm
theorem Apart.symm {s s':Sl} (h:Apart s s'):Apart s' s:=fun g h1 h2=>h g h2 h1

theorem Hid.mk9 {p:Prop} (h:p):Hid p:=h

theorem markVm_own (B:Nat) (s:S4) (k:Int) (m:V4) (w:World) (hk0:0≤k) (hk:k≤100000000) (h:OwnV w B s m) (hB:B≤w.heap.size)
  (l0:m.1.length≤1048576) (l1:m.2.1.length≤1048576) (l2:m.2.2.1.length≤1048576) (l3:m.2.2.2.length≤1048576) :
  Calls Tryz.prog 39 #[s.val,.int .i64 k] w fun e w'=>e=.returned (.int .i64 (k+cntV m))∧OwnV w' B s (mkV k m)∧KeptOff s w w'∧Below B w w':=by
 obtain ⟨⟨o0,o1,o2,o3⟩,a01,a02,a03,a12,a13,a23⟩:=h
 have e0:=o0.len
 have e1:=o1.len
 have e2:=o2.len
 have e3:=o3.len
 unfold cntV mkV
 obtain ⟨m0,m1,m2,m3⟩:=m
 have HK:Hid (∀ w1 w2 w3 w4 w5:World,Below w.heap.size w w1→w1.grownBy w2 (Value.slice s.1.1 s.1.2.1 s.1.2.2).ownBlock→w2.grownBy w3 (Value.slice s.2.1.1 s.2.1.2.1 s.2.1.2.2).ownBlock→w3.grownBy w4 (Value.slice s.2.2.1.1 s.2.2.1.2.1 s.2.2.1.2.2).ownBlock→w4.grownBy w5 (Value.slice s.2.2.2.1 s.2.2.2.2.1 s.2.2.2.2.2).ownBlock→KeptOff s w w5∧Below B w w5):=by
  intro w1 w2 w3 w4 w5 hb g1 g2 g3 g4
  have z1:=hb.size
  have z2:=g1.size
  have z3:=g2.size
  have z4:=g3.size
  refine ⟨fun j hj n0 n1 n2 n3=>?_,?_⟩
  ·rw [g4.block j (by omega) (Ne.symm n3),g3.block j (by omega) (Ne.symm n2),g2.block j (by omega) (Ne.symm n1),g1.block j (by omega) (Ne.symm n0),hb.block j hj]
  ·have b1:Below B w w1:=hb.mono hB
   have b2:=b1.grown g1 (by omega) (fun x hx=>(o0.lt x hx).1)
   have b3:=b2.grown g2 (by omega) (fun x hx=>(o1.lt x hx).1)
   have b4:=b3.grown g3 (by omega) (fun x hx=>(o2.lt x hx).1)
   exact b4.grown g4 (by omega) (fun x hx=>(o3.lt x hx).1)
 obtain ⟨⟨b0,n0,c0⟩,⟨b1,n1,c1⟩,⟨b2,n2,c2⟩,⟨b3,n3,c3⟩⟩:=s
 unfold S4.val
 simp only at e0 e1 e2 e3 l0 l1 l2 l3 o0 o1 o2 o3 HK a01 a02 a03 a12 a13 a23 ⊢
 subst e0 e1 e2 e3
 have bw:Below w.heap.size w (w.alloc (.cells #[.slice b0 m0.length c0,.slice b1 m1.length c1,.slice b2 m2.length c2,.slice b3 m3.length c3] 33)):=by go_grown
 have pP:=box4 w (.slice b0 m0.length c0) (.slice b1 m1.length c1) (.slice b2 m2.length c2) (.slice b3 m3.length c3) 33 w.heap.size (Nat.le_refl _)
 replace o0:=o0.below bw
 replace o1:=o1.below bw
 replace o2:=o2.below bw
 replace o3:=o3.below bw
 have H1:=fun w2 w3 w4 w5=>HK.out _ w2 w3 w4 w5 bw
 replace H1:=Hid.mk9 H1
 clear HK bw
 go_enter Tryz.func39,Tryz.ntmps39
 go_wp2_with fail
 generalize (w.alloc (.cells #[.slice b0 m0.length c0,.slice b1 m1.length c1,.slice b2 m2.length c2,.slice b3 m3.length c3] 33))=W0 at *
 generalize w.heap.size=g at pP ⊢
 refine (markIntS_grown B (b0,m0.length,c0) k m0 _ hk0 (by omega) l0 o0).mono ?_
 rintro e w1 ⟨rfl,r0,g1⟩
 replace pP:=pP.kept g1 (owns_ne pP o0 (by decide))
 replace o1:=o1.kept (s':=(b0,m0.length,c0)) g1 a01.symm
 replace o2:=o2.kept (s':=(b0,m0.length,c0)) g1 a02.symm
 replace o3:=o3.kept (s':=(b0,m0.length,c0)) g1 a03.symm
 have y1:w1.cell? ⟨g,1,none⟩=some (.slice b1 m1.length c1):=by simpa using pP.cellAt 1 (by simp)
 simp only
 go_wp2_with fail
 refine (markIntS_grown B (b1,m1.length,c1) (k+m0.length) m1 _ (by omega) (by omega) l1 o1).mono ?_
 rintro e w2 ⟨rfl,r1,g2⟩
 replace pP:=pP.kept g2 (owns_ne pP o1 (by decide))
 replace r0:=OwnI.kept r0 (s':=(b1,m1.length,c1)) g2 a01
 replace o2:=o2.kept (s':=(b1,m1.length,c1)) g2 a12.symm
 replace o3:=o3.kept (s':=(b1,m1.length,c1)) g2 a13.symm
 have y2:w2.cell? ⟨g,2,none⟩=some (.slice b2 m2.length c2):=by simpa using pP.cellAt 2 (by simp)
 simp only
 clear y1
 go_wp2_with fail
 refine (markIntS_grown B (b2,m2.length,c2) (k+m0.length+m1.length) m2 _ (by omega) (by omega) l2 o2).mono ?_
 rintro e w3 ⟨rfl,r2,g3⟩
 replace pP:=pP.kept g3 (owns_ne pP o2 (by decide))
 replace r0:=OwnI.kept r0 (s':=(b2,m2.length,c2)) g3 a02
 replace r1:=OwnI.kept r1 (s':=(b2,m2.length,c2)) g3 a12
 replace o3:=o3.kept (s':=(b2,m2.length,c2)) g3 a23.symm
 have y3:w3.cell? ⟨g,3,none⟩=some (.slice b3 m3.length c3):=by simpa using pP.cellAt 3 (by simp)
 simp only
 clear y2
 go_wp2_with fail
 refine (markIntS_grown B (b3,m3.length,c3) (k+m0.length+m1.length+m2.length) m3 _ (by omega) (by omega) l3 o3).mono ?_
 rintro e w4 ⟨rfl,r3,g4⟩
 replace r0:=OwnI.kept r0 (s':=(b3,m3.length,c3)) g4 a03
 replace r1:=OwnI.kept r1 (s':=(b3,m3.length,c3)) g4 a13
 replace r2:=OwnI.kept r2 (s':=(b3,m3.length,c3)) g4 a23
 obtain ⟨z1,z2⟩:=H1.out w1 w2 w3 w4 g1 g2 g3 g4
 simp only
 clear y3 H1 g1 g2 g3 g4 pP
 have hfin:k+(m0.length:Int)+m1.length+m2.length+m3.length=k+((m0.length:Int)+m1.length+m2.length+m3.length):=by omega
 rw [hfin]
 clear hfin
 go_wp2
 go_ret
 exact ⟨rfl,⟨⟨r0,r1,r2,r3⟩,a01,a02,a03,a12,a13,a23⟩,z1,z2⟩

def Marked (k:Int) (m:V4):Prop:=(∀ i,i<m.1.length→m.1.getD i 0=k+i)∧(∀ i,i<m.2.1.length→m.2.1.getD i 0=k+m.1.length+i)∧(∀ i,i<m.2.2.1.length→m.2.2.1.getD i 0=k+m.1.length+m.2.1.length+i)∧∀ i,i<m.2.2.2.length→m.2.2.2.getD i 0=k+m.1.length+m.2.1.length+m.2.2.1.length+i
theorem marked_mkV (k:Int) (m:V4):Marked k (mkV k m):=by
 unfold Marked mkV
 simp only [mkTo_len]
 exact ⟨fun i hi=>mkTo_get _ _ _ i hi (Nat.le_refl _),fun i hi=>mkTo_get _ _ _ i hi (Nat.le_refl _),fun i hi=>mkTo_get _ _ _ i hi (Nat.le_refl _),fun i hi=>mkTo_get _ _ _ i hi (Nat.le_refl _)⟩
theorem cnt_mkV (k:Int) (m:V4):cntV (mkV k m)=cntV m:=by
 unfold cntV mkV
 simp only [mkTo_len]

theorem heldVm_yes (s:S4) (k:Int) (m:V4) (w:World) (hk0:0≤k) (hk:k≤100000000)
  (i0:Ints .i64 w s.1.1 s.1.2.1 s.1.2.2 m.1) (i1:Ints .i64 w s.2.1.1 s.2.1.2.1 s.2.1.2.2 m.2.1) (i2:Ints .i64 w s.2.2.1.1 s.2.2.1.2.1 s.2.2.1.2.2 m.2.2.1) (i3:Ints .i64 w s.2.2.2.1 s.2.2.2.2.1 s.2.2.2.2.2 m.2.2.2)
  (hM:Marked k m) (l0:m.1.length≤1048576) (l1:m.2.1.length≤1048576) (l2:m.2.2.1.length≤1048576) (l3:m.2.2.2.length≤1048576) :
  Calls Tryz.prog 41 #[s.val,.int .i64 k] w fun e w'=>e=.returned (.int .i64 (k+cntV m))∧Below w.heap.size w w':=by
 obtain ⟨M0,M1,M2,M3⟩:=hM
 have e0:=i0.1
 have e1:=i1.1
 have e2:=i2.1
 have e3:=i3.1
 unfold cntV
 obtain ⟨m0,m1,m2,m3⟩:=m
 obtain ⟨⟨b0,n0,c0⟩,⟨b1,n1,c1⟩,⟨b2,n2,c2⟩,⟨b3,n3,c3⟩⟩:=s
 unfold S4.val
 simp only at e0 e1 e2 e3 l0 l1 l2 l3 i0 i1 i2 i3 M0 M1 M2 M3 ⊢
 subst e0 e1 e2 e3
 have bw:Below w.heap.size w (w.alloc (.cells #[.slice b0 m0.length c0,.slice b1 m1.length c1,.slice b2 m2.length c2,.slice b3 m3.length c3] 33)):=by go_grown
 have pP:=box4 w (.slice b0 m0.length c0) (.slice b1 m1.length c1) (.slice b2 m2.length c2) (.slice b3 m3.length c3) 33 w.heap.size (Nat.le_refl _)
 have k0:=heldIntS_yes b0 m0.length c0 k m0 _ hk0 (by omega) l0 (i0.below bw) M0
 have k1:=heldIntS_yes b1 m1.length c1 (k+m0.length) m1 _ (by omega) (by omega) l1 (i1.below bw) M1
 have k2:=heldIntS_yes b2 m2.length c2 (k+m0.length+m1.length) m2 _ (by omega) (by omega) l2 (i2.below bw) M2
 have k3:=heldIntS_yes b3 m3.length c3 (k+m0.length+m1.length+m2.length) m3 _ (by omega) (by omega) l3 (i3.below bw) M3
 clear i0 i1 i2 i3 M0 M1 M2 M3
 go_enter Tryz.func41,Tryz.ntmps41
 go_wp2_with fail
 refine k0.mono ?_
 rintro e w1 ⟨rfl,rfl⟩
 go_wp2_with fail
 refine k1.mono ?_
 rintro e w1 ⟨rfl,rfl⟩
 go_wp2_with fail
 refine k2.mono ?_
 rintro e w1 ⟨rfl,rfl⟩
 go_wp2_with fail
 refine k3.mono ?_
 rintro e w1 ⟨rfl,rfl⟩
 have hfin:k+(m0.length:Int)+m1.length+m2.length+m3.length=k+((m0.length:Int)+m1.length+m2.length+m3.length):=by omega
 rw [hfin]
 have hq:¬ (k+((m0.length:Int)+m1.length+m2.length+m3.length))<0:=by omega
 clear hfin k0 k1 k2 k3
 go_wp2
 go_ret
 exact ⟨rfl,bw⟩


theorem l01In_yes (n a b:Int) (w:World) (h:a≤n∧n≤b):Calls Tryz.prog 117 #[.int .i64 n,.int .i64 a,.int .i64 b] w fun e w'=>e=.returned (.bool true)∧w=w':=by
 obtain ⟨h1,h2⟩:=h
 go_enter Tryz.func117,Tryz.ntmps117
 go_wp2
 go_ret
 exact ⟨rfl,rfl⟩
theorem l01In_no (n a b:Int) (w:World) (h:¬ (a≤n∧n≤b)):Calls Tryz.prog 117 #[.int .i64 n,.int .i64 a,.int .i64 b] w fun e w'=>e=.returned (.bool false)∧w=w':=by
 by_cases h1:a≤n
 ·have h2:decide (n≤b)=false:=by simp;omega
  clear h
  go_enter Tryz.func117,Tryz.ntmps117
  go_wp2
  go_ret
  exact ⟨rfl,rfl⟩
 ·clear h
  go_enter Tryz.func117,Tryz.ntmps117
  go_wp2
  go_ret
  exact ⟨rfl,rfl⟩

end Go.Proofs.YtjgffnlmjmibgaaGreatDoor
