/-
  Joined: MarkV, MarkW.
-/
import Derived.Laws.CopyOwn
import Derived.Laws.Tables
import Derived.Test.YtfpopbbmnbehiaaGreatDoorC13
import Derived.Test.YtfpopbbmnbehiaaGreatDoorC19

namespace Go.Proofs.YtfpopbbmnbehiaaGreatDoor
set_option maxRecDepth 100000
set_option maxHeartbeats 16000000
open Go.RowKit

theorem Sl.some_or {w:World} {B:Nat} {s:Sl} {zs:List Int} (h:OwnI w B s zs):(s=(none,0,0)∧zs=[])∨∃ g n c,s=(some ⟨g,0,none⟩,n,c):=by
 obtain ⟨a,n,c⟩:=s
 unfold OwnI at h
 simp only at h
 rcases h.2 with ⟨h0,h1⟩ | ⟨g,cap,cur,hv,_⟩
 ·cases h0
  exact .inl ⟨rfl,by simpa using h.1⟩
 ·cases hv
  exact .inr ⟨g,n,c,rfl⟩

theorem markIntS_grown0 (base g n cap:Nat) (k:Int) (xs:List Int) (w:World) (hk0:0≤k) (hk:k≤1000000000) (hn:n≤1048576) (ho:w.ownsRow base 3 1 (.slice (some ⟨g,0,none⟩) n cap) n (xs.map (Value.int .i64))) :
  Calls Tryz.prog 47 #[.slice (some ⟨g,0,none⟩) n cap,.int .i64 k] w fun e w'=>e=.returned (.int .i64 (k+n)) ∧
   w'.ownsRow base 3 1 (.slice (some ⟨g,0,none⟩) n cap) n ((mkTo k xs n).map (Value.int .i64))∧w.grownBy w' (some g):=by
 have hlen:xs.length=n:=by simpa using ho.1
 go_enter Tryz.func47,Tryz.ntmps47
 go_wp2
 go_loopw [1,5] (fun sk si wr=>∃ j:Nat,j≤n∧si=.int .i64 j∧sk=.int .i64 (k+j)∧wr.ownsRow base 3 1 (.slice (some ⟨g,0,none⟩) n cap) n ((mkTo k xs j).map (Value.int .i64))∧w.grownBy wr (some g)) (fun _ si _=>n - (intOf si).toNat)
 case atStart=>exact ⟨0,by omega,rfl,by go_num,by simpa [mkTo] using ho,World.grownBy.refl _ _⟩
 case round =>
  obtain ⟨j,hj,rfl,rfl,hr,hbel⟩:=hrel
  by_cases hlt:j<n
  ·have hf:=hr.frozenAt j
   have hst:=(hr.stored j (.int .i64 (k+j))).1
   rw [← List.map_set,mkTo_set k xs j (by omega)] at hst
   have hold:∃ u,wr.cell? ⟨g,j,none⟩=some u:=by
    have:=hr.cellAt j (by omega)
    rw [this]
    exact ⟨_,List.getElem?_eq_getElem (by simp [mkTo_len];omega)⟩
   obtain ⟨u,hu⟩:=hold
   have hb1:=grownBy_tr hbel (grownBy_set wr g j (.int .i64 (k+j)))
   clear hr ho
   go_wp2
   go_roundw
   case rel=>exact ⟨j+1,by omega,by go_num,by go_num,hst,hb1⟩
   case measure=>simp [intOf];omega
  ·obtain rfl:j=n:=by omega
   go_wp2
   go_ret
   exact ⟨rfl,hr,hbel⟩

theorem markIntS_grown (B:Nat) (s:Sl) (k:Int) (xs:List Int) (w:World) (hk0:0≤k) (hk:k≤1000000000) (hn:s.2.1≤1048576) (ho:OwnI w B s xs) :
  Calls Tryz.prog 47 #[.slice s.1 s.2.1 s.2.2,.int .i64 k] w fun e w'=>e=.returned (.int .i64 (k+s.2.1))∧OwnI w' B s (mkTo k xs s.2.1)∧w.grownBy w' (Value.slice s.1 s.2.1 s.2.2).ownBlock:=by
 rcases Sl.some_or ho with ⟨rfl,rfl⟩ | ⟨g,n,c,rfl⟩
 ·refine (markIntS_none none 0 k w).mono ?_
  rintro e w' ⟨rfl,rfl⟩
  exact ⟨by simp,ho,World.grownBy.refl _ _⟩
 ·exact markIntS_grown0 B g n c k xs w hk0 hk hn ho

def KeptOff (s:S4) (w w':World):Prop:=∀ j,j<w.heap.size→(Value.slice s.1.1 s.1.2.1 s.1.2.2).ownBlock≠some j→(Value.slice s.2.1.1 s.2.1.2.1 s.2.1.2.2).ownBlock≠some j→(Value.slice s.2.2.1.1 s.2.2.1.2.1 s.2.2.1.2.2).ownBlock≠some j→(Value.slice s.2.2.2.1 s.2.2.2.2.1 s.2.2.2.2.2).ownBlock≠some j→w'.heap[j]?=w.heap[j]?

def mkV (k:Int) (m:V4):V4:=
 (mkTo k m.1 m.1.length,mkTo (k+m.1.length) m.2.1 m.2.1.length,mkTo (k+m.1.length+m.2.1.length) m.2.2.1 m.2.2.1.length,mkTo (k+m.1.length+m.2.1.length+m.2.2.1.length) m.2.2.2 m.2.2.2.length)
def cntV (m:V4):Int:=(m.1.length:Int)+m.2.1.length+m.2.2.1.length+m.2.2.2.length

theorem OwnI.len {w:World} {B:Nat} {s:Sl} {zs:List Int} (h:OwnI w B s zs):zs.length=s.2.1:=by
 have:=h.1
 simpa using this
theorem OwnI.kept {w w':World} {B:Nat} {s s':Sl} {zs:List Int} (h:OwnI w B s zs) (hg:w.grownBy w' (Value.slice s'.1 s'.2.1 s'.2.2).ownBlock) (ha:Apart s s'):OwnI w' B s zs:=by
 refine World.ownsRow.kept h hg ?_
 cases hb:(Value.slice s.1 s.2.1 s.2.2).ownBlock with
 | none=>exact .inl rfl
 | some g=>exact .inr fun e=>ha g hb e.symm
theorem Apart.symm {s s':Sl} (h:Apart s s'):Apart s' s:=fun g h1 h2=>h g h2 h1

theorem Hid.mk9 {p:Prop} (h:p):Hid p:=h

theorem markVm_own (B:Nat) (s:S4) (k:Int) (m:V4) (w:World) (hk0:0≤k) (hk:k≤100000000) (h:OwnV w B s m) (hB:B≤w.heap.size)
  (l0:m.1.length≤1048576) (l1:m.2.1.length≤1048576) (l2:m.2.2.1.length≤1048576) (l3:m.2.2.2.length≤1048576) :
  Calls Tryz.prog 46 #[s.val,.int .i64 k] w fun e w'=>e=.returned (.int .i64 (k+cntV m))∧OwnV w' B s (mkV k m)∧KeptOff s w w'∧Below B w w':=by
 obtain ⟨⟨o0,o1,o2,o3⟩,a01,a02,a03,a12,a13,a23⟩:=h
 have e0:=o0.len
 have e1:=o1.len
 have e2:=o2.len
 have e3:=o3.len
 unfold cntV mkV
 obtain ⟨m0,m1,m2,m3⟩:=m
 have HK:Hid (∀ w1 w2 w3 w4 w5:World,Below w.heap.size w w1→w1.grownBy w2 (Value.slice s.1.1 s.1.2.1 s.1.2.2).ownBlock→w2.grownBy w3 (Value.slice s.2.1.1 s.2.1.2.1 s.2.1.2.2).ownBlock→w3.grownBy w4 (Value.slice s.2.2.1.1 s.2.2.1.2.1 s.2.2.1.2.2).ownBlock→w4.grownBy w5 (Value.slice s.2.2.2.1 s.2.2.2.2.1 s.2.2.2.2.2).ownBlock→KeptOff s w w5∧Below B w w5):=by
  intro w1 w2 w3 w4 w5 hb g1 g2 g3 g4
  have z1:=hb.size
  have z2:=g1.size
  have z3:=g2.size
  have z4:=g3.size
  refine ⟨fun j hj n0 n1 n2 n3=>?_,?_⟩
  ·rw [g4.block j (by omega) (Ne.symm n3),g3.block j (by omega) (Ne.symm n2),g2.block j (by omega) (Ne.symm n1),g1.block j (by omega) (Ne.symm n0),hb.block j hj]
  ·have b1:Below B w w1:=hb.mono hB
   have b2:=b1.grown g1 (by omega) (fun x hx=>(o0.lt x hx).1)
   have b3:=b2.grown g2 (by omega) (fun x hx=>(o1.lt x hx).1)
   have b4:=b3.grown g3 (by omega) (fun x hx=>(o2.lt x hx).1)
   exact b4.grown g4 (by omega) (fun x hx=>(o3.lt x hx).1)
 obtain ⟨⟨b0,n0,c0⟩,⟨b1,n1,c1⟩,⟨b2,n2,c2⟩,⟨b3,n3,c3⟩⟩:=s
 unfold S4.val
 simp only at e0 e1 e2 e3 l0 l1 l2 l3 o0 o1 o2 o3 HK a01 a02 a03 a12 a13 a23 ⊢
 subst e0 e1 e2 e3
 have bw:Below w.heap.size w (w.alloc (.cells #[.slice b0 m0.length c0,.slice b1 m1.length c1,.slice b2 m2.length c2,.slice b3 m3.length c3] 33)):=by go_grown
 have pP:=box4 w (.slice b0 m0.length c0) (.slice b1 m1.length c1) (.slice b2 m2.length c2) (.slice b3 m3.length c3) 33 w.heap.size (Nat.le_refl _)
 replace o0:=o0.below bw
 replace o1:=o1.below bw
 replace o2:=o2.below bw
 replace o3:=o3.below bw
 have H1:=fun w2 w3 w4 w5=>HK.out _ w2 w3 w4 w5 bw
 replace H1:=Hid.mk9 H1
 clear HK bw
 go_enter Tryz.func46,Tryz.ntmps46
 go_wp2_with fail
 generalize (w.alloc (.cells #[.slice b0 m0.length c0,.slice b1 m1.length c1,.slice b2 m2.length c2,.slice b3 m3.length c3] 33))=W0 at *
 generalize w.heap.size=g at pP ⊢
 refine (markIntS_grown B (b0,m0.length,c0) k m0 _ hk0 (by omega) l0 o0).mono ?_
 rintro e w1 ⟨rfl,r0,g1⟩
 replace pP:=pP.kept g1 (owns_ne pP o0 (by decide))
 replace o1:=o1.kept (s':=(b0,m0.length,c0)) g1 a01.symm
 replace o2:=o2.kept (s':=(b0,m0.length,c0)) g1 a02.symm
 replace o3:=o3.kept (s':=(b0,m0.length,c0)) g1 a03.symm
 have y1:w1.cell? ⟨g,1,none⟩=some (.slice b1 m1.length c1):=by simpa using pP.cellAt 1 (by simp)
 simp only
 go_wp2_with fail
 refine (markIntS_grown B (b1,m1.length,c1) (k+m0.length) m1 _ (by omega) (by omega) l1 o1).mono ?_
 rintro e w2 ⟨rfl,r1,g2⟩
 replace pP:=pP.kept g2 (owns_ne pP o1 (by decide))
 replace r0:=OwnI.kept r0 (s':=(b1,m1.length,c1)) g2 a01
 replace o2:=o2.kept (s':=(b1,m1.length,c1)) g2 a12.symm
 replace o3:=o3.kept (s':=(b1,m1.length,c1)) g2 a13.symm
 have y2:w2.cell? ⟨g,2,none⟩=some (.slice b2 m2.length c2):=by simpa using pP.cellAt 2 (by simp)
 simp only
 clear y1
 go_wp2_with fail
 refine (markIntS_grown B (b2,m2.length,c2) (k+m0.length+m1.length) m2 _ (by omega) (by omega) l2 o2).mono ?_
 rintro e w3 ⟨rfl,r2,g3⟩
 replace pP:=pP.kept g3 (owns_ne pP o2 (by decide))
 replace r0:=OwnI.kept r0 (s':=(b2,m2.length,c2)) g3 a02
 replace r1:=OwnI.kept r1 (s':=(b2,m2.length,c2)) g3 a12
 replace o3:=o3.kept (s':=(b2,m2.length,c2)) g3 a23.symm
 have y3:w3.cell? ⟨g,3,none⟩=some (.slice b3 m3.length c3):=by simpa using pP.cellAt 3 (by simp)
 simp only
 clear y2
 go_wp2_with fail
 refine (markIntS_grown B (b3,m3.length,c3) (k+m0.length+m1.length+m2.length) m3 _ (by omega) (by omega) l3 o3).mono ?_
 rintro e w4 ⟨rfl,r3,g4⟩
 replace r0:=OwnI.kept r0 (s':=(b3,m3.length,c3)) g4 a03
 replace r1:=OwnI.kept r1 (s':=(b3,m3.length,c3)) g4 a13
 replace r2:=OwnI.kept r2 (s':=(b3,m3.length,c3)) g4 a23
 obtain ⟨z1,z2⟩:=H1.out w1 w2 w3 w4 g1 g2 g3 g4
 simp only
 clear y3 H1 g1 g2 g3 g4 pP
 have hfin:k+(m0.length:Int)+m1.length+m2.length+m3.length=k+((m0.length:Int)+m1.length+m2.length+m3.length):=by omega
 rw [hfin]
 clear hfin
 go_wp2
 go_ret
 exact ⟨rfl,⟨⟨r0,r1,r2,r3⟩,a01,a02,a03,a12,a13,a23⟩,z1,z2⟩


theorem OwnProg.codes9 {w:World} {B:Nat} {a:Option Addr} {len cap:Nat} {rows:List (List I3)} (h:OwnProg w B (.slice a len cap) rows) {w0:World} {a0:Option Addr} {len0 cap0:Nat} (h0:Codes w0 a0 len0 cap0 rows):Codes w a len cap rows:=by
 refine h.codes fun r hr x hx=>?_
 obtain ⟨hl,_,_,hc⟩:=h0
 obtain ⟨t,ht,rfl⟩:=List.getElem_of_mem hr
 rcases hc with hc | ⟨b,off,_,_,hc⟩
 ·omega
 ·obtain ⟨_,_,_,_,hI⟩:=hc t (by omega)
  have e:rows.getD t []=rows[t]:=by simp [List.getD,ht]
  rw [e] at hI
  exact hI.2.2.2.1 x hx
theorem OwnI.lower9 {w:World} {B B':Nat} {s:Sl} {zs:List Int} (h:OwnI w B s zs) (hB:B'≤B):OwnI w B' s zs:=own_lower h hB
theorem OwnV.lower9 {w:World} {B B':Nat} {s:S4} {m:V4} (h:OwnV w B s m) (hB:B'≤B):OwnV w B' s m:=⟨⟨h.1.1.lower9 hB,h.1.2.1.lower9 hB,h.1.2.2.1.lower9 hB,h.1.2.2.2.lower9 hB⟩,h.2⟩
def Blocks (s:S4) (n:Nat):Prop:=(∀ g,(Value.slice s.1.1 s.1.2.1 s.1.2.2).ownBlock=some g→g<n)∧(∀ g,(Value.slice s.2.1.1 s.2.1.2.1 s.2.1.2.2).ownBlock=some g→g<n)∧(∀ g,(Value.slice s.2.2.1.1 s.2.2.1.2.1 s.2.2.1.2.2).ownBlock=some g→g<n)∧∀ g,(Value.slice s.2.2.2.1 s.2.2.2.2.1 s.2.2.2.2.2).ownBlock=some g→g<n
theorem OwnV.blocks {w:World} {B:Nat} {s:S4} {m:V4} (h:OwnV w B s m):Blocks s w.heap.size:=⟨fun g hg=>(h.1.1.lt g hg).2,fun g hg=>(h.1.2.1.lt g hg).2,fun g hg=>(h.1.2.2.1.lt g hg).2,fun g hg=>(h.1.2.2.2.lt g hg).2⟩
theorem Blocks.lt9 {s:S4} {n k:Nat} (h:Blocks s n) (hn:n≤k):Blocks s k:=⟨fun g hg=>Nat.lt_of_lt_of_le (h.1 g hg) hn,fun g hg=>Nat.lt_of_lt_of_le (h.2.1 g hg) hn,fun g hg=>Nat.lt_of_lt_of_le (h.2.2.1 g hg) hn,fun g hg=>Nat.lt_of_lt_of_le (h.2.2.2 g hg) hn⟩
theorem OwnI.but9 {t:Nat} {w w':World} {B:Nat} {s:Sl} {zs:List Int} (h:OwnI w B s zs) (hK:KeptBut t w w') (ht:3≠t):OwnI w' B s zs:=hK.owns h ht
theorem OwnV.but9 {t:Nat} {w w':World} {B:Nat} {s:S4} {m:V4} (h:OwnV w B s m) (hK:KeptBut t w w') (ht:3≠t):OwnV w' B s m:=⟨⟨h.1.1.but9 hK ht,h.1.2.1.but9 hK ht,h.1.2.2.1.but9 hK ht,h.1.2.2.2.but9 hK ht⟩,h.2⟩
theorem KeptBut.blk9 {t:Nat} {w w':World} {g e:Nat} {cs:List Value} (hK:KeptBut t w w') (h:Blk w g e cs) (he:e≠t):Blk w' g e cs:=hK g _ e _ h he
theorem OwnI.off9 {w w':World} {B n:Nat} {s:S4} {r:Sl} {zs:List Int} (h:OwnI w B r zs) (hK:KeptOff s w w') (hs:Blocks s n) (hn:n≤B):OwnI w' B r zs:=by
 refine ⟨h.1,?_⟩
 rcases h.2 with h0 | ⟨g,cap,cur,hv,hg,hh,rest⟩
 ·exact .inl h0
 ·refine .inr ⟨g,cap,cur,hv,hg,?_,rest⟩
  rw [hK g (Array.getElem?_eq_some_iff.1 hh).1 (fun e=>by have:=hs.1 g e;omega) (fun e=>by have:=hs.2.1 g e;omega) (fun e=>by have:=hs.2.2.1 g e;omega) (fun e=>by have:=hs.2.2.2 g e;omega)]
  exact hh
theorem OwnV.off9 {w w':World} {B n:Nat} {s:S4} {r:S4} {m:V4} (h:OwnV w B r m) (hK:KeptOff s w w') (hs:Blocks s n) (hn:n≤B):OwnV w' B r m:=⟨⟨h.1.1.off9 hK hs hn,h.1.2.1.off9 hK hs hn,h.1.2.2.1.off9 hK hs hn,h.1.2.2.2.off9 hK hs hn⟩,h.2⟩
theorem own_ne_blk9 {w:World} {B e s n g t:Nat} {v:Value} {xs cs:List Value} (h:w.ownsRow B e s v n xs) (hB:Blk w g t cs) (he:e≠t):v.ownBlock≠some g:=by
 rcases h.2 with ⟨rfl,_⟩ | ⟨g',cap,cur,rfl,_,hg,_⟩
 ·simp [Value.ownBlock]
 ·simp only [Value.ownBlock,ne_eq,Option.some.injEq]
  rintro rfl
  unfold Blk at hB
  rw [hg] at hB
  simp at hB
  exact he hB.2
theorem Blk.off9 {w w':World} {B g e:Nat} {s:S4} {m:V4} {cs:List Value} (h:Blk w g e cs) (hK:KeptOff s w w') (hX:OwnV w B s m) (he:3≠e):Blk w' g e cs:=
 (hK g h.lt (own_ne_blk9 hX.1.1 h he) (own_ne_blk9 hX.1.2.1 h he) (own_ne_blk9 hX.1.2.2.1 h he) (own_ne_blk9 hX.1.2.2.2 h he)).trans h
end Go.Proofs.YtfpopbbmnbehiaaGreatDoor
