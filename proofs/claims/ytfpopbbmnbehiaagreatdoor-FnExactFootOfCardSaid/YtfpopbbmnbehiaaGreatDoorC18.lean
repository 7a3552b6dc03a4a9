/-
  Joined: Vm2, Vm3.
-/
import Derived.Test.YtfpopbbmnbehiaaGreatDoorC05
import Derived.Test.YtfpopbbmnbehiaaGreatDoorC12

namespace Go.Proofs.YtfpopbbmnbehiaaGreatDoor
set_option maxRecDepth 100000
set_option maxHeartbeats 16000000
open Go.RowKit

def OwnI (w:World) (B:Nat) (s:Sl) (zs:List Int):Prop:=w.ownsRow B 3 1 (.slice s.1 s.2.1 s.2.2) s.2.1 (zs.map (Value.int .i64))
def Apart (s s':Sl):Prop:=∀ g,(Value.slice s.1 s.2.1 s.2.2).ownBlock=some g→(Value.slice s'.1 s'.2.1 s'.2.2).ownBlock≠some g
def OwnV (w:World) (B:Nat) (s:S4) (m:V4):Prop:=
 (OwnI w B s.1 m.1∧OwnI w B s.2.1 m.2.1∧OwnI w B s.2.2.1 m.2.2.1∧OwnI w B s.2.2.2 m.2.2.2) ∧
 Apart s.1 s.2.1∧Apart s.1 s.2.2.1∧Apart s.1 s.2.2.2∧Apart s.2.1 s.2.2.1∧Apart s.2.1 s.2.2.2∧Apart s.2.2.1 s.2.2.2
def V4.fits (m:V4):Prop:=(∀ z ∈ m.1,(Lit.int .i64 z).wf=true)∧(∀ z ∈ m.2.1,(Lit.int .i64 z).wf=true)∧(∀ z ∈ m.2.2.1,(Lit.int .i64 z).wf=true)∧∀ z ∈ m.2.2.2,(Lit.int .i64 z).wf=true
theorem Vmem.fits {w:World} {s:S4} {m:V4} (h:Vmem w s m):V4.fits m:=⟨h.1.2,h.2.1.2,h.2.2.1.2,h.2.2.2.2⟩

theorem OwnI.ints {w:World} {B:Nat} {s:Sl} {zs:List Int} (h:OwnI w B s zs):Ints .i64 w s.1 s.2.1 s.2.2 zs:=by
 obtain ⟨a,n,c⟩:=s
 unfold OwnI at h
 simp only at h ⊢
 rcases h.2 with ⟨h0,h1⟩ | ⟨g,cap,cur,hv,_⟩
 ·cases h0
  have hl:zs.length=0:=by simpa using h.1
  exact ⟨hl,Nat.le_refl _,Nat.zero_le _,.inl rfl⟩
 ·cases hv
  exact Ints.of_owns h
theorem OwnI.below {w w':World} {B:Nat} {s:Sl} {zs:List Int} (h:OwnI w B s zs) (hb:Below w.heap.size w w'):OwnI w' B s zs:=owns_below h hb
theorem OwnV.below {w w':World} {B:Nat} {s:S4} {m:V4} (h:OwnV w B s m) (hb:Below w.heap.size w w'):OwnV w' B s m:=⟨⟨h.1.1.below hb,h.1.2.1.below hb,h.1.2.2.1.below hb,h.1.2.2.2.below hb⟩,h.2⟩
theorem OwnV.mem {w:World} {B:Nat} {s:S4} {m:V4} (h:OwnV w B s m) (hf:V4.fits m):Vmem w s m:=⟨⟨h.1.1.ints,hf.1⟩,⟨h.1.2.1.ints,hf.2.1⟩,⟨h.1.2.2.1.ints,hf.2.2.1⟩,⟨h.1.2.2.2.ints,hf.2.2.2⟩⟩
theorem own_lower {w:World} {B B' e s n:Nat} {v:Value} {cs:List Value} (h:w.ownsRow B e s v n cs) (hB:B'≤B):w.ownsRow B' e s v n cs:=by
 refine ⟨h.1,?_⟩
 rcases h.2 with h0 | ⟨g,cap,cur,hv,hg,rest⟩
 ·exact .inl h0
 ·exact .inr ⟨g,cap,cur,hv,Nat.le_trans hB hg,rest⟩
theorem off_block {w:World} {B B' e e' s s' n n' c' X:Nat} {v:Value} {xs xs':List Value} (h:w.ownsRow B e s v n xs) (hX:w.ownsRow B' e' s' (.slice (some ⟨X,0,none⟩) n' c') n' xs') (he:e≠e'):v.ownBlock≠some X:=by
 rcases owns_ne h hX he with h0 | h0
 ·rw [h0];simp
 ·exact h0
theorem box4 (w:World) (x y z u:Value) (t B:Nat) (hB:B≤w.heap.size):(w.alloc (.cells #[x,y,z,u] t)).ownsRow B t 4 (.slice (some ⟨w.heap.size,0,none⟩) 1 1) 1 [x,y,z,u]:=World.ownsRow_lit w #[x,y,z,u] 1 hB (by unfold maxLen;omega) rfl

theorem toVm_own (s:S4) (m:V4) (w:World) (h:Vmem w s m) (l0:s.1.2.1≤1048576) (l1:s.2.1.2.1≤1048576) (l2:s.2.2.1.2.1≤1048576) (l3:s.2.2.2.2.1≤1048576) :
  Calls Tryz.prog 43 #[s.val] w fun e w'=>(∃ s':S4,e=.returned s'.val∧OwnV w' w.heap.size s' m)∧Below w.heap.size w w':=by
 obtain ⟨⟨i0,_⟩,⟨i1,_⟩,⟨i2,_⟩,⟨i3,_⟩⟩:=h
 obtain ⟨⟨a0,n0,c0⟩,⟨a1,n1,c1⟩,⟨a2,n2,c2⟩,⟨a3,n3,c3⟩⟩:=s
 obtain ⟨m0,m1,m2,m3⟩:=m
 have hu:S4.val ((a0,n0,c0),(a1,n1,c1),(a2,n2,c2),(a3,n3,c3))=.agg #[.slice a0 n0 c0,.slice a1 n1 c1,.slice a2 n2 c2,.slice a3 n3 c3]:=rfl
 rw [hu]
 clear hu
 simp only at i0 i1 i2 i3 l0 l1 l2 l3
 obtain ⟨WA,hWA⟩:∃ WA,WA=((w.alloc (.cells #[.slice a0 n0 c0,.slice a1 n1 c1,.slice a2 n2 c2,.slice a3 n3 c3] 71)).alloc (.cells #[.slice none 0 0,.slice none 0 0,.slice none 0 0,.slice none 0 0] 33)).alloc (.cells #[.slice none 0 0,.slice none 0 0,.slice none 0 0,.slice none 0 0] 33):=⟨_,rfl⟩
 have bw:Below w.heap.size w WA:=by rw [hWA];go_grown
 have hP:WA.ownsRow w.heap.size 71 4 (.slice (some ⟨w.heap.size,0,none⟩) 1 1) 1 [.slice a0 n0 c0,.slice a1 n1 c1,.slice a2 n2 c2,.slice a3 n3 c3]:=by rw [hWA];exact ((box4 w _ _ _ _ 71 w.heap.size (Nat.le_refl _)).alloc _).alloc _
 have hR:WA.ownsRow w.heap.size 33 4 (.slice (some ⟨w.heap.size+1,0,none⟩) 1 1) 1 [.slice none 0 0,.slice none 0 0,.slice none 0 0,.slice none 0 0]:=by
  have h9:=(box4 (w.alloc (.cells #[.slice a0 n0 c0,.slice a1 n1 c1,.slice a2 n2 c2,.slice a3 n3 c3] 71)) (.slice none 0 0) (.slice none 0 0) (.slice none 0 0) (.slice none 0 0) 33 w.heap.size (by simp)).alloc (.cells #[.slice none 0 0,.slice none 0 0,.slice none 0 0,.slice none 0 0] 33)
  simp only [World.size_alloc] at h9
  rw [hWA];exact h9
 have hO:WA.ownsRow w.heap.size 33 4 (.slice (some ⟨w.heap.size+1+1,0,none⟩) 1 1) 1 [.slice none 0 0,.slice none 0 0,.slice none 0 0,.slice none 0 0]:=by
  have h9:=box4 ((w.alloc (.cells #[.slice a0 n0 c0,.slice a1 n1 c1,.slice a2 n2 c2,.slice a3 n3 c3] 71)).alloc (.cells #[.slice none 0 0,.slice none 0 0,.slice none 0 0,.slice none 0 0] 33)) (.slice none 0 0) (.slice none 0 0) (.slice none 0 0) (.slice none 0 0) 33 w.heap.size (by simp;omega)
  simp only [World.size_alloc] at h9
  rw [hWA];exact h9
 have hsz:w.heap.size+1+1<WA.heap.size:=(hO.lt _ rfl).2
 go_enter Tryz.func43,Tryz.ntmps43
 go_wp2_with fail
 rw [← hWA]
 clear hWA
 refine (toIntS_any a0 n0 c0 m0 _ (i0.below bw) l0).mono ?_
 rintro e w1 ⟨rfl,r0,hb⟩
 replace bw:=bel_trans bw hb
 replace hP:=owns_below hP hb
 replace hR:=owns_below hR hb
 replace hO:=owns_below hO hb
 have hgs:=hb.size
 have hgO:w.heap.size+1+1<WA.heap.size:=hsz
 replace r0:=own_lower r0 (show w.heap.size≤WA.heap.size by omega)
 replace hsz:w.heap.size+1+1<w1.heap.size:=Nat.lt_of_lt_of_le hsz hgs
 clear hb hgs i0
 generalize hg0:WA.heap.size=g0 at *
 clear hg0
 have fO:=hO.frozenAt 0
 have cO:w1.cell? ⟨w.heap.size+1+1,0,none⟩=some (.slice none 0 0):=by simpa using hO.cellAt 0 (by simp)
 replace hP:(w1.setCell ⟨w.heap.size+1+1,0,none⟩ (.slice (some ⟨g0,0,none⟩) n0 n0)).ownsRow w.heap.size 71 4 (.slice (some ⟨w.heap.size,0,none⟩) 1 1) 1 [.slice a0 n0 c0,.slice a1 n1 c1,.slice a2 n2 c2,.slice a3 n3 c3]:=ownsRow_setCell_other hP (by simp [Value.ownBlock];omega) _
 replace hR:(w1.setCell ⟨w.heap.size+1+1,0,none⟩ (.slice (some ⟨g0,0,none⟩) n0 n0)).ownsRow w.heap.size 33 4 (.slice (some ⟨w.heap.size+1,0,none⟩) 1 1) 1 [.slice none 0 0,.slice none 0 0,.slice none 0 0,.slice none 0 0]:=ownsRow_setCell_other hR (by simp [Value.ownBlock]) _
 replace r0:(w1.setCell ⟨w.heap.size+1+1,0,none⟩ (.slice (some ⟨g0,0,none⟩) n0 n0)).ownsRow w.heap.size 3 1 (.slice (some ⟨g0,0,none⟩) n0 n0) n0 (m0.map (Value.int .i64)):=ownsRow_setCell_other r0 (off_block r0 hO (by decide)) _
 replace hO:=(hO.stored 0 (.slice (some ⟨g0,0,none⟩) n0 n0)).1
 simp only [List.set_cons_zero] at hO
 replace bw:Below w.heap.size w (w1.setCell ⟨w.heap.size+1+1,0,none⟩ (.slice (some ⟨g0,0,none⟩) n0 n0)):=bw.setCell (by simp;omega) _
 replace hsz:w.heap.size+1+1<(w1.setCell ⟨w.heap.size+1+1,0,none⟩ (.slice (some ⟨g0,0,none⟩) n0 n0)).heap.size:=by rw [World.size_setCell];exact hsz
 have cP1:(w1.setCell ⟨w.heap.size+1+1,0,none⟩ (.slice (some ⟨g0,0,none⟩) n0 n0)).cell? ⟨w.heap.size,1,none⟩=some (.slice a1 n1 c1):=by simpa using hP.cellAt 1 (by simp)
 have cP2:(w1.setCell ⟨w.heap.size+1+1,0,none⟩ (.slice (some ⟨g0,0,none⟩) n0 n0)).cell? ⟨w.heap.size,2,none⟩=some (.slice a2 n2 c2):=by simpa using hP.cellAt 2 (by simp)
 have cP3:(w1.setCell ⟨w.heap.size+1+1,0,none⟩ (.slice (some ⟨g0,0,none⟩) n0 n0)).cell? ⟨w.heap.size,3,none⟩=some (.slice a3 n3 c3):=by simpa using hP.cellAt 3 (by simp)
 go_wp2_with fail
 generalize (w1.setCell ⟨w.heap.size+1+1,0,none⟩ (.slice (some ⟨g0,0,none⟩) n0 n0))=W1 at *
 refine (toIntS_any a1 n1 c1 m1 _ (i1.below bw) l1).mono ?_
 rintro e w2 ⟨rfl,r1,hb⟩
 replace bw:=bel_trans bw hb
 replace hP:=owns_below hP hb
 replace hR:=owns_below hR hb
 replace hO:=owns_below hO hb
 have lt01:=(r0.lt g0 rfl).2
 replace r0:=owns_below r0 hb
 have hgs:=hb.size
 have hgO:w.heap.size+1+1<W1.heap.size:=hsz
 replace r1:=own_lower r1 (show w.heap.size≤W1.heap.size by omega)
 replace hsz:w.heap.size+1+1<w2.heap.size:=Nat.lt_of_lt_of_le hsz hgs
 clear hb hgs i1
 generalize hg1:W1.heap.size=g1 at *
 clear hg1
 have fO:=hO.frozenAt 1
 have cO:w2.cell? ⟨w.heap.size+1+1,1,none⟩=some (.slice none 0 0):=by simpa using hO.cellAt 1 (by simp)
 replace hP:(w2.setCell ⟨w.heap.size+1+1,1,none⟩ (.slice (some ⟨g1,0,none⟩) n1 n1)).ownsRow w.heap.size 71 4 (.slice (some ⟨w.heap.size,0,none⟩) 1 1) 1 [.slice a0 n0 c0,.slice a1 n1 c1,.slice a2 n2 c2,.slice a3 n3 c3]:=ownsRow_setCell_other hP (by simp [Value.ownBlock];omega) _
 replace hR:(w2.setCell ⟨w.heap.size+1+1,1,none⟩ (.slice (some ⟨g1,0,none⟩) n1 n1)).ownsRow w.heap.size 33 4 (.slice (some ⟨w.heap.size+1,0,none⟩) 1 1) 1 [.slice none 0 0,.slice none 0 0,.slice none 0 0,.slice none 0 0]:=ownsRow_setCell_other hR (by simp [Value.ownBlock]) _
 replace r0:(w2.setCell ⟨w.heap.size+1+1,1,none⟩ (.slice (some ⟨g1,0,none⟩) n1 n1)).ownsRow w.heap.size 3 1 (.slice (some ⟨g0,0,none⟩) n0 n0) n0 (m0.map (Value.int .i64)):=ownsRow_setCell_other r0 (off_block r0 hO (by decide)) _
 replace r1:(w2.setCell ⟨w.heap.size+1+1,1,none⟩ (.slice (some ⟨g1,0,none⟩) n1 n1)).ownsRow w.heap.size 3 1 (.slice (some ⟨g1,0,none⟩) n1 n1) n1 (m1.map (Value.int .i64)):=ownsRow_setCell_other r1 (off_block r1 hO (by decide)) _
 replace hO:=(hO.stored 1 (.slice (some ⟨g1,0,none⟩) n1 n1)).1
 simp only [List.set_cons_zero,List.set_cons_succ] at hO
 replace bw:Below w.heap.size w (w2.setCell ⟨w.heap.size+1+1,1,none⟩ (.slice (some ⟨g1,0,none⟩) n1 n1)):=bw.setCell (by simp;omega) _
 replace hsz:w.heap.size+1+1<(w2.setCell ⟨w.heap.size+1+1,1,none⟩ (.slice (some ⟨g1,0,none⟩) n1 n1)).heap.size:=by rw [World.size_setCell];exact hsz
 have cP2:(w2.setCell ⟨w.heap.size+1+1,1,none⟩ (.slice (some ⟨g1,0,none⟩) n1 n1)).cell? ⟨w.heap.size,2,none⟩=some (.slice a2 n2 c2):=by simpa using hP.cellAt 2 (by simp)
 have cP3:(w2.setCell ⟨w.heap.size+1+1,1,none⟩ (.slice (some ⟨g1,0,none⟩) n1 n1)).cell? ⟨w.heap.size,3,none⟩=some (.slice a3 n3 c3):=by simpa using hP.cellAt 3 (by simp)
 go_wp2_with fail
 generalize (w2.setCell ⟨w.heap.size+1+1,1,none⟩ (.slice (some ⟨g1,0,none⟩) n1 n1))=W2 at *
 refine (toIntS_any a2 n2 c2 m2 _ (i2.below bw) l2).mono ?_
 rintro e w3 ⟨rfl,r2,hb⟩
 replace bw:=bel_trans bw hb
 replace hP:=owns_below hP hb
 replace hR:=owns_below hR hb
 replace hO:=owns_below hO hb
 have lt02:=(r0.lt g0 rfl).2
 replace r0:=owns_below r0 hb
 have lt12:=(r1.lt g1 rfl).2
 replace r1:=owns_below r1 hb
 have hgs:=hb.size
 have hgO:w.heap.size+1+1<W2.heap.size:=hsz
 replace r2:=own_lower r2 (show w.heap.size≤W2.heap.size by omega)
 replace hsz:w.heap.size+1+1<w3.heap.size:=Nat.lt_of_lt_of_le hsz hgs
 clear hb hgs i2
 generalize hg2:W2.heap.size=g2 at *
 clear hg2
 have fO:=hO.frozenAt 2
 have cO:w3.cell? ⟨w.heap.size+1+1,2,none⟩=some (.slice none 0 0):=by simpa using hO.cellAt 2 (by simp)
 replace hP:(w3.setCell ⟨w.heap.size+1+1,2,none⟩ (.slice (some ⟨g2,0,none⟩) n2 n2)).ownsRow w.heap.size 71 4 (.slice (some ⟨w.heap.size,0,none⟩) 1 1) 1 [.slice a0 n0 c0,.slice a1 n1 c1,.slice a2 n2 c2,.slice a3 n3 c3]:=ownsRow_setCell_other hP (by simp [Value.ownBlock];omega) _
 replace hR:(w3.setCell ⟨w.heap.size+1+1,2,none⟩ (.slice (some ⟨g2,0,none⟩) n2 n2)).ownsRow w.heap.size 33 4 (.slice (some ⟨w.heap.size+1,0,none⟩) 1 1) 1 [.slice none 0 0,.slice none 0 0,.slice none 0 0,.slice none 0 0]:=ownsRow_setCell_other hR (by simp [Value.ownBlock]) _
 replace r0:(w3.setCell ⟨w.heap.size+1+1,2,none⟩ (.slice (some ⟨g2,0,none⟩) n2 n2)).ownsRow w.heap.size 3 1 (.slice (some ⟨g0,0,none⟩) n0 n0) n0 (m0.map (Value.int .i64)):=ownsRow_setCell_other r0 (off_block r0 hO (by decide)) _
 replace r1:(w3.setCell ⟨w.heap.size+1+1,2,none⟩ (.slice (some ⟨g2,0,none⟩) n2 n2)).ownsRow w.heap.size 3 1 (.slice (some ⟨g1,0,none⟩) n1 n1) n1 (m1.map (Value.int .i64)):=ownsRow_setCell_other r1 (off_block r1 hO (by decide)) _
 replace r2:(w3.setCell ⟨w.heap.size+1+1,2,none⟩ (.slice (some ⟨g2,0,none⟩) n2 n2)).ownsRow w.heap.size 3 1 (.slice (some ⟨g2,0,none⟩) n2 n2) n2 (m2.map (Value.int .i64)):=ownsRow_setCell_other r2 (off_block r2 hO (by decide)) _
 replace hO:=(hO.stored 2 (.slice (some ⟨g2,0,none⟩) n2 n2)).1
 simp only [List.set_cons_zero,List.set_cons_succ] at hO
 replace bw:Below w.heap.size w (w3.setCell ⟨w.heap.size+1+1,2,none⟩ (.slice (some ⟨g2,0,none⟩) n2 n2)):=bw.setCell (by simp;omega) _
 replace hsz:w.heap.size+1+1<(w3.setCell ⟨w.heap.size+1+1,2,none⟩ (.slice (some ⟨g2,0,none⟩) n2 n2)).heap.size:=by rw [World.size_setCell];exact hsz
 have cP3:(w3.setCell ⟨w.heap.size+1+1,2,none⟩ (.slice (some ⟨g2,0,none⟩) n2 n2)).cell? ⟨w.heap.size,3,none⟩=some (.slice a3 n3 c3):=by simpa using hP.cellAt 3 (by simp)
 go_wp2_with fail
 generalize (w3.setCell ⟨w.heap.size+1+1,2,none⟩ (.slice (some ⟨g2,0,none⟩) n2 n2))=W3 at *
 refine (toIntS_any a3 n3 c3 m3 _ (i3.below bw) l3).mono ?_
 rintro e w4 ⟨rfl,r3,hb⟩
 replace bw:=bel_trans bw hb
 replace hP:=owns_below hP hb
 replace hR:=owns_below hR hb
 replace hO:=owns_below hO hb
 have lt03:=(r0.lt g0 rfl).2
 replace r0:=owns_below r0 hb
 have lt13:=(r1.lt g1 rfl).2
 replace r1:=owns_below r1 hb
 have lt23:=(r2.lt g2 rfl).2
 replace r2:=owns_below r2 hb
 have hgs:=hb.size
 have hgO:w.heap.size+1+1<W3.heap.size:=hsz
 replace r3:=own_lower r3 (show w.heap.size≤W3.heap.size by omega)
 replace hsz:w.heap.size+1+1<w4.heap.size:=Nat.lt_of_lt_of_le hsz hgs
 clear hb hgs i3
 generalize hg3:W3.heap.size=g3 at *
 clear hg3
 have fO:=hO.frozenAt 3
 have cO:w4.cell? ⟨w.heap.size+1+1,3,none⟩=some (.slice none 0 0):=by simpa using hO.cellAt 3 (by simp)
 replace hP:(w4.setCell ⟨w.heap.size+1+1,3,none⟩ (.slice (some ⟨g3,0,none⟩) n3 n3)).ownsRow w.heap.size 71 4 (.slice (some ⟨w.heap.size,0,none⟩) 1 1) 1 [.slice a0 n0 c0,.slice a1 n1 c1,.slice a2 n2 c2,.slice a3 n3 c3]:=ownsRow_setCell_other hP (by simp [Value.ownBlock];omega) _
 replace hR:(w4.setCell ⟨w.heap.size+1+1,3,none⟩ (.slice (some ⟨g3,0,none⟩) n3 n3)).ownsRow w.heap.size 33 4 (.slice (some ⟨w.heap.size+1,0,none⟩) 1 1) 1 [.slice none 0 0,.slice none 0 0,.slice none 0 0,.slice none 0 0]:=ownsRow_setCell_other hR (by simp [Value.ownBlock]) _
 replace r0:(w4.setCell ⟨w.heap.size+1+1,3,none⟩ (.slice (some ⟨g3,0,none⟩) n3 n3)).ownsRow w.heap.size 3 1 (.slice (some ⟨g0,0,none⟩) n0 n0) n0 (m0.map (Value.int .i64)):=ownsRow_setCell_other r0 (off_block r0 hO (by decide)) _
 replace r1:(w4.setCell ⟨w.heap.size+1+1,3,none⟩ (.slice (some ⟨g3,0,none⟩) n3 n3)).ownsRow w.heap.size 3 1 (.slice (some ⟨g1,0,none⟩) n1 n1) n1 (m1.map (Value.int .i64)):=ownsRow_setCell_other r1 (off_block r1 hO (by decide)) _
 replace r2:(w4.setCell ⟨w.heap.size+1+1,3,none⟩ (.slice (some ⟨g3,0,none⟩) n3 n3)).ownsRow w.heap.size 3 1 (.slice (some ⟨g2,0,none⟩) n2 n2) n2 (m2.map (Value.int .i64)):=ownsRow_setCell_other r2 (off_block r2 hO (by decide)) _
 replace r3:(w4.setCell ⟨w.heap.size+1+1,3,none⟩ (.slice (some ⟨g3,0,none⟩) n3 n3)).ownsRow w.heap.size 3 1 (.slice (some ⟨g3,0,none⟩) n3 n3) n3 (m3.map (Value.int .i64)):=ownsRow_setCell_other r3 (off_block r3 hO (by decide)) _
 replace hO:=(hO.stored 3 (.slice (some ⟨g3,0,none⟩) n3 n3)).1
 simp only [List.set_cons_zero,List.set_cons_succ] at hO
 replace bw:Below w.heap.size w (w4.setCell ⟨w.heap.size+1+1,3,none⟩ (.slice (some ⟨g3,0,none⟩) n3 n3)):=bw.setCell (by simp;omega) _
 replace hsz:w.heap.size+1+1<(w4.setCell ⟨w.heap.size+1+1,3,none⟩ (.slice (some ⟨g3,0,none⟩) n3 n3)).heap.size:=by rw [World.size_setCell];exact hsz
 have q0:(w4.setCell ⟨w.heap.size+1+1,3,none⟩ (.slice (some ⟨g3,0,none⟩) n3 n3)).cell? ⟨w.heap.size+1+1,0,none⟩=some (.slice (some ⟨g0,0,none⟩) n0 n0):=by simpa using hO.cellAt 0 (by simp)
 have x0:(w4.setCell ⟨w.heap.size+1+1,3,none⟩ (.slice (some ⟨g3,0,none⟩) n3 n3)).cell? ⟨w.heap.size+1,0,none⟩=some (.slice none 0 0):=by simpa using hR.cellAt 0 (by simp)
 have f0:(w4.setCell ⟨w.heap.size+1+1,3,none⟩ (.slice (some ⟨g3,0,none⟩) n3 n3)).frozen? ⟨w.heap.size+1,0,none⟩=false:=hR.frozenAt 0
 have q1:(w4.setCell ⟨w.heap.size+1+1,3,none⟩ (.slice (some ⟨g3,0,none⟩) n3 n3)).cell? ⟨w.heap.size+1+1,1,none⟩=some (.slice (some ⟨g1,0,none⟩) n1 n1):=by simpa using hO.cellAt 1 (by simp)
 have x1:(w4.setCell ⟨w.heap.size+1+1,3,none⟩ (.slice (some ⟨g3,0,none⟩) n3 n3)).cell? ⟨w.heap.size+1,1,none⟩=some (.slice none 0 0):=by simpa using hR.cellAt 1 (by simp)
 have f1:(w4.setCell ⟨w.heap.size+1+1,3,none⟩ (.slice (some ⟨g3,0,none⟩) n3 n3)).frozen? ⟨w.heap.size+1,1,none⟩=false:=hR.frozenAt 1
 have q2:(w4.setCell ⟨w.heap.size+1+1,3,none⟩ (.slice (some ⟨g3,0,none⟩) n3 n3)).cell? ⟨w.heap.size+1+1,2,none⟩=some (.slice (some ⟨g2,0,none⟩) n2 n2):=by simpa using hO.cellAt 2 (by simp)
 have x2:(w4.setCell ⟨w.heap.size+1+1,3,none⟩ (.slice (some ⟨g3,0,none⟩) n3 n3)).cell? ⟨w.heap.size+1,2,none⟩=some (.slice none 0 0):=by simpa using hR.cellAt 2 (by simp)
 have f2:(w4.setCell ⟨w.heap.size+1+1,3,none⟩ (.slice (some ⟨g3,0,none⟩) n3 n3)).frozen? ⟨w.heap.size+1,2,none⟩=false:=hR.frozenAt 2
 have q3:(w4.setCell ⟨w.heap.size+1+1,3,none⟩ (.slice (some ⟨g3,0,none⟩) n3 n3)).cell? ⟨w.heap.size+1+1,3,none⟩=some (.slice (some ⟨g3,0,none⟩) n3 n3):=by simpa using hO.cellAt 3 (by simp)
 have x3:(w4.setCell ⟨w.heap.size+1+1,3,none⟩ (.slice (some ⟨g3,0,none⟩) n3 n3)).cell? ⟨w.heap.size+1,3,none⟩=some (.slice none 0 0):=by simpa using hR.cellAt 3 (by simp)
 have f3:(w4.setCell ⟨w.heap.size+1+1,3,none⟩ (.slice (some ⟨g3,0,none⟩) n3 n3)).frozen? ⟨w.heap.size+1,3,none⟩=false:=hR.frozenAt 3
 clear hO hP hsz
 have hR9:=((((hR.stored 0 (.slice (some ⟨g0,0,none⟩) n0 n0)).1.stored 1 (.slice (some ⟨g1,0,none⟩) n1 n1)).1.stored 2 (.slice (some ⟨g2,0,none⟩) n2 n2)).1.stored 3 (.slice (some ⟨g3,0,none⟩) n3 n3)).1
 have b9:=(((bw.setCell (p:=⟨w.heap.size+1,0,none⟩) (by simp) (.slice (some ⟨g0,0,none⟩) n0 n0)).setCell (p:=⟨w.heap.size+1,1,none⟩) (by simp) (.slice (some ⟨g1,0,none⟩) n1 n1)).setCell (p:=⟨w.heap.size+1,2,none⟩) (by simp) (.slice (some ⟨g2,0,none⟩) n2 n2)).setCell (p:=⟨w.heap.size+1,3,none⟩) (by simp) (.slice (some ⟨g3,0,none⟩) n3 n3)
 have s0:(((((w4.setCell ⟨w.heap.size+1+1,3,none⟩ (.slice (some ⟨g3,0,none⟩) n3 n3)).setCell ⟨w.heap.size+1,0,none⟩ (.slice (some ⟨g0,0,none⟩) n0 n0)).setCell ⟨w.heap.size+1,1,none⟩ (.slice (some ⟨g1,0,none⟩) n1 n1)).setCell ⟨w.heap.size+1,2,none⟩ (.slice (some ⟨g2,0,none⟩) n2 n2)).setCell ⟨w.heap.size+1,3,none⟩ (.slice (some ⟨g3,0,none⟩) n3 n3)).ownsRow w.heap.size 3 1 (.slice (some ⟨g0,0,none⟩) n0 n0) n0 (m0.map (Value.int .i64)):=ownsRow_setCell_other (ownsRow_setCell_other (ownsRow_setCell_other (ownsRow_setCell_other r0 (off_block r0 hR (by decide)) _) (off_block r0 hR (by decide)) _) (off_block r0 hR (by decide)) _) (off_block r0 hR (by decide)) _
 have s1:(((((w4.setCell ⟨w.heap.size+1+1,3,none⟩ (.slice (some ⟨g3,0,none⟩) n3 n3)).setCell ⟨w.heap.size+1,0,none⟩ (.slice (some ⟨g0,0,none⟩) n0 n0)).setCell ⟨w.heap.size+1,1,none⟩ (.slice (some ⟨g1,0,none⟩) n1 n1)).setCell ⟨w.heap.size+1,2,none⟩ (.slice (some ⟨g2,0,none⟩) n2 n2)).setCell ⟨w.heap.size+1,3,none⟩ (.slice (some ⟨g3,0,none⟩) n3 n3)).ownsRow w.heap.size 3 1 (.slice (some ⟨g1,0,none⟩) n1 n1) n1 (m1.map (Value.int .i64)):=ownsRow_setCell_other (ownsRow_setCell_other (ownsRow_setCell_other (ownsRow_setCell_other r1 (off_block r1 hR (by decide)) _) (off_block r1 hR (by decide)) _) (off_block r1 hR (by decide)) _) (off_block r1 hR (by decide)) _
 have s2:(((((w4.setCell ⟨w.heap.size+1+1,3,none⟩ (.slice (some ⟨g3,0,none⟩) n3 n3)).setCell ⟨w.heap.size+1,0,none⟩ (.slice (some ⟨g0,0,none⟩) n0 n0)).setCell ⟨w.heap.size+1,1,none⟩ (.slice (some ⟨g1,0,none⟩) n1 n1)).setCell ⟨w.heap.size+1,2,none⟩ (.slice (some ⟨g2,0,none⟩) n2 n2)).setCell ⟨w.heap.size+1,3,none⟩ (.slice (some ⟨g3,0,none⟩) n3 n3)).ownsRow w.heap.size 3 1 (.slice (some ⟨g2,0,none⟩) n2 n2) n2 (m2.map (Value.int .i64)):=ownsRow_setCell_other (ownsRow_setCell_other (ownsRow_setCell_other (ownsRow_setCell_other r2 (off_block r2 hR (by decide)) _) (off_block r2 hR (by decide)) _) (off_block r2 hR (by decide)) _) (off_block r2 hR (by decide)) _
 have s3:(((((w4.setCell ⟨w.heap.size+1+1,3,none⟩ (.slice (some ⟨g3,0,none⟩) n3 n3)).setCell ⟨w.heap.size+1,0,none⟩ (.slice (some ⟨g0,0,none⟩) n0 n0)).setCell ⟨w.heap.size+1,1,none⟩ (.slice (some ⟨g1,0,none⟩) n1 n1)).setCell ⟨w.heap.size+1,2,none⟩ (.slice (some ⟨g2,0,none⟩) n2 n2)).setCell ⟨w.heap.size+1,3,none⟩ (.slice (some ⟨g3,0,none⟩) n3 n3)).ownsRow w.heap.size 3 1 (.slice (some ⟨g3,0,none⟩) n3 n3) n3 (m3.map (Value.int .i64)):=ownsRow_setCell_other (ownsRow_setCell_other (ownsRow_setCell_other (ownsRow_setCell_other r3 (off_block r3 hR (by decide)) _) (off_block r3 hR (by decide)) _) (off_block r3 hR (by decide)) _) (off_block r3 hR (by decide)) _
 clear hR r0 r1 r2 r3 bw
 go_wp2
 clear q0 q1 q2 q3 x0 x1 x2 x3 f0 f1 f2 f3 fO cO
 generalize (((((w4.setCell ⟨w.heap.size+1+1,3,none⟩ (.slice (some ⟨g3,0,none⟩) n3 n3)).setCell ⟨w.heap.size+1,0,none⟩ (.slice (some ⟨g0,0,none⟩) n0 n0)).setCell ⟨w.heap.size+1,1,none⟩ (.slice (some ⟨g1,0,none⟩) n1 n1)).setCell ⟨w.heap.size+1,2,none⟩ (.slice (some ⟨g2,0,none⟩) n2 n2)).setCell ⟨w.heap.size+1,3,none⟩ (.slice (some ⟨g3,0,none⟩) n3 n3))=w9 at hR9 b9 s0 s1 s2 s3
 have k0:w9.cell? ⟨w.heap.size+1,0,none⟩=some (.slice (some ⟨g0,0,none⟩) n0 n0):=by simpa using hR9.cellAt 0 (by simp)
 have k1:w9.cell? ⟨w.heap.size+1,1,none⟩=some (.slice (some ⟨g1,0,none⟩) n1 n1):=by simpa using hR9.cellAt 1 (by simp)
 have k2:w9.cell? ⟨w.heap.size+1,2,none⟩=some (.slice (some ⟨g2,0,none⟩) n2 n2):=by simpa using hR9.cellAt 2 (by simp)
 have k3:w9.cell? ⟨w.heap.size+1,3,none⟩=some (.slice (some ⟨g3,0,none⟩) n3 n3):=by simpa using hR9.cellAt 3 (by simp)
 refine bodyPost_ret (by simp [results,Tryz.results43,go_sem,k0,k1,k2,k3];try rfl) rfl ?_
 have ap:∀ {g g' n n':Nat},g<g'→Apart (some ⟨g,0,none⟩,n,n) (some ⟨g',0,none⟩,n',n'):=fun hlt x hx h=>by simp [Value.ownBlock] at hx h;omega
 exact ⟨⟨((some ⟨g0,0,none⟩,n0,n0),(some ⟨g1,0,none⟩,n1,n1),(some ⟨g2,0,none⟩,n2,n2),(some ⟨g3,0,none⟩,n3,n3)),rfl,⟨s0,s1,s2,s3⟩,ap lt01,ap lt02,ap lt03,ap lt12,ap lt13,ap lt23⟩,b9⟩


def allIn (zs:List Int) (n high:Int):Bool:=zs.all (fun z=>decide (0≤z∧z≤high)) && decide ((zs.length:Int)=n)
def shapeOk (m:V4):Bool:=allIn m.1 3 6 && (allIn m.2.1 4 9 && (allIn m.2.2.1 2 3 && allIn m.2.2.2 6 9))
theorem allIn_no {zs:List Int} {n high:Int} {k:Nat} (hk:k<zs.length) (h:¬ (0≤zs.getD k 0∧zs.getD k 0≤high)):allIn zs n high=false:=by
 unfold allIn
 have:zs.all (fun z=>decide (0≤z∧z≤high))=false:=by
  rw [List.all_eq_false]
  refine ⟨zs.getD k 0,by simp [List.getD,hk],?_⟩
  simpa using h
 rw [this];rfl
theorem allIn_end {zs:List Int} {n high:Int} (h:∀ i,i<zs.length→0≤zs.getD i 0∧zs.getD i 0≤high):allIn zs n high=decide ((zs.length:Int)=n):=by
 unfold allIn
 have:zs.all (fun z=>decide (0≤z∧z≤high))=true:=by
  rw [List.all_eq_true]
  intro z hz
  obtain ⟨i,hi,rfl⟩:=List.getElem_of_mem hz
  have:=h i hi
  simpa [List.getD,hi] using this
 rw [this];rfl

theorem l03All_is (a:Option Addr) (len cap:Nat) (zs:List Int) (n high:Int) (w:World) (h:Ints .i64 w a len cap zs) :
  Calls Tryz.prog 148 #[.slice a len cap,.int .i64 n,.int .i64 high] w fun e w'=>e=.returned (.bool (allIn zs n high))∧w=w':=by
 obtain ⟨hl,hlc,hcm,hcase⟩:=h
 unfold maxLen at hcm
 obtain ⟨fin,hfin⟩:∃ fin,fin=allIn zs n high:=⟨_,rfl⟩
 rw [← hfin]
 have HF:Hid (fin=allIn zs n high):=hfin
 clear hfin
 have hend:∀ b:Bool,b=decide ((len:Int)=n)→Hid (∀ i,i<zs.length→0≤zs.getD i 0∧zs.getD i 0≤high)→fin=b:=fun b hb h=>by rw [HF.out,allIn_end h.out,hb,hl]
 obtain ⟨b,hb⟩:∃ b,b=decide ((len:Int)=n):=⟨_,rfl⟩
 have he:=hend b hb
 have hb2:((len:Int) == n)=b:=by rw [hb];by_cases h:(len:Int)=n<;>simp [h]
 clear hend hb
 have HE:Hid (Hid (∀ i,i<zs.length→0≤zs.getD i 0∧zs.getD i 0≤high)→fin=b):=he
 clear he
 by_cases h0:len=0
 ·subst h0
  obtain rfl:fin=b:=HE.out (fun i hi=>by omega)
  clear HE HF
  go_enter Tryz.func148,Tryz.ntmps148
  go_wp2
  refine wp_loop_rounds 1 ?_
  rw [rounds_succ]
  simp only [Int.natCast_zero] at hb2
  go_wp2
  go_ret
  exact ⟨rfl,rfl⟩
 ·rcases hcase with h0' | ⟨bk,off,rfl,hblt,hcell⟩
  ·exact absurd h0' h0
  go_enter Tryz.func148,Tryz.ntmps148
  go_wp2
  go_loopw [7] (fun si wr=>∃ k:Nat,k≤len∧si=.int .i64 k∧Hid (∀ i,i<k→0≤zs.getD i 0∧zs.getD i 0≤high)∧w=wr) (fun si _=>len - (intOf si).toNat)
  case atStart=>exact ⟨0,by omega,rfl,(fun i hi=>by omega),rfl⟩
  case round =>
   obtain ⟨k,hk,rfl,HK,rfl⟩:=hrel
   by_cases hlt:k<len
   ·have hc:=hcell k hlt
    have hlt':(k:Int)<(len:Int):=by omega
    by_cases hin:0≤zs.getD k 0∧zs.getD k 0≤high
    ·have HK2:Hid (∀ i,i<k+1→0≤zs.getD i 0∧zs.getD i 0≤high):=fun i hi=>by
      by_cases e:i=k
      ·subst e;exact hin
      ·exact HK.out i (by omega)
     have kI:=fun w=>l01In_yes (zs.getD k 0) 0 high w hin
     clear hcell hin
     generalize zs.getD k 0=x at hc kI
     go_wp2_with fail
     refine (kI _).mono ?_
     rintro e w1 ⟨rfl,rfl⟩
     go_wp2
     go_roundw
     case rel=>exact ⟨k+1,by omega,by go_num,HK2,by trivial⟩
     case measure=>simp [intOf];omega
    ·obtain rfl:fin=false:=by rw [HF.out];exact allIn_no (by omega) hin
     have kI:=fun w=>l01In_no (zs.getD k 0) 0 high w hin
     clear hcell hin HE HF
     generalize zs.getD k 0=x at hc kI
     go_wp2_with fail
     refine (kI _).mono ?_
     rintro e w1 ⟨rfl,rfl⟩
     go_wp2
     go_ret
     exact ⟨rfl,rfl⟩
   ·obtain rfl:k=len:=by omega
    obtain rfl:fin=b:=HE.out (fun i hi=>HK.out i (by omega))
    clear hcell HE HF HK
    go_wp2
    go_ret
    exact ⟨rfl,rfl⟩

theorem l03Shape_is (s:S4) (m:V4) (w:World) (h:Vmem w s m) :
  Calls Tryz.prog 121 #[s.val] w fun e w'=>e=.returned (.bool (shapeOk m))∧Below w.heap.size w w':=by
 obtain ⟨⟨i0,_⟩,⟨i1,_⟩,⟨i2,_⟩,⟨i3,_⟩⟩:=h
 obtain ⟨⟨a0,n0,c0⟩,⟨a1,n1,c1⟩,⟨a2,n2,c2⟩,⟨a3,n3,c3⟩⟩:=s
 obtain ⟨m0,m1,m2,m3⟩:=m
 unfold S4.val shapeOk
 simp only at i0 i1 i2 i3 ⊢
 have bw:Below w.heap.size w (w.alloc (.cells #[.slice a0 n0 c0,.slice a1 n1 c1,.slice a2 n2 c2,.slice a3 n3 c3] 33)):=by go_grown
 have k0:=l03All_is a0 n0 c0 m0 3 6 _ (i0.below bw)
 have k1:=l03All_is a1 n1 c1 m1 4 9 _ (i1.below bw)
 have k2:=l03All_is a2 n2 c2 m2 2 3 _ (i2.below bw)
 have k3:=l03All_is a3 n3 c3 m3 6 9 _ (i3.below bw)
 clear i0 i1 i2 i3
 generalize allIn m0 3 6=x0 at *
 generalize allIn m1 4 9=x1 at *
 generalize allIn m2 2 3=x2 at *
 generalize allIn m3 6 9=x3 at *
 go_enter Tryz.func121,Tryz.ntmps121
 go_wp2_with fail
 refine k0.mono ?_
 rintro e w1 ⟨rfl,rfl⟩
 cases x0
 ·go_wp2
  go_ret
  exact ⟨rfl,bw⟩
 go_wp2_with fail
 refine k1.mono ?_
 rintro e w1 ⟨rfl,rfl⟩
 cases x1
 ·go_wp2
  go_ret
  exact ⟨rfl,bw⟩
 go_wp2_with fail
 refine k2.mono ?_
 rintro e w1 ⟨rfl,rfl⟩
 cases x2
 ·go_wp2
  go_ret
  exact ⟨rfl,bw⟩
 go_wp2_with fail
 refine k3.mono ?_
 rintro e w1 ⟨rfl,rfl⟩
 cases x3
 ·go_wp2
  go_ret
  exact ⟨rfl,bw⟩
 go_wp2
 go_ret
 exact ⟨rfl,bw⟩

theorem specVmOK_is (a:Option Addr) (len cap:Nat) (rows:List (List I3)) (s:S4) (m:V4) (w:World) (hC:Codes w a len cap rows) (h:Vmem w s m) :
  Calls Tryz.prog 84 #[.agg #[.slice a len cap],s.val] w fun e w'=>e=.returned (.bool (progOk rows && shapeOk m))∧Below w.heap.size w w':=by
 have kP:=specProgramOK_is a len cap rows
 have kS:=l03Shape_is s m
 generalize progOk rows=x at *
 generalize shapeOk m=y at *
 obtain ⟨⟨a0,n0,c0⟩,⟨a1,n1,c1⟩,⟨a2,n2,c2⟩,⟨a3,n3,c3⟩⟩:=s
 unfold S4.val at kS ⊢
 simp only at kS ⊢
 have hu:Hid (∀ W,Below w.heap.size w W→Vmem W ((a0,n0,c0),(a1,n1,c1),(a2,n2,c2),(a3,n3,c3)) m):=fun W hb=>h.below hb
 have bw:Below w.heap.size w ((w.alloc (.cells #[.slice a len cap] 25)).alloc (.cells #[.slice a0 n0 c0,.slice a1 n1 c1,.slice a2 n2 c2,.slice a3 n3 c3] 33)):=by go_grown
 have cS:∀ j v,[Value.slice a0 n0 c0,.slice a1 n1 c1,.slice a2 n2 c2,.slice a3 n3 c3][j]?=some v→((w.alloc (.cells #[.slice a len cap] 25)).alloc (.cells #[.slice a0 n0 c0,.slice a1 n1 c1,.slice a2 n2 c2,.slice a3 n3 c3] 33)).cell? ⟨w.heap.size+1,j,none⟩=some v:=by
  intro j v hj
  match j,hj with
  | 0,hj=>simp at hj;subst hj;simp [go_sem]
  | 1,hj=>simp at hj;subst hj;simp [go_sem]
  | 2,hj=>simp at hj;subst hj;simp [go_sem]
  | 3,hj=>simp at hj;subst hj;simp [go_sem]
  | (j+4),hj=>simp at hj
 have s0:=cS 0 _ rfl
 have s1:=cS 1 _ rfl
 have s2:=cS 2 _ rfl
 have s3:=cS 3 _ rfl
 clear cS
 go_enter Tryz.func84,Tryz.ntmps84
 go_wp2_with fail
 refine (kP _ (hC.below bw)).mono ?_
 rintro e w1 ⟨rfl,hb⟩
 replace bw:=bel_trans bw hb
 replace s0:=cells_kept hb _ _ s0
 replace s1:=cells_kept hb _ _ s1
 replace s2:=cells_kept hb _ _ s2
 replace s3:=cells_kept hb _ _ s3
 clear hb hC kP
 cases x
 ·go_wp2
  go_ret
  exact ⟨rfl,bw⟩
 go_wp2_with fail
 refine (kS _ (hu.out _ bw)).mono ?_
 rintro e w2 ⟨rfl,hb⟩
 replace bw:=bel_trans bw hb
 cases y
 ·go_wp2
  go_ret
  exact ⟨rfl,bw⟩
 go_wp2
 go_ret
 exact ⟨rfl,bw⟩
end Go.Proofs.YtfpopbbmnbehiaaGreatDoor
