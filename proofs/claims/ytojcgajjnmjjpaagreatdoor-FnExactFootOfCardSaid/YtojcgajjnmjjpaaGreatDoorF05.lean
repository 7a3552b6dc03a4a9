/-
  Joined: Vm2, Ops.
-/
import Derived.Test.YtojcgajjnmjjpaaGreatDoorF04

namespace Go.Proofs.YtojcgajjnmjjpaaGreatDoor
set_option maxRecDepth 100000
open Go.RowKit

def OwnI (w:World) (B:Nat) (s:Sl) (zs:List Int):Prop:=w.ownsRow B 3 1 (.slice s.1 s.2.1 s.2.2) s.2.1 (zs.map (Value.int .i64))
def Apart (s s':Sl):Prop:=∀ g,(Value.slice s.1 s.2.1 s.2.2).ownBlock=some g→(Value.slice s'.1 s'.2.1 s'.2.2).ownBlock≠some g
def OwnV (w:World) (B:Nat) (s:S4) (m:V4):Prop:=
 (OwnI w B s.1 m.1∧OwnI w B s.2.1 m.2.1∧OwnI w B s.2.2.1 m.2.2.1∧OwnI w B s.2.2.2 m.2.2.2) ∧
 Apart s.1 s.2.1∧Apart s.1 s.2.2.1∧Apart s.1 s.2.2.2∧Apart s.2.1 s.2.2.1∧Apart s.2.1 s.2.2.2∧Apart s.2.2.1 s.2.2.2
def V4.fits (m:V4):Prop:=(∀ z ∈ m.1,(Lit.int .i64 z).wf=true)∧(∀ z ∈ m.2.1,(Lit.int .i64 z).wf=true)∧(∀ z ∈ m.2.2.1,(Lit.int .i64 z).wf=true)∧∀ z ∈ m.2.2.2,(Lit.int .i64 z).wf=true
theorem Vmem.fits {w:World} {s:S4} {m:V4} (h:Vmem w s m):V4.fits m:=⟨h.1.2,h.2.1.2,h.2.2.1.2,h.2.2.2.2⟩

theorem OwnI.ints {w:World} {B:Nat} {s:Sl} {zs:List Int} (h:OwnI w B s zs):Ints .i64 w s.1 s.2.1 s.2.2 zs:=by
 obtain ⟨a,n,c⟩:=s
 unfold OwnI at h
 simp only at h ⊢
 rcases h.2 with ⟨h0,h1⟩ | ⟨g,cap,cur,hv,_⟩
 ·cases h0
  have hl:zs.length=0:=by simpa using h.1
  exact ⟨hl,Nat.le_refl _,Nat.zero_le _,.inl rfl⟩
 ·cases hv
  exact Ints.of_owns h
theorem OwnI.below {w w':World} {B:Nat} {s:Sl} {zs:List Int} (h:OwnI w B s zs) (hb:Below w.heap.size w w'):OwnI w' B s zs:=owns_below h hb
theorem OwnV.below {w w':World} {B:Nat} {s:S4} {m:V4} (h:OwnV w B s m) (hb:Below w.heap.size w w'):OwnV w' B s m:=⟨⟨h.1.1.below hb,h.1.2.1.below hb,h.1.2.2.1.below hb,h.1.2.2.2.below hb⟩,h.2⟩
theorem OwnV.mem {w:World} {B:Nat} {s:S4} {m:V4} (h:OwnV w B s m) (hf:V4.fits m):Vmem w s m:=⟨⟨h.1.1.ints,hf.1⟩,⟨h.1.2.1.ints,hf.2.1⟩,⟨h.1.2.2.1.ints,hf.2.2.1⟩,⟨h.1.2.2.2.ints,hf.2.2.2⟩⟩
theorem own_lower {w:World} {B B' e s n:Nat} {v:Value} {cs:List Value} (h:w.ownsRow B e s v n cs) (hB:B'≤B):w.ownsRow B' e s v n cs:=by
 refine ⟨h.1,?_⟩
 rcases h.2 with h0 | ⟨g,cap,cur,hv,hg,rest⟩
 ·exact .inl h0
 ·exact .inr ⟨g,cap,cur,hv,Nat.le_trans hB hg,rest⟩
theorem off_block {w:World} {B B' e e' s s' n n' c' X:Nat} {v:Value} {xs xs':List Value} (h:w.ownsRow B e s v n xs) (hX:w.ownsRow B' e' s' (.slice (some ⟨X,0,none⟩) n' c') n' xs') (he:e≠e'):v.ownBlock≠some X:=by
 rcases owns_ne h hX he with h0 | h0
 ·rw [h0];simp
 ·exact h0
theorem box4 (w:World) (x y z u:Value) (t B:Nat) (hB:B≤w.heap.size):(w.alloc (.cells #[x,y,z,u] t)).ownsRow B t 4 (.slice (some ⟨w.heap.size,0,none⟩) 1 1) 1 [x,y,z,u]:=World.ownsRow_lit w #[x,y,z,u] 1 hB (by unfold maxLen;omega) rfl

set_option maxHeartbeats 4000000 in
theorem toVm_own (s:S4) (m:V4) (w:World) (h:Vmem w s m) (l0:s.1.2.1≤1048576) (l1:s.2.1.2.1≤1048576) (l2:s.2.2.1.2.1≤1048576) (l3:s.2.2.2.2.1≤1048576) :
  Calls Tryz.prog 21 #[s.val] w fun e w'=>(∃ s':S4,e=.returned s'.val∧OwnV w' w.heap.size s' m)∧Below w.heap.size w w':=by
 obtain ⟨⟨i0,_⟩,⟨i1,_⟩,⟨i2,_⟩,⟨i3,_⟩⟩:=h
 obtain ⟨⟨a0,n0,c0⟩,⟨a1,n1,c1⟩,⟨a2,n2,c2⟩,⟨a3,n3,c3⟩⟩:=s
 obtain ⟨m0,m1,m2,m3⟩:=m
 have hu:S4.val ((a0,n0,c0),(a1,n1,c1),(a2,n2,c2),(a3,n3,c3))=.agg #[.slice a0 n0 c0,.slice a1 n1 c1,.slice a2 n2 c2,.slice a3 n3 c3]:=rfl
 rw [hu]
 clear hu
 simp only at i0 i1 i2 i3 l0 l1 l2 l3
 obtain ⟨WA,hWA⟩:∃ WA,WA=((w.alloc (.cells #[.slice a0 n0 c0,.slice a1 n1 c1,.slice a2 n2 c2,.slice a3 n3 c3] 49)).alloc (.cells #[.slice none 0 0,.slice none 0 0,.slice none 0 0,.slice none 0 0] 37)).alloc (.cells #[.slice none 0 0,.slice none 0 0,.slice none 0 0,.slice none 0 0] 37):=⟨_,rfl⟩
 have bw:Below w.heap.size w WA:=by rw [hWA];go_grown
 have hP:WA.ownsRow w.heap.size 49 4 (.slice (some ⟨w.heap.size,0,none⟩) 1 1) 1 [.slice a0 n0 c0,.slice a1 n1 c1,.slice a2 n2 c2,.slice a3 n3 c3]:=by rw [hWA];exact ((box4 w _ _ _ _ 49 w.heap.size (Nat.le_refl _)).alloc _).alloc _
 have hR:WA.ownsRow w.heap.size 37 4 (.slice (some ⟨w.heap.size+1,0,none⟩) 1 1) 1 [.slice none 0 0,.slice none 0 0,.slice none 0 0,.slice none 0 0]:=by
  have h9:=(box4 (w.alloc (.cells #[.slice a0 n0 c0,.slice a1 n1 c1,.slice a2 n2 c2,.slice a3 n3 c3] 49)) (.slice none 0 0) (.slice none 0 0) (.slice none 0 0) (.slice none 0 0) 37 w.heap.size (by simp)).alloc (.cells #[.slice none 0 0,.slice none 0 0,.slice none 0 0,.slice none 0 0] 37)
  simp only [World.size_alloc] at h9
  rw [hWA];exact h9
 have hO:WA.ownsRow w.heap.size 37 4 (.slice (some ⟨w.heap.size+1+1,0,none⟩) 1 1) 1 [.slice none 0 0,.slice none 0 0,.slice none 0 0,.slice none 0 0]:=by
  have h9:=box4 ((w.alloc (.cells #[.slice a0 n0 c0,.slice a1 n1 c1,.slice a2 n2 c2,.slice a3 n3 c3] 49)).alloc (.cells #[.slice none 0 0,.slice none 0 0,.slice none 0 0,.slice none 0 0] 37)) (.slice none 0 0) (.slice none 0 0) (.slice none 0 0) (.slice none 0 0) 37 w.heap.size (by simp;omega)
  simp only [World.size_alloc] at h9
  rw [hWA];exact h9
 have hsz:w.heap.size+1+1<WA.heap.size:=(hO.lt _ rfl).2
 go_enter Tryz.func21,Tryz.ntmps21
 go_wp2_with fail
 rw [← hWA]
 clear hWA
 refine (toIntS_any a0 n0 c0 m0 _ (i0.below bw) l0).mono ?_
 rintro e w1 ⟨rfl,r0,hb⟩
 replace bw:=bel_trans bw hb
 replace hP:=owns_below hP hb
 replace hR:=owns_below hR hb
 replace hO:=owns_below hO hb
 have hgs:=hb.size
 have hgO:w.heap.size+1+1<WA.heap.size:=hsz
 replace r0:=own_lower r0 (show w.heap.size≤WA.heap.size by omega)
 replace hsz:w.heap.size+1+1<w1.heap.size:=Nat.lt_of_lt_of_le hsz hgs
 clear hb hgs i0
 generalize hg0:WA.heap.size=g0 at *
 clear hg0
 have fO:=hO.frozenAt 0
 have cO:w1.cell? ⟨w.heap.size+1+1,0,none⟩=some (.slice none 0 0):=by simpa using hO.cellAt 0 (by simp)
 replace hP:(w1.setCell ⟨w.heap.size+1+1,0,none⟩ (.slice (some ⟨g0,0,none⟩) n0 n0)).ownsRow w.heap.size 49 4 (.slice (some ⟨w.heap.size,0,none⟩) 1 1) 1 [.slice a0 n0 c0,.slice a1 n1 c1,.slice a2 n2 c2,.slice a3 n3 c3]:=ownsRow_setCell_other hP (by simp [Value.ownBlock];omega) _
 replace hR:(w1.setCell ⟨w.heap.size+1+1,0,none⟩ (.slice (some ⟨g0,0,none⟩) n0 n0)).ownsRow w.heap.size 37 4 (.slice (some ⟨w.heap.size+1,0,none⟩) 1 1) 1 [.slice none 0 0,.slice none 0 0,.slice none 0 0,.slice none 0 0]:=ownsRow_setCell_other hR (by simp [Value.ownBlock]) _
 replace r0:(w1.setCell ⟨w.heap.size+1+1,0,none⟩ (.slice (some ⟨g0,0,none⟩) n0 n0)).ownsRow w.heap.size 3 1 (.slice (some ⟨g0,0,none⟩) n0 n0) n0 (m0.map (Value.int .i64)):=ownsRow_setCell_other r0 (off_block r0 hO (by decide)) _
 replace hO:=(hO.stored 0 (.slice (some ⟨g0,0,none⟩) n0 n0)).1
 simp only [List.set_cons_zero] at hO
 replace bw:Below w.heap.size w (w1.setCell ⟨w.heap.size+1+1,0,none⟩ (.slice (some ⟨g0,0,none⟩) n0 n0)):=bw.setCell (by simp;omega) _
 replace hsz:w.heap.size+1+1<(w1.setCell ⟨w.heap.size+1+1,0,none⟩ (.slice (some ⟨g0,0,none⟩) n0 n0)).heap.size:=by rw [World.size_setCell];exact hsz
 have cP1:(w1.setCell ⟨w.heap.size+1+1,0,none⟩ (.slice (some ⟨g0,0,none⟩) n0 n0)).cell? ⟨w.heap.size,1,none⟩=some (.slice a1 n1 c1):=by simpa using hP.cellAt 1 (by simp)
 have cP2:(w1.setCell ⟨w.heap.size+1+1,0,none⟩ (.slice (some ⟨g0,0,none⟩) n0 n0)).cell? ⟨w.heap.size,2,none⟩=some (.slice a2 n2 c2):=by simpa using hP.cellAt 2 (by simp)
 have cP3:(w1.setCell ⟨w.heap.size+1+1,0,none⟩ (.slice (some ⟨g0,0,none⟩) n0 n0)).cell? ⟨w.heap.size,3,none⟩=some (.slice a3 n3 c3):=by simpa using hP.cellAt 3 (by simp)
 go_wp2_with fail
 generalize (w1.setCell ⟨w.heap.size+1+1,0,none⟩ (.slice (some ⟨g0,0,none⟩) n0 n0))=W1 at *
 refine (toIntS_any a1 n1 c1 m1 _ (i1.below bw) l1).mono ?_
 rintro e w2 ⟨rfl,r1,hb⟩
 replace bw:=bel_trans bw hb
 replace hP:=owns_below hP hb
 replace hR:=owns_below hR hb
 replace hO:=owns_below hO hb
 have lt01:=(r0.lt g0 rfl).2
 replace r0:=owns_below r0 hb
 have hgs:=hb.size
 have hgO:w.heap.size+1+1<W1.heap.size:=hsz
 replace r1:=own_lower r1 (show w.heap.size≤W1.heap.size by omega)
 replace hsz:w.heap.size+1+1<w2.heap.size:=Nat.lt_of_lt_of_le hsz hgs
 clear hb hgs i1
 generalize hg1:W1.heap.size=g1 at *
 clear hg1
 have fO:=hO.frozenAt 1
 have cO:w2.cell? ⟨w.heap.size+1+1,1,none⟩=some (.slice none 0 0):=by simpa using hO.cellAt 1 (by simp)
 replace hP:(w2.setCell ⟨w.heap.size+1+1,1,none⟩ (.slice (some ⟨g1,0,none⟩) n1 n1)).ownsRow w.heap.size 49 4 (.slice (some ⟨w.heap.size,0,none⟩) 1 1) 1 [.slice a0 n0 c0,.slice a1 n1 c1,.slice a2 n2 c2,.slice a3 n3 c3]:=ownsRow_setCell_other hP (by simp [Value.ownBlock];omega) _
 replace hR:(w2.setCell ⟨w.heap.size+1+1,1,none⟩ (.slice (some ⟨g1,0,none⟩) n1 n1)).ownsRow w.heap.size 37 4 (.slice (some ⟨w.heap.size+1,0,none⟩) 1 1) 1 [.slice none 0 0,.slice none 0 0,.slice none 0 0,.slice none 0 0]:=ownsRow_setCell_other hR (by simp [Value.ownBlock]) _
 replace r0:(w2.setCell ⟨w.heap.size+1+1,1,none⟩ (.slice (some ⟨g1,0,none⟩) n1 n1)).ownsRow w.heap.size 3 1 (.slice (some ⟨g0,0,none⟩) n0 n0) n0 (m0.map (Value.int .i64)):=ownsRow_setCell_other r0 (off_block r0 hO (by decide)) _
 replace r1:(w2.setCell ⟨w.heap.size+1+1,1,none⟩ (.slice (some ⟨g1,0,none⟩) n1 n1)).ownsRow w.heap.size 3 1 (.slice (some ⟨g1,0,none⟩) n1 n1) n1 (m1.map (Value.int .i64)):=ownsRow_setCell_other r1 (off_block r1 hO (by decide)) _
 replace hO:=(hO.stored 1 (.slice (some ⟨g1,0,none⟩) n1 n1)).1
 simp only [List.set_cons_zero,List.set_cons_succ] at hO
 replace bw:Below w.heap.size w (w2.setCell ⟨w.heap.size+1+1,1,none⟩ (.slice (some ⟨g1,0,none⟩) n1 n1)):=bw.setCell (by simp;omega) _
 replace hsz:w.heap.size+1+1<(w2.setCell ⟨w.heap.size+1+1,1,none⟩ (.slice (some ⟨g1,0,none⟩) n1 n1)).heap.size:=by rw [World.size_setCell];exact hsz
 have cP2:(w2.setCell ⟨w.heap.size+1+1,1,none⟩ (.slice (some ⟨g1,0,none⟩) n1 n1)).cell? ⟨w.heap.size,2,none⟩=some (.slice a2 n2 c2):=by simpa using hP.cellAt 2 (by simp)
 have cP3:(w2.setCell ⟨w.heap.size+1+1,1,none⟩ (.slice (some ⟨g1,0,none⟩) n1 n1)).cell? ⟨w.heap.size,3,none⟩=some (.slice a3 n3 c3):=by simpa using hP.cellAt 3 (by simp)
 go_wp2_with fail
 generalize (w2.setCell ⟨w.heap.size+1+1,1,none⟩ (.slice (some ⟨g1,0,none⟩) n1 n1))=W2 at *
 refine (toIntS_any a2 n2 c2 m2 _ (i2.below bw) l2).mono ?_
 rintro e w3 ⟨rfl,r2,hb⟩
 replace bw:=bel_trans bw hb
 replace hP:=owns_below hP hb
 replace hR:=owns_below hR hb
 replace hO:=owns_below hO hb
 have lt02:=(r0.lt g0 rfl).2
 replace r0:=owns_below r0 hb
 have lt12:=(r1.lt g1 rfl).2
 replace r1:=owns_below r1 hb
 have hgs:=hb.size
 have hgO:w.heap.size+1+1<W2.heap.size:=hsz
 replace r2:=own_lower r2 (show w.heap.size≤W2.heap.size by omega)
 replace hsz:w.heap.size+1+1<w3.heap.size:=Nat.lt_of_lt_of_le hsz hgs
 clear hb hgs i2
 generalize hg2:W2.heap.size=g2 at *
 clear hg2
 have fO:=hO.frozenAt 2
 have cO:w3.cell? ⟨w.heap.size+1+1,2,none⟩=some (.slice none 0 0):=by simpa using hO.cellAt 2 (by simp)
 replace hP:(w3.setCell ⟨w.heap.size+1+1,2,none⟩ (.slice (some ⟨g2,0,none⟩) n2 n2)).ownsRow w.heap.size 49 4 (.slice (some ⟨w.heap.size,0,none⟩) 1 1) 1 [.slice a0 n0 c0,.slice a1 n1 c1,.slice a2 n2 c2,.slice a3 n3 c3]:=ownsRow_setCell_other hP (by simp [Value.ownBlock];omega) _
 replace hR:(w3.setCell ⟨w.heap.size+1+1,2,none⟩ (.slice (some ⟨g2,0,none⟩) n2 n2)).ownsRow w.heap.size 37 4 (.slice (some ⟨w.heap.size+1,0,none⟩) 1 1) 1 [.slice none 0 0,.slice none 0 0,.slice none 0 0,.slice none 0 0]:=ownsRow_setCell_other hR (by simp [Value.ownBlock]) _
 replace r0:(w3.setCell ⟨w.heap.size+1+1,2,none⟩ (.slice (some ⟨g2,0,none⟩) n2 n2)).ownsRow w.heap.size 3 1 (.slice (some ⟨g0,0,none⟩) n0 n0) n0 (m0.map (Value.int .i64)):=ownsRow_setCell_other r0 (off_block r0 hO (by decide)) _
 replace r1:(w3.setCell ⟨w.heap.size+1+1,2,none⟩ (.slice (some ⟨g2,0,none⟩) n2 n2)).ownsRow w.heap.size 3 1 (.slice (some ⟨g1,0,none⟩) n1 n1) n1 (m1.map (Value.int .i64)):=ownsRow_setCell_other r1 (off_block r1 hO (by decide)) _
 replace r2:(w3.setCell ⟨w.heap.size+1+1,2,none⟩ (.slice (some ⟨g2,0,none⟩) n2 n2)).ownsRow w.heap.size 3 1 (.slice (some ⟨g2,0,none⟩) n2 n2) n2 (m2.map (Value.int .i64)):=ownsRow_setCell_other r2 (off_block r2 hO (by decide)) _
 replace hO:=(hO.stored 2 (.slice (some ⟨g2,0,none⟩) n2 n2)).1
 simp only [List.set_cons_zero,List.set_cons_succ] at hO
 replace bw:Below w.heap.size w (w3.setCell ⟨w.heap.size+1+1,2,none⟩ (.slice (some ⟨g2,0,none⟩) n2 n2)):=bw.setCell (by simp;omega) _
 replace hsz:w.heap.size+1+1<(w3.setCell ⟨w.heap.size+1+1,2,none⟩ (.slice (some ⟨g2,0,none⟩) n2 n2)).heap.size:=by rw [World.size_setCell];exact hsz
 have cP3:(w3.setCell ⟨w.heap.size+1+1,2,none⟩ (.slice (some ⟨g2,0,none⟩) n2 n2)).cell? ⟨w.heap.size,3,none⟩=some (.slice a3 n3 c3):=by simpa using hP.cellAt 3 (by simp)
 go_wp2_with fail
 generalize (w3.setCell ⟨w.heap.size+1+1,2,none⟩ (.slice (some ⟨g2,0,none⟩) n2 n2))=W3 at *
 refine (toIntS_any a3 n3 c3 m3 _ (i3.below bw) l3).mono ?_
 rintro e w4 ⟨rfl,r3,hb⟩
 replace bw:=bel_trans bw hb
 replace hP:=owns_below hP hb
 replace hR:=owns_below hR hb
 replace hO:=owns_below hO hb
 have lt03:=(r0.lt g0 rfl).2
 replace r0:=owns_below r0 hb
 have lt13:=(r1.lt g1 rfl).2
 replace r1:=owns_below r1 hb
 have lt23:=(r2.lt g2 rfl).2
 replace r2:=owns_below r2 hb
 have hgs:=hb.size
 have hgO:w.heap.size+1+1<W3.heap.size:=hsz
 replace r3:=own_lower r3 (show w.heap.size≤W3.heap.size by omega)
 replace hsz:w.heap.size+1+1<w4.heap.size:=Nat.lt_of_lt_of_le hsz hgs
 clear hb hgs i3
 generalize hg3:W3.heap.size=g3 at *
 clear hg3
 have fO:=hO.frozenAt 3
 have cO:w4.cell? ⟨w.heap.size+1+1,3,none⟩=some (.slice none 0 0):=by simpa using hO.cellAt 3 (by simp)
 replace hP:(w4.setCell ⟨w.heap.size+1+1,3,none⟩ (.slice (some ⟨g3,0,none⟩) n3 n3)).ownsRow w.heap.size 49 4 (.slice (some ⟨w.heap.size,0,none⟩) 1 1) 1 [.slice a0 n0 c0,.slice a1 n1 c1,.slice a2 n2 c2,.slice a3 n3 c3]:=ownsRow_setCell_other hP (by simp [Value.ownBlock];omega) _
 replace hR:(w4.setCell ⟨w.heap.size+1+1,3,none⟩ (.slice (some ⟨g3,0,none⟩) n3 n3)).ownsRow w.heap.size 37 4 (.slice (some ⟨w.heap.size+1,0,none⟩) 1 1) 1 [.slice none 0 0,.slice none 0 0,.slice none 0 0,.slice none 0 0]:=ownsRow_setCell_other hR (by simp [Value.ownBlock]) _
 replace r0:(w4.setCell ⟨w.heap.size+1+1,3,none⟩ (.slice (some ⟨g3,0,none⟩) n3 n3)).ownsRow w.heap.size 3 1 (.slice (some ⟨g0,0,none⟩) n0 n0) n0 (m0.map (Value.int .i64)):=ownsRow_setCell_other r0 (off_block r0 hO (by decide)) _
 replace r1:(w4.setCell ⟨w.heap.size+1+1,3,none⟩ (.slice (some ⟨g3,0,none⟩) n3 n3)).ownsRow w.heap.size 3 1 (.slice (some ⟨g1,0,none⟩) n1 n1) n1 (m1.map (Value.int .i64)):=ownsRow_setCell_other r1 (off_block r1 hO (by decide)) _
 replace r2:(w4.setCell ⟨w.heap.size+1+1,3,none⟩ (.slice (some ⟨g3,0,none⟩) n3 n3)).ownsRow w.heap.size 3 1 (.slice (some ⟨g2,0,none⟩) n2 n2) n2 (m2.map (Value.int .i64)):=ownsRow_setCell_other r2 (off_block r2 hO (by decide)) _
 replace r3:(w4.setCell ⟨w.heap.size+1+1,3,none⟩ (.slice (some ⟨g3,0,none⟩) n3 n3)).ownsRow w.heap.size 3 1 (.slice (some ⟨g3,0,none⟩) n3 n3) n3 (m3.map (Value.int .i64)):=ownsRow_setCell_other r3 (off_block r3 hO (by decide)) _
 replace hO:=(hO.stored 3 (.slice (some ⟨g3,0,none⟩) n3 n3)).1
 simp only [List.set_cons_zero,List.set_cons_succ] at hO
 replace bw:Below w.heap.size w (w4.setCell ⟨w.heap.size+1+1,3,none⟩ (.slice (some ⟨g3,0,none⟩) n3 n3)):=bw.setCell (by simp;omega) _
 replace hsz:w.heap.size+1+1<(w4.setCell ⟨w.heap.size+1+1,3,none⟩ (.slice (some ⟨g3,0,none⟩) n3 n3)).heap.size:=by rw [World.size_setCell];exact hsz
 have q0:(w4.setCell ⟨w.heap.size+1+1,3,none⟩ (.slice (some ⟨g3,0,none⟩) n3 n3)).cell? ⟨w.heap.size+1+1,0,none⟩=some (.slice (some ⟨g0,0,none⟩) n0 n0):=by simpa using hO.cellAt 0 (by simp)
 have x0:(w4.setCell ⟨w.heap.size+1+1,3,none⟩ (.slice (some ⟨g3,0,none⟩) n3 n3)).cell? ⟨w.heap.size+1,0,none⟩=some (.slice none 0 0):=by simpa using hR.cellAt 0 (by simp)
 have f0:(w4.setCell ⟨w.heap.size+1+1,3,none⟩ (.slice (some ⟨g3,0,none⟩) n3 n3)).frozen? ⟨w.heap.size+1,0,none⟩=false:=hR.frozenAt 0
 have q1:(w4.setCell ⟨w.heap.size+1+1,3,none⟩ (.slice (some ⟨g3,0,none⟩) n3 n3)).cell? ⟨w.heap.size+1+1,1,none⟩=some (.slice (some ⟨g1,0,none⟩) n1 n1):=by simpa using hO.cellAt 1 (by simp)
 have x1:(w4.setCell ⟨w.heap.size+1+1,3,none⟩ (.slice (some ⟨g3,0,none⟩) n3 n3)).cell? ⟨w.heap.size+1,1,none⟩=some (.slice none 0 0):=by simpa using hR.cellAt 1 (by simp)
 have f1:(w4.setCell ⟨w.heap.size+1+1,3,none⟩ (.slice (some ⟨g3,0,none⟩) n3 n3)).frozen? ⟨w.heap.size+1,1,none⟩=false:=hR.frozenAt 1
 have q2:(w4.setCell ⟨w.heap.size+1+1,3,none⟩ (.slice (some ⟨g3,0,none⟩) n3 n3)).cell? ⟨w.heap.size+1+1,2,none⟩=some (.slice (some ⟨g2,0,none⟩) n2 n2):=by simpa using hO.cellAt 2 (by simp)
 have x2:(w4.setCell ⟨w.heap.size+1+1,3,none⟩ (.slice (some ⟨g3,0,none⟩) n3 n3)).cell? ⟨w.heap.size+1,2,none⟩=some (.slice none 0 0):=by simpa using hR.cellAt 2 (by simp)
 have f2:(w4.setCell ⟨w.heap.size+1+1,3,none⟩ (.slice (some ⟨g3,0,none⟩) n3 n3)).frozen? ⟨w.heap.size+1,2,none⟩=false:=hR.frozenAt 2
 have q3:(w4.setCell ⟨w.heap.size+1+1,3,none⟩ (.slice (some ⟨g3,0,none⟩) n3 n3)).cell? ⟨w.heap.size+1+1,3,none⟩=some (.slice (some ⟨g3,0,none⟩) n3 n3):=by simpa using hO.cellAt 3 (by simp)
 have x3:(w4.setCell ⟨w.heap.size+1+1,3,none⟩ (.slice (some ⟨g3,0,none⟩) n3 n3)).cell? ⟨w.heap.size+1,3,none⟩=some (.slice none 0 0):=by simpa using hR.cellAt 3 (by simp)
 have f3:(w4.setCell ⟨w.heap.size+1+1,3,none⟩ (.slice (some ⟨g3,0,none⟩) n3 n3)).frozen? ⟨w.heap.size+1,3,none⟩=false:=hR.frozenAt 3
 clear hO hP hsz
 have hR9:=((((hR.stored 0 (.slice (some ⟨g0,0,none⟩) n0 n0)).1.stored 1 (.slice (some ⟨g1,0,none⟩) n1 n1)).1.stored 2 (.slice (some ⟨g2,0,none⟩) n2 n2)).1.stored 3 (.slice (some ⟨g3,0,none⟩) n3 n3)).1
 have b9:=(((bw.setCell (p:=⟨w.heap.size+1,0,none⟩) (by simp) (.slice (some ⟨g0,0,none⟩) n0 n0)).setCell (p:=⟨w.heap.size+1,1,none⟩) (by simp) (.slice (some ⟨g1,0,none⟩) n1 n1)).setCell (p:=⟨w.heap.size+1,2,none⟩) (by simp) (.slice (some ⟨g2,0,none⟩) n2 n2)).setCell (p:=⟨w.heap.size+1,3,none⟩) (by simp) (.slice (some ⟨g3,0,none⟩) n3 n3)
 have s0:(((((w4.setCell ⟨w.heap.size+1+1,3,none⟩ (.slice (some ⟨g3,0,none⟩) n3 n3)).setCell ⟨w.heap.size+1,0,none⟩ (.slice (some ⟨g0,0,none⟩) n0 n0)).setCell ⟨w.heap.size+1,1,none⟩ (.slice (some ⟨g1,0,none⟩) n1 n1)).setCell ⟨w.heap.size+1,2,none⟩ (.slice (some ⟨g2,0,none⟩) n2 n2)).setCell ⟨w.heap.size+1,3,none⟩ (.slice (some ⟨g3,0,none⟩) n3 n3)).ownsRow w.heap.size 3 1 (.slice (some ⟨g0,0,none⟩) n0 n0) n0 (m0.map (Value.int .i64)):=ownsRow_setCell_other (ownsRow_setCell_other (ownsRow_setCell_other (ownsRow_setCell_other r0 (off_block r0 hR (by decide)) _) (off_block r0 hR (by decide)) _) (off_block r0 hR (by decide)) _) (off_block r0 hR (by decide)) _
 have s1:(((((w4.setCell ⟨w.heap.size+1+1,3,none⟩ (.slice (some ⟨g3,0,none⟩) n3 n3)).setCell ⟨w.heap.size+1,0,none⟩ (.slice (some ⟨g0,0,none⟩) n0 n0)).setCell ⟨w.heap.size+1,1,none⟩ (.slice (some ⟨g1,0,none⟩) n1 n1)).setCell ⟨w.heap.size+1,2,none⟩ (.slice (some ⟨g2,0,none⟩) n2 n2)).setCell ⟨w.heap.size+1,3,none⟩ (.slice (some ⟨g3,0,none⟩) n3 n3)).ownsRow w.heap.size 3 1 (.slice (some ⟨g1,0,none⟩) n1 n1) n1 (m1.map (Value.int .i64)):=ownsRow_setCell_other (ownsRow_setCell_other (ownsRow_setCell_other (ownsRow_setCell_other r1 (off_block r1 hR (by decide)) _) (off_block r1 hR (by decide)) _) (off_block r1 hR (by decide)) _) (off_block r1 hR (by decide)) _
 have s2:(((((w4.setCell ⟨w.heap.size+1+1,3,none⟩ (.slice (some ⟨g3,0,none⟩) n3 n3)).setCell ⟨w.heap.size+1,0,none⟩ (.slice (some ⟨g0,0,none⟩) n0 n0)).setCell ⟨w.heap.size+1,1,none⟩ (.slice (some ⟨g1,0,none⟩) n1 n1)).setCell ⟨w.heap.size+1,2,none⟩ (.slice (some ⟨g2,0,none⟩) n2 n2)).setCell ⟨w.heap.size+1,3,none⟩ (.slice (some ⟨g3,0,none⟩) n3 n3)).ownsRow w.heap.size 3 1 (.slice (some ⟨g2,0,none⟩) n2 n2) n2 (m2.map (Value.int .i64)):=ownsRow_setCell_other (ownsRow_setCell_other (ownsRow_setCell_other (ownsRow_setCell_other r2 (off_block r2 hR (by decide)) _) (off_block r2 hR (by decide)) _) (off_block r2 hR (by decide)) _) (off_block r2 hR (by decide)) _
 have s3:(((((w4.setCell ⟨w.heap.size+1+1,3,none⟩ (.slice (some ⟨g3,0,none⟩) n3 n3)).setCell ⟨w.heap.size+1,0,none⟩ (.slice (some ⟨g0,0,none⟩) n0 n0)).setCell ⟨w.heap.size+1,1,none⟩ (.slice (some ⟨g1,0,none⟩) n1 n1)).setCell ⟨w.heap.size+1,2,none⟩ (.slice (some ⟨g2,0,none⟩) n2 n2)).setCell ⟨w.heap.size+1,3,none⟩ (.slice (some ⟨g3,0,none⟩) n3 n3)).ownsRow w.heap.size 3 1 (.slice (some ⟨g3,0,none⟩) n3 n3) n3 (m3.map (Value.int .i64)):=ownsRow_setCell_other (ownsRow_setCell_other (ownsRow_setCell_other (ownsRow_setCell_other r3 (off_block r3 hR (by decide)) _) (off_block r3 hR (by decide)) _) (off_block r3 hR (by decide)) _) (off_block r3 hR (by decide)) _
 clear hR r0 r1 r2 r3 bw
 go_wp2
 clear q0 q1 q2 q3 x0 x1 x2 x3 f0 f1 f2 f3 fO cO
 generalize (((((w4.setCell ⟨w.heap.size+1+1,3,none⟩ (.slice (some ⟨g3,0,none⟩) n3 n3)).setCell ⟨w.heap.size+1,0,none⟩ (.slice (some ⟨g0,0,none⟩) n0 n0)).setCell ⟨w.heap.size+1,1,none⟩ (.slice (some ⟨g1,0,none⟩) n1 n1)).setCell ⟨w.heap.size+1,2,none⟩ (.slice (some ⟨g2,0,none⟩) n2 n2)).setCell ⟨w.heap.size+1,3,none⟩ (.slice (some ⟨g3,0,none⟩) n3 n3))=w9 at hR9 b9 s0 s1 s2 s3
 have k0:w9.cell? ⟨w.heap.size+1,0,none⟩=some (.slice (some ⟨g0,0,none⟩) n0 n0):=by simpa using hR9.cellAt 0 (by simp)
 have k1:w9.cell? ⟨w.heap.size+1,1,none⟩=some (.slice (some ⟨g1,0,none⟩) n1 n1):=by simpa using hR9.cellAt 1 (by simp)
 have k2:w9.cell? ⟨w.heap.size+1,2,none⟩=some (.slice (some ⟨g2,0,none⟩) n2 n2):=by simpa using hR9.cellAt 2 (by simp)
 have k3:w9.cell? ⟨w.heap.size+1,3,none⟩=some (.slice (some ⟨g3,0,none⟩) n3 n3):=by simpa using hR9.cellAt 3 (by simp)
 refine bodyPost_ret (by simp [results,Tryz.results21,go_sem,k0,k1,k2,k3];try rfl) rfl ?_
 have ap:∀ {g g' n n':Nat},g<g'→Apart (some ⟨g,0,none⟩,n,n) (some ⟨g',0,none⟩,n',n'):=fun hlt x hx h=>by simp [Value.ownBlock] at hx h;omega
 exact ⟨⟨((some ⟨g0,0,none⟩,n0,n0),(some ⟨g1,0,none⟩,n1,n1),(some ⟨g2,0,none⟩,n2,n2),(some ⟨g3,0,none⟩,n3,n3)),rfl,⟨s0,s1,s2,s3⟩,ap lt01,ap lt02,ap lt03,ap lt12,ap lt13,ap lt23⟩,b9⟩


def inB (n a b:Int):Bool:=decide (a≤n∧n≤b)

theorem inB_true {n a b:Int}:inB n a b=true↔a≤n∧n≤b:=by simp [inB]
theorem inB_false {n a b:Int}:inB n a b=false↔¬ (a≤n∧n≤b):=by simp only [inB,decide_eq_false_iff_not]

theorem meth_register (v:Value) (w:World):(Go.method 371 250 v "loop.example/g00632/impl.right").run Tryz.prog w=.ok (207,v) w:=by kernel_rfl

set_option maxHeartbeats 1000000 in
theorem right_register (n:Int) (w:World):Calls Tryz.prog 207 #[.int .i64 n] w fun e w'=>e=.returned (.bool (inB n 0 1))∧w=w':=by
 cases h:inB n 0 1
 ·rw [inB_false] at h
  by_cases h1:0≤n
  ·have h2:decide (n<2)=false:=by simp;omega
   clear h
   go_enter Tryz.func207,Tryz.ntmps207
   go_wp2
   go_ret
   exact ⟨rfl,rfl⟩
  ·clear h
   go_enter Tryz.func207,Tryz.ntmps207
   go_wp2
   go_ret
   exact ⟨rfl,rfl⟩
 ·rw [inB_true] at h
  obtain ⟨h1,h3⟩:=h
  have h2:decide (n<2)=true:=by simp;omega
  clear h3
  go_enter Tryz.func207,Tryz.ntmps207
  go_wp2
  go_ret
  exact ⟨by simp_all,rfl⟩

theorem meth_shared (v:Value) (w:World):(Go.method 371 251 v "loop.example/g00632/impl.right").run Tryz.prog w=.ok (208,v) w:=by kernel_rfl

set_option maxHeartbeats 1000000 in
theorem right_shared (n:Int) (w:World):Calls Tryz.prog 208 #[.int .i64 n] w fun e w'=>e=.returned (.bool (inB n 0 3))∧w=w':=by
 cases h:inB n 0 3
 ·rw [inB_false] at h
  by_cases h1:0≤n
  ·have h2:decide (n<4)=false:=by simp;omega
   clear h
   go_enter Tryz.func208,Tryz.ntmps208
   go_wp2
   go_ret
   exact ⟨rfl,rfl⟩
  ·clear h
   go_enter Tryz.func208,Tryz.ntmps208
   go_wp2
   go_ret
   exact ⟨rfl,rfl⟩
 ·rw [inB_true] at h
  obtain ⟨h1,h3⟩:=h
  have h2:decide (n<4)=true:=by simp;omega
  clear h3
  go_enter Tryz.func208,Tryz.ntmps208
  go_wp2
  go_ret
  exact ⟨by simp_all,rfl⟩

theorem meth_lock (v:Value) (w:World):(Go.method 371 253 v "loop.example/g00632/impl.right").run Tryz.prog w=.ok (210,v) w:=by kernel_rfl

set_option maxHeartbeats 1000000 in
theorem right_lock (n:Int) (w:World):Calls Tryz.prog 210 #[.int .i64 n] w fun e w'=>e=.returned (.bool (inB n 0 1))∧w=w':=by
 cases h:inB n 0 1
 ·rw [inB_false] at h
  by_cases h1:0≤n
  ·have h2:decide (n<2)=false:=by simp;omega
   clear h
   go_enter Tryz.func210,Tryz.ntmps210
   go_wp2
   go_ret
   exact ⟨rfl,rfl⟩
  ·clear h
   go_enter Tryz.func210,Tryz.ntmps210
   go_wp2
   go_ret
   exact ⟨rfl,rfl⟩
 ·rw [inB_true] at h
  obtain ⟨h1,h3⟩:=h
  have h2:decide (n<2)=true:=by simp;omega
  clear h3
  go_enter Tryz.func210,Tryz.ntmps210
  go_wp2
  go_ret
  exact ⟨by simp_all,rfl⟩

theorem meth_value (v:Value) (w:World):(Go.method 371 252 v "loop.example/g00632/impl.right").run Tryz.prog w=.ok (209,v) w:=by kernel_rfl

set_option maxHeartbeats 1000000 in
theorem right_value (n:Int) (w:World):Calls Tryz.prog 209 #[.int .i64 n] w fun e w'=>e=.returned (.bool (inB n 0 9))∧w=w':=by
 cases h:inB n 0 9
 ·rw [inB_false] at h
  by_cases h1:0≤n
  ·have h2:decide (n≤9)=false:=by simp;omega
   clear h
   go_enter Tryz.func209,Tryz.ntmps209
   go_wp2
   go_ret
   exact ⟨rfl,rfl⟩
  ·clear h
   go_enter Tryz.func209,Tryz.ntmps209
   go_wp2
   go_ret
   exact ⟨rfl,rfl⟩
 ·rw [inB_true] at h
  obtain ⟨h1,h3⟩:=h
  have h2:decide (n≤9)=true:=by simp;omega
  clear h3
  go_enter Tryz.func209,Tryz.ntmps209
  go_wp2
  go_ret
  exact ⟨by simp_all,rfl⟩

theorem meth_target (v:Value) (w:World):(Go.method 371 244 v "loop.example/g00632/impl.right").run Tryz.prog w=.ok (206,v) w:=by kernel_rfl

set_option maxHeartbeats 1000000 in
theorem right_target (n:Int) (w:World):Calls Tryz.prog 206 #[.int .i64 n] w fun e w'=>e=.returned (.bool (inB n 1 6))∧w=w':=by
 cases h:inB n 1 6
 ·rw [inB_false] at h
  by_cases h1:1≤n
  ·have h2:decide (n≤6)=false:=by simp;omega
   clear h
   go_enter Tryz.func206,Tryz.ntmps206
   go_wp2
   go_ret
   exact ⟨rfl,rfl⟩
  ·clear h
   go_enter Tryz.func206,Tryz.ntmps206
   go_wp2
   go_ret
   exact ⟨rfl,rfl⟩
 ·rw [inB_true] at h
  obtain ⟨h1,h3⟩:=h
  have h2:decide (n≤6)=true:=by simp;omega
  clear h3
  go_enter Tryz.func206,Tryz.ntmps206
  go_wp2
  go_ret
  exact ⟨by simp_all,rfl⟩

theorem meth_no (v:Value) (w:World):(Go.method 371 254 v "loop.example/g00632/impl.right").run Tryz.prog w=.ok (211,v) w:=by kernel_rfl

set_option maxHeartbeats 1000000 in
theorem right_no (n:Int) (w:World):Calls Tryz.prog 211 #[.int .i64 n] w fun e w'=>e=.returned (.bool (inB n 0 0))∧w=w':=by
 go_enter Tryz.func211,Tryz.ntmps211
 go_wp2
 go_ret
 refine ⟨?_,rfl⟩
 cases h:inB n 0 0
 ·rw [inB_false] at h
  have h2:(n == 0)=false:=by simp;omega
  simp [h2]
 ·rw [inB_true] at h
  have h2:(n == 0)=true:=by simp;omega
  simp [h2]

end Go.Proofs.YtojcgajjnmjjpaaGreatDoor
