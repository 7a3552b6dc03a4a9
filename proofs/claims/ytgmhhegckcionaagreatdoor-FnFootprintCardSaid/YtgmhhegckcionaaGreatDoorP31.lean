/-
  Joined: EsO, EntD, RqE, StsS.
-/
import Derived.Test.YtgmhhegckcionaaGreatDoorP10
import Derived.Test.YtgmhhegckcionaaGreatDoorP30

namespace Go.Proofs.YtgmhhegckcionaaGreatDoor
set_option maxRecDepth 100000
set_option maxHeartbeats 16000000
open Go.RowKit
set_option linter.unusedVariables false
set_option linter.unusedSimpArgs false

def EntGot (x:Ending) (w':World) (B:Nat) (e:E3):Prop:=∃ s:Sl2,x=.returned (entV e.1 s)∧OwnE w' B (.slice s.1.1 s.1.2.1 s.1.2.2) (.slice s.2.1 s.2.2.1 s.2.2.2) e
theorem EntGot.mk9 {w':World} {B:Nat} {e:E3} (s:Sl2) (h:OwnE w' B (.slice s.1.1 s.1.2.1 s.1.2.2) (.slice s.2.1 s.2.2.1 s.2.2.2) e):EntGot (.returned (entV e.1 s)) w' B e:=⟨s,rfl,h⟩
theorem nil_of0 {n c m:Nat} {a:Option Addr} {P:Prop} (hz:a=none→c=0) (h:n≤c):a=none→n=0∧c=0:=fun ha=>⟨by have:=hz ha;omega,hz ha⟩

theorem l10OwnEntry_is (e:E3) (s:Sl2) (w:World) (h:Emem w s e) (h1:e.2.1.length≤1048576) (h2:e.2.2.length≤1048576) :
  Calls Tryz.prog 67 #[entV e.1 s] w fun x w'=>EntGot x w' w.heap.size e∧Below w.heap.size w w':=by
 obtain ⟨i0,hi0,hz00,hz01,hz02⟩:=info_parts info_bug
 obtain ⟨i1,hi1,hz10,hz11,hz12⟩:=info_parts info_int
 obtain ⟨⟨_,z1,z2⟩,hB,hF,_⟩:=h
 have l1:=hB.1
 have l2:=hF.1
 have hb1:=hB.2.1
 have hb2:=hF.2.1
 obtain ⟨ek,eb,ez⟩:=e
 obtain ⟨⟨a1,n1,c1⟩,⟨a2,n2,c2⟩⟩:=s
 unfold entV
 simp only at z1 z2 hB hF l1 l2 h1 h2 hb1 hb2 ⊢
 have hm1:n1≤1048576:=by omega
 have hm2:n2≤1048576:=by omega
 subst l1
 subst l2
 have no1:=nil_of0 (m:=0) (P:=True) z1 hb1
 have no2:=nil_of0 (m:=0) (P:=True) z2 hb2
 have bw:Below w.heap.size w ((w.alloc (.cells #[.string ek,.slice a1 eb.length c1,.slice a2 ez.length c2] 45)).alloc (.cells #[.string ⟨#[]⟩,.slice none 0 0,.slice none 0 0] 45)):=by go_grown
 have pX:Blk ((w.alloc (.cells #[.string ek,.slice a1 eb.length c1,.slice a2 ez.length c2] 45)).alloc (.cells #[.string ⟨#[]⟩,.slice none 0 0,.slice none 0 0] 45)) w.heap.size 45 [.string ek,.slice a1 eb.length c1,.slice a2 ez.length c2]:=blkOld _ (blkAt _ _ _ rfl)
 have pR:Blk ((w.alloc (.cells #[.string ek,.slice a1 eb.length c1,.slice a2 ez.length c2] 45)).alloc (.cells #[.string ⟨#[]⟩,.slice none 0 0,.slice none 0 0] 45)) (w.heap.size+1) 45 [.string ⟨#[]⟩,.slice none 0 0,.slice none 0 0]:=blkAt _ _ _ (by simp)
 go_enter Tryz.func67,Tryz.ntmps67
 have hV:=pR.lt
 have be:Below ((w.alloc (.cells #[.string ek,.slice a1 eb.length c1,.slice a2 ez.length c2] 45)).alloc (.cells #[.string ⟨#[]⟩,.slice none 0 0,.slice none 0 0] 45)).heap.size ((w.alloc (.cells #[.string ek,.slice a1 eb.length c1,.slice a2 ez.length c2] 45)).alloc (.cells #[.string ⟨#[]⟩,.slice none 0 0,.slice none 0 0] 45)) (((w.alloc (.cells #[.string ek,.slice a1 eb.length c1,.slice a2 ez.length c2] 45)).alloc (.cells #[.string ⟨#[]⟩,.slice none 0 0,.slice none 0 0] 45)).alloc (.cells #[] 103)):=by go_grown
 have qe:(((w.alloc (.cells #[.string ek,.slice a1 eb.length c1,.slice a2 ez.length c2] 45)).alloc (.cells #[.string ⟨#[]⟩,.slice none 0 0,.slice none 0 0] 45)).alloc (.cells #[] 103)).ownsRow (w.heap.size+2) 103 3 (.slice (some ⟨w.heap.size+1+1,0,none⟩) 0 0) 0 []:=by
  have h9:=empty8 ((w.alloc (.cells #[.string ek,.slice a1 eb.length c1,.slice a2 ez.length c2] 45)).alloc (.cells #[.string ⟨#[]⟩,.slice none 0 0,.slice none 0 0] 45)) 103 3 (w.heap.size+2) (by omega)
  simpa using h9
 have bE:=bel8 bw be
 have xE:=pX.below be
 have rE:=pR.below be
 have yE:=xE.cell 1
 have hsE:w.heap.size+2≤(((w.alloc (.cells #[.string ek,.slice a1 eb.length c1,.slice a2 ez.length c2] 45)).alloc (.cells #[.string ⟨#[]⟩,.slice none 0 0,.slice none 0 0] 45)).alloc (.cells #[] 103)).heap.size:=by have:=be.size;omega
 simp only [List.getElem?_cons_zero,List.getElem?_cons_succ] at yE
 clear be hV
 go_wp2_with (at_builtin;refine wpList_app9 rfl _ _ 28 rfl (w.heap.size+2) 103 i0 (.agg #[.int .i64 0,.int .i64 0,.int .i64 0]) 3 24 Tryz.underlying28 hi0 hz00 hz01 hz02 rfl (by decide) _ _ _ rfl qe a1 eb.length c1 rfl no1 (flat eb) (by rw [flat_length]) (fun ad ha=>by subst ha;exact newsB9 (hB.below bE)) (flat_one eb) (by unfold maxLen;omega) (by omega) hsE ?_)
 intro v9 V0 hown hgrow _
 have hgB:∀ g,(Value.slice (some ⟨w.heap.size+1+1,0,none⟩) 0 0).ownBlock=some g→w.heap.size+2≤g:=fun g hg=>(qe.lt g hg).1
 replace bE:=bE.grown hgrow (by omega) (fun g hg=>by have:=hgB g hg;omega)
 replace xE:=xE.kept hgrow (fun e9=>by have:=hgB _ e9;omega)
 replace rE:=rE.kept hgrow (fun e9=>by have:=hgB _ e9;omega)
 have qN:V0.ownsRow (w.heap.size+2) 103 3 v9 eb.length (flat eb):=by simpa using hown
 obtain ⟨va0,vc0,rfl⟩:=slice8 qN
 clear hown hgrow hgB qe yE hsE
 have yz:=xE.cell 1
 have fz:=xE.frozen 1
 simp only [List.getElem?_cons_zero,List.getElem?_cons_succ] at yz
 clear bw pX pR 
 have bw:=bE.setCell (p:=⟨w.heap.size,1,none⟩) (Nat.le_refl _) (.slice va0 eb.length vc0)
 have pR:=rE.off ⟨w.heap.size,1,none⟩ (.slice va0 eb.length vc0) (by simp)
 have pX:=xE.set 1 (.slice va0 eb.length vc0)
 simp only [List.set_cons_zero,List.set_cons_succ] at pX
 have qB:=ownsRow_setCell_below qN (a:=⟨w.heap.size,1,none⟩) (show w.heap.size<w.heap.size+2 by omega) (.slice va0 eb.length vc0)
 clear bE xE rE qN 
 have hV:=pR.lt
 have be:Below (V0.setCell ⟨w.heap.size,1,none⟩ (.slice va0 eb.length vc0)).heap.size (V0.setCell ⟨w.heap.size,1,none⟩ (.slice va0 eb.length vc0)) ((V0.setCell ⟨w.heap.size,1,none⟩ (.slice va0 eb.length vc0)).alloc (.cells #[] 3)):=by go_grown
 have qe:((V0.setCell ⟨w.heap.size,1,none⟩ (.slice va0 eb.length vc0)).alloc (.cells #[] 3)).ownsRow (w.heap.size+2) 3 1 (.slice (some ⟨V0.heap.size,0,none⟩) 0 0) 0 []:=by
  have h9:=empty8 (V0.setCell ⟨w.heap.size,1,none⟩ (.slice va0 eb.length vc0)) 3 1 (w.heap.size+2) (by omega)
  simpa using h9
 have bE:=bel8 bw be
 have xE:=pX.below be
 have rE:=pR.below be
 have bqE:=owns8 qB be
 have yE:=xE.cell 2
 have hsE:w.heap.size+2≤((V0.setCell ⟨w.heap.size,1,none⟩ (.slice va0 eb.length vc0)).alloc (.cells #[] 3)).heap.size:=by have:=be.size;omega
 simp only [List.getElem?_cons_zero,List.getElem?_cons_succ] at yE
 clear be hV
 go_wp2_with (at_builtin;refine wpList_app9 rfl _ _ 36 rfl (w.heap.size+2) 3 i1 (.int .i64 0) 1 8 Tryz.underlying36 hi1 hz10 hz11 hz12 rfl (by decide) _ _ _ rfl qe a2 ez.length c2 rfl no2 (ez.map (Value.int .i64)) (by rw [List.length_map,Nat.mul_one]) (fun ad ha=>by subst ha;exact newsI9 (hF.below bE)) (one8 ez) (by unfold maxLen;omega) (by omega) hsE ?_)
 intro v9 V1 hown hgrow _
 have hgB:∀ g,(Value.slice (some ⟨V0.heap.size,0,none⟩) 0 0).ownBlock=some g→w.heap.size+2≤g:=fun g hg=>(qe.lt g hg).1
 replace bE:=bE.grown hgrow (by omega) (fun g hg=>by have:=hgB g hg;omega)
 replace xE:=xE.kept hgrow (fun e9=>by have:=hgB _ e9;omega)
 replace rE:=rE.kept hgrow (fun e9=>by have:=hgB _ e9;omega)
 replace bqE:=bqE.kept hgrow (owns_ne bqE qe (by decide))
 have qN:V1.ownsRow (w.heap.size+2) 3 1 v9 ez.length (ez.map (Value.int .i64)):=by simpa using hown
 obtain ⟨va1,vc1,rfl⟩:=slice8 qN
 clear hown hgrow hgB qe yE hsE
 have yz:=xE.cell 2
 have fz:=xE.frozen 2
 simp only [List.getElem?_cons_zero,List.getElem?_cons_succ] at yz
 clear bw pX pR qB
 have bw:=bE.setCell (p:=⟨w.heap.size,2,none⟩) (Nat.le_refl _) (.slice va1 ez.length vc1)
 have pR:=rE.off ⟨w.heap.size,2,none⟩ (.slice va1 ez.length vc1) (by simp)
 have pX:=xE.set 2 (.slice va1 ez.length vc1)
 simp only [List.set_cons_zero,List.set_cons_succ] at pX
 have qF:=ownsRow_setCell_below qN (a:=⟨w.heap.size,2,none⟩) (show w.heap.size<w.heap.size+2 by omega) (.slice va1 ez.length vc1)
 have qB:=ownsRow_setCell_below bqE (a:=⟨w.heap.size,2,none⟩) (show w.heap.size<w.heap.size+2 by omega) (.slice va1 ez.length vc1)
 clear bE xE rE qN bqE
 have o0:=pX.cell 0
 have o1:=pX.cell 1
 have o2:=pX.cell 2
 have r0:=pR.cell 0
 have r1:=pR.cell 1
 have r2:=pR.cell 2
 have fr0:=pR.frozen 0
 have fr1:=pR.frozen 1
 have fr2:=pR.frozen 2
 simp only [List.getElem?_cons_zero,List.getElem?_cons_succ] at o0 o1 o2 r0 r1 r2
 have pZ:=((pR.set 0 (.string ek)).set 1 (.slice va0 eb.length vc0)).set 2 (.slice va1 ez.length vc1)
 simp only [List.set_cons_zero,List.set_cons_succ] at pZ
 have z0:=pZ.cell 0
 have zz1:=pZ.cell 1
 have zz2:=pZ.cell 2
 simp only [List.getElem?_cons_zero,List.getElem?_cons_succ] at z0 zz1 zz2
 have hle:w.heap.size≤w.heap.size+1:=by omega
 have hlt9:w.heap.size+1<w.heap.size+2:=by omega
 have bz:=((bw.setCell (p:=⟨w.heap.size+1,0,none⟩) hle (.string ek)).setCell (p:=⟨w.heap.size+1,1,none⟩) hle (.slice va0 eb.length vc0)).setCell (p:=⟨w.heap.size+1,2,none⟩) hle (.slice va1 ez.length vc1)
 replace qB:=ownsRow_setCell_below (ownsRow_setCell_below (ownsRow_setCell_below qB (a:=⟨w.heap.size+1,0,none⟩) hlt9 (.string ek)) (a:=⟨w.heap.size+1,1,none⟩) hlt9 (.slice va0 eb.length vc0)) (a:=⟨w.heap.size+1,2,none⟩) hlt9 (.slice va1 ez.length vc1)
 replace qF:=ownsRow_setCell_below (ownsRow_setCell_below (ownsRow_setCell_below qF (a:=⟨w.heap.size+1,0,none⟩) hlt9 (.string ek)) (a:=⟨w.heap.size+1,1,none⟩) hlt9 (.slice va0 eb.length vc0)) (a:=⟨w.heap.size+1,2,none⟩) hlt9 (.slice va1 ez.length vc1)
 have qB9:=lower8 qB (show w.heap.size≤w.heap.size+2 by omega)
 have qF9:=lower8 qF (show w.heap.size≤w.heap.size+2 by omega)
 clear pR pZ pX bw qB qF
 go_wp2
 refine bodyPost_ret (by simp [results,Tryz.results67,go_sem,z0,zz1,zz2];try rfl) rfl ?_
 exact ⟨EntGot.mk9 (e:=(ek,eb,ez)) ((va0,eb.length,vc0),(va1,ez.length,vc1)) ⟨qB9,qF9⟩,bz⟩


theorem rise_of9 {xs:List I3} (h1:∀ x ∈ xs,okB x=true) (h2:Rises xs):riseB xs=true:=by
 refine allR_true fun k hk=>?_
 have g:∀ i (hi:i<xs.length),xs.getD i (0,0,0)=xs[i]:=fun i hi=>by simp [List.getD,List.getElem?_eq_getElem hi]
 simp only [bStep,Bool.and_eq_true,Bool.or_eq_true,decide_eq_true_eq]
 refine ⟨by rw [g k hk];exact h1 _ (List.getElem_mem _),?_⟩
 by_cases h0:k=0
 ·exact .inl h0
 ·right
  rw [g k hk,g (k - 1) (by omega)]
  exact List.pairwise_iff_getElem.1 h2 (k - 1) k (by omega) hk (by omega)
theorem riseI_of9 {xs:List Int} (h1:∀ x ∈ xs,itOk x=true) (h2:xs.Pairwise (· < ·)):riseI xs=true:=by
 refine allR_true fun k hk=>?_
 have g:∀ i (hi:i<xs.length),xs.getD i 0=xs[i]:=fun i hi=>by simp [List.getD,List.getElem?_eq_getElem hi]
 simp only [iStep,Bool.and_eq_true,Bool.or_eq_true,decide_eq_true_eq]
 refine ⟨by rw [g k hk];exact h1 _ (List.getElem_mem _),?_⟩
 by_cases h0:k=0
 ·exact .inl h0
 ·right
  rw [g k hk,g (k - 1) (by omega)]
  exact List.pairwise_iff_getElem.1 h2 (k - 1) k (by omega) hk (by omega)

namespace Rq
open Go.RowKit
set_option linter.unusedVariables false
set_option linter.unusedSimpArgs false

def MachAt (w:World) (g:Nat) (cs:Sl × Sl × Sl) (rows:List (List I3)) (m:V4):Prop:=
 (∃ kv fv bv mv:Value,Blk w g 101 (kv::(machCells cs.1.val cs.2.1.val cs.2.2.val m++[fv,bv,mv])))∧∀ k,k<3→Instrs w (slK cs k).1 (slK cs k).2.1 (slK cs k).2.2 (codeM rows k)
theorem MachAt.below {w w':World} {g:Nat} {cs:Sl × Sl × Sl} {rows:List (List I3)} {m:V4} (h:MachAt w g cs rows m) (hb:Below w.heap.size w w'):MachAt w' g cs rows m:=by
 obtain ⟨⟨kv,fv,bv,mv,h1⟩,h2⟩:=h
 exact ⟨⟨kv,fv,bv,mv,h1.below hb⟩,fun k hk=>(h2 k hk).below hb⟩
theorem MachAt.at18 {w:World} {g:Nat} {cs:Sl × Sl × Sl} {rows:List (List I3)} {m:V4} (h:MachAt w g cs rows m) {i:Nat} (hi:i<18):w.cell? ⟨g,1+i,none⟩=(machCells cs.1.val cs.2.1.val cs.2.2.val m)[i]?:=by
 obtain ⟨⟨kv,fv,bv,mv,h1⟩,_⟩:=h
 rw [h1.cell,Nat.add_comm 1 i,List.getElem?_cons_succ,List.getElem?_append_left (show i<(machCells cs.1.val cs.2.1.val cs.2.2.val m).length from hi)]
theorem MachAt.held {w:World} {g:Nat} {cs:Sl × Sl × Sl} {rows:List (List I3)} {m:V4} (h:MachAt w g cs rows m) {a:Nat} (ha:a<2):w.cell? ⟨g,17+a,none⟩=some (.int .i64 (m.2.2.1.getD a 0)):=by
 rw [show 17+a=1+(16+a) by omega,h.at18 (by omega),mc_held _ _ _ _ ha]
end Rq


theorem Off3.blk {wi w:World} {v1 v2 v3 u1 u2 u3:Value} {B g t:Nat} {ts:List ByteArray} {fs bs:List Int} {cs:List Value} (h:Off3 wi w v1 v2 v3 u1 u2 u3) (p:Blk wi g t cs) (hT:Tri wi B v1 v2 v3 ts fs bs) (h1:9≠t) (h2:3≠t):Blk w g t cs:=
 (h.keep g p.lt (own_ne_blk hT.ks p h1) (own_ne_blk hT.fr p h2) (own_ne_blk hT.bw p h2)).trans p
end Go.Proofs.YtgmhhegckcionaaGreatDoor
