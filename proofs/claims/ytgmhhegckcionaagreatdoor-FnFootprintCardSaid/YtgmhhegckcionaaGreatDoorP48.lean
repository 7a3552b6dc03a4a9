/-
  Joined: CfrI, EtiI, VerA, VerC.
-/
import Derived.Test.YtgmhhegckcionaaGreatDoorP47

namespace Go.Proofs.YtgmhhegckcionaaGreatDoor
set_option maxRecDepth 100000
set_option maxHeartbeats 16000000
open Go.RowKit
set_option linter.unusedVariables false
set_option linter.unusedSimpArgs false

theorem implCheckAgain_is (a:Option Addr) (len cap:Nat) (rows:List (List I3)) (am:Option Addr) (n c:Nat) (L:List EQ) (w:World) (hC:Codes w a len cap rows) (hA:EntQ w am n c L) (hgd:∀ x ∈ L,GoodS x.2.1.1 x.2.1.2.2) (hV:VmShape w) :
  Calls Tryz.prog 20 #[.agg #[.slice a len cap],.agg #[.slice am n c]] w fun x w'=>ChkOutT x w' w.heap.size (agB rows (L.map (·.1))) (agN rows (L.map (·.1))) (agE rows (L.map (·.1))) (agC rows (L.map (·.1)))∧Below w.heap.size w w':=by
 cases hp:progOk rows
 ·obtain ⟨e1,e2,e3,e4⟩:=ag_not (rows:=rows) (es:=L.map (·.1)) (fun h=>by rw [h.1] at hp;cases hp)
  rw [e1,e2,e3,e4]
  exact implCheckAgain_bad a len cap rows am n c w hC hV hp
 ·exact implCheckAgain_ok a len cap rows am n c L w hC hA hgd hV hp
theorem ag_fre (rows:List (List I3)):agB rows []=freB rows∧agN rows []=freN rows∧agE rows []=freE rows∧agC rows []=freC rows:=by
 have hC:agC rows []=freC rows:=by
  unfold agC freC agR freR
  by_cases h:progOk rows=true
  ·rw [if_pos ⟨h,rfl⟩,if_pos h]
  ·rw [if_neg (fun h9=>h h9.1),if_neg h]
 unfold agB agN agE freB freN freE
 rw [hC]
 exact ⟨rfl,rfl,rfl,rfl⟩
theorem implCheckFresh_is (a:Option Addr) (len cap:Nat) (rows:List (List I3)) (w:World) (hC:Codes w a len cap rows) (hV:VmShape w) :
  Calls Tryz.prog 8 #[.agg #[.slice a len cap]] w fun x w'=>ChkOutT x w' w.heap.size (freB rows) (freN rows) (freE rows) (freC rows)∧Below w.heap.size w w':=by
 have kA:=fun W (hb:Below w.heap.size w W)=>implCheckAgain_is a len cap rows none 0 0 [] W (hC.below hb) (entQ_nil11 W) (fun x hx=>by cases hx) (hV.below hb)
 obtain ⟨e1,e2,e3,e4⟩:=ag_fre rows
 simp only [List.map_nil,e1,e2,e3,e4] at kA
 clear e1 e2 e3 e4
 generalize freB rows=bz at *
 generalize freN rows=nz at *
 generalize freE rows=ez at *
 generalize freC rows=cz at *
 have bw:Below w.heap.size w (((w.alloc (.cells #[.slice a len cap] 25)).alloc (.cells #[.slice none 0 0,.int .i64 0] 30)).alloc (.cells #[.slice none 0 0] 33)):=by go_grown
 have pP:Blk (((w.alloc (.cells #[.slice a len cap] 25)).alloc (.cells #[.slice none 0 0,.int .i64 0] 30)).alloc (.cells #[.slice none 0 0] 33)) w.heap.size 25 [.slice a len cap]:=blkOld _ (blkOld _ (blkAt _ _ _ rfl))
 have pR:Blk (((w.alloc (.cells #[.slice a len cap] 25)).alloc (.cells #[.slice none 0 0,.int .i64 0] 30)).alloc (.cells #[.slice none 0 0] 33)) (w.heap.size+1) 30 [.slice none 0 0,.int .i64 0]:=blkOld _ (blkAt _ _ _ (by simp))
 have pT:Blk (((w.alloc (.cells #[.slice a len cap] 25)).alloc (.cells #[.slice none 0 0,.int .i64 0] 30)).alloc (.cells #[.slice none 0 0] 33)) (w.heap.size+1+1) 33 [.slice none 0 0]:=blkAt _ _ _ (by simp)
 go_enter Tryz.func8,Tryz.ntmps8
 go_wp2_with fail
 generalize (((w.alloc (.cells #[.slice a len cap] 25)).alloc (.cells #[.slice none 0 0,.int .i64 0] 30)).alloc (.cells #[.slice none 0 0] 33))=U at *
 obtain ⟨XT,hXT⟩:∃ XT,XT=w.heap.size+1+1:=⟨_,rfl⟩
 obtain ⟨XR,hXR⟩:∃ XR,XR=w.heap.size+1:=⟨_,rfl⟩
 rw [← hXT] at pT ⊢
 rw [← hXR] at pR ⊢
 have hXRw:w.heap.size<XR:=by omega
 have hXTw:XR<XT:=by omega
 clear hXR hXT
 have kx:=kA U bw
 have c0:=pP.cell 0
 simp only [List.getElem?_cons_zero] at c0
 go_wp2_with fail
 refine kx.mono ?_
 rintro e w1 ⟨⟨vb,vm,T9,rfl,hbug,hTb,hOM,hTl⟩,hb⟩
 replace pR:=pR.below hb
 replace pT:=pT.below hb
 replace hbug:=lower8 hbug bw.size
 have hTl2:=Nat.le_trans bw.size hTl
 have bz9:=bel_trans bw hb
 clear kx kA hb bw pP c0
 obtain ⟨ba,bc,rfl⟩:=slice8 hbug
 obtain ⟨ma,mn,mc,rfl⟩:∃ ma mn mc,vm=.slice ma mn mc:=by
  obtain ⟨cs9,ho9,_⟩:=hOM
  exact own_slice6 ho9
 go_wp2_with (refine wpList_store_blk rfl 30 _ _ rfl XR [.slice ba bz.length bc,.int .i64 (nz:Int)] rfl rfl pR (by kernel_rfl) rfl rfl ?_)
 intro w2 p2 g2
 have pR2:=p2.out
 have pT2:=pT.kept g2 (fun e=>blk_ne pR pT (by decide) (by cases e;rfl))
 have hOM2:=hOM.keptV g2 pR (by decide) (by decide) (by decide)
 have hbug2:=World.ownsRow.kept hbug g2 (.inr (own_ne_blk9 hbug pR (by decide)))
 have b2:=bz9.grown g2 bz9.size (fun q e=>by cases e;omega)
 clear p2 g2 hOM hbug bz9 pR pT
 have hne:XR≠XT:=by omega
 have s0:=pT2.cell 0
 have fs:=pT2.frozen 0
 have t0:=(pT2.set 0 (.slice ma mn mc)).cell 0
 have q0:=(pR2.off ⟨XT,0,none⟩ (.slice ma mn mc) hne).cell 0
 have q1:=(pR2.off ⟨XT,0,none⟩ (.slice ma mn mc) hne).cell 1
 simp only [List.set_cons_zero,List.getElem?_cons_zero,List.getElem?_cons_succ] at s0 t0 q0 q1
 have gS:=grown_cell12 w2 XT 0 (.slice ma mn mc)
 have hOM3:=hOM2.keptV gS pT2 (by decide) (by decide) (by decide)
 have hbug3:=World.ownsRow.kept hbug2 gS (.inr (own_ne_blk9 hbug2 pT2 (by decide)))
 have b3:=b2.grown gS b2.size (fun q e=>by cases e;omega)
 have HG:Hid (ChkOutT (.returned (.tuple #[.agg #[.slice ba bz.length bc,.int .i64 (nz:Int)],.agg #[.slice ma mn mc],.int .i64 cz])) (w2.setCell ⟨XT,0,none⟩ (.slice ma mn mc)) w.heap.size bz nz ez cz):=⟨_,_,T9,rfl,hbug3,hTb,hOM3,hTl2⟩
 clear gS hOM2 hOM3 hbug2 hbug3 b2 pR2 pT2
 go_wp2
 refine bodyPost_ret (by simp [results,Tryz.results8,go_sem,t0,q0,q1];try rfl) rfl ?_
 exact ⟨HG.out,b3⟩


theorem ents_one11 {w:World} {g:Nat} {e:E3} {s:Sl2} (hB:Blk w g 45 (entC e.1 s)) (hE:Emem w s e):Ents w (some ⟨g,0,none⟩) 1 1 [e]:=by
 refine ⟨rfl,Nat.le_refl _,by unfold maxLen;omega,.inr ⟨g,0,rfl,hB.lt,fun t ht=>?_⟩⟩
 obtain rfl:t=0:=by omega
 exact ⟨s,by simpa [entC] using hB.cell 0,by simpa [entC] using hB.cell 1,by simpa [entC] using hB.cell 2,hE⟩
theorem implEntryTrue_is (a:Option Addr) (len cap:Nat) (rows:List (List I3)) (e:E3) (s:Sl2) (w:World) (hC:Codes w a len cap rows) (hE:Emem w s e) (hV:VmShape w) :
  Calls Tryz.prog 13 #[.agg #[.slice a len cap],entV e.1 s] w fun x w'=>x=.returned (.tuple #[.bool (etB rows e),.int .i64 (etC rows e)])∧Below w.heap.size w w':=by
 have kP:=fun W (hb:Below w.heap.size w W)=>implProgramOK_is a len cap rows W (hC.below hb)
 have kE:=fun W (hb:Below w.heap.size w W)=>implEntryOK_is e s W (hE.below hb) (hV.below hb)
 have kT:Hid (∀ W,Below w.heap.size w W→∀ g,Blk W g 45 (entC e.1 s)→progOk rows=true→entOk e=true→Calls Tryz.prog 39 #[.agg #[.slice a len cap],.slice (some ⟨g,0,none⟩) 1 1] W fun x w'=>x=.returned (.bool (truE rows e))∧Below W.heap.size W w'):=by
  intro W hb g hB hp hok
  obtain ⟨h3,_⟩:=hC.rowsAt hp
  subst h3
  have k:=trueOf_is hp [e] W a (some ⟨g,0,none⟩) 1 1 (hC.below hb) (ents_one11 hB (hE.below hb)) (fun x hx=>by rw [List.mem_singleton.1 hx];exact hok) (hV.below hb) (by omega)
  rw [show [e].all (truE rows)=truE rows e by simp] at k
  exact k
 unfold etB etC
 obtain ⟨ek,eb,ez⟩:=e
 obtain ⟨⟨s1a,s1n,s1c⟩,⟨s2a,s2n,s2c⟩⟩:=s
 generalize progOk rows=po at *
 generalize entOk (ek,eb,ez)=eo at *
 generalize truE rows (ek,eb,ez)=tr at *
 unfold entV at kE ⊢
 unfold entC at kT
 simp only at kE kT ⊢
 clear hE hC hV
 have bw:Below w.heap.size w ((w.alloc (.cells #[.slice a len cap] 25)).alloc (.cells #[.string ek,.slice s1a s1n s1c,.slice s2a s2n s2c] 45)):=by go_grown
 have pP:Blk ((w.alloc (.cells #[.slice a len cap] 25)).alloc (.cells #[.string ek,.slice s1a s1n s1c,.slice s2a s2n s2c] 45)) w.heap.size 25 [.slice a len cap]:=blkOld _ (blkAt _ _ _ rfl)
 have pE:Blk ((w.alloc (.cells #[.slice a len cap] 25)).alloc (.cells #[.string ek,.slice s1a s1n s1c,.slice s2a s2n s2c] 45)) (w.heap.size+1) 45 [.string ek,.slice s1a s1n s1c,.slice s2a s2n s2c]:=blkAt _ _ _ (by simp)
 go_enter Tryz.func13,Tryz.ntmps13
 go_wp2_with fail
 generalize ((w.alloc (.cells #[.slice a len cap] 25)).alloc (.cells #[.string ek,.slice s1a s1n s1c,.slice s2a s2n s2c] 45))=U at *
 have kPx:=kP U bw
 have c0:=pP.cell 0
 simp only [List.getElem?_cons_zero] at c0
 go_wp2_with fail
 refine kPx.mono ?_
 rintro e w1 ⟨rfl,hb⟩
 replace bw:=bel_trans bw hb
 replace pP:=pP.below hb
 replace pE:=pE.below hb
 clear kP kPx hb c0
 cases po
 ·clear kE kT pP pE
  go_wp2
  go_ret2
  exact ⟨rfl,bw⟩
 have kEx:=kE w1 bw
 have x0:=pE.cell 0
 have x1:=pE.cell 1
 have x2:=pE.cell 2
 simp only [List.getElem?_cons_zero,List.getElem?_cons_succ] at x0 x1 x2
 go_wp2_with fail
 refine kEx.mono ?_
 rintro e w2 ⟨rfl,hb⟩
 replace bw:=bel_trans bw hb
 replace pP:=pP.below hb
 replace pE:=pE.below hb
 clear kE kEx hb x0 x1 x2
 cases eo
 ·clear kT pP pE
  go_wp2
  go_ret2
  exact ⟨rfl,bw⟩
 have c0:=pP.cell 0
 simp only [List.getElem?_cons_zero] at c0
 have hal:Below w2.heap.size w2 (w2.alloc (.cells #[.string ek,.slice s1a s1n s1c,.slice s2a s2n s2c] 45)):=by go_grown
 have pQ:Blk (w2.alloc (.cells #[.string ek,.slice s1a s1n s1c,.slice s2a s2n s2c] 45)) w2.heap.size 45 [.string ek,.slice s1a s1n s1c,.slice s2a s2n s2c]:=blkAt _ _ _ rfl
 have kTx:=kT.out _ (bel_trans bw hal) _ pQ (by simp) (by simp)
 clear pQ kT
 go_wp2_with (refine wpList_load_blk rfl 45 _ rfl (w.heap.size+1) rfl pE _ Tryz.underlying45 rfl (by kernel_rfl) ?_)
 refine kTx.mono ?_
 rintro e w3 ⟨rfl,hb⟩
 have bz:=bel_trans (bel_trans bw hal) hb
 clear kTx hb hal pP pE c0
 go_wp2
 go_ret2
 exact ⟨rfl,bz⟩


theorem prog_len9 {rows:List (List I3)} (h:progOk rows=true):rows.length=3:=by
 unfold progOk at h
 simp at h
 exact h.1


def chC9 (P Q:List (List I3)) (x:Pl9):List Value:=[.int .i64 (x.1:Int),.int .i64 (x.2:Int),siteV9 (atM9 P x.1 x.2),siteV9 (atM9 Q x.1 x.2)]
def flatC9 (P Q:List (List I3)) (L:List Pl9):List Value:=L.flatMap (chC9 P Q)
theorem flatC9_snoc (P Q:List (List I3)) (L:List Pl9) (x:Pl9):flatC9 P Q (L++[x])=flatC9 P Q L++chC9 P Q x:=by simp [flatC9]
theorem flatC9_at (P Q:List (List I3)):∀ (L:List Pl9) (t:Nat),t<L.length→(flatC9 P Q L)[t*4]?=some (.int .i64 ((L.getD t (0,0)).1:Int))∧(flatC9 P Q L)[t*4+1]?=some (.int .i64 ((L.getD t (0,0)).2:Int))∧(flatC9 P Q L)[t*4+2]?=some (siteV9 (atM9 P (L.getD t (0,0)).1 (L.getD t (0,0)).2))∧(flatC9 P Q L)[t*4+3]?=some (siteV9 (atM9 Q (L.getD t (0,0)).1 (L.getD t (0,0)).2))
 | [],t,h=>by simp at h
 | x::xs,0,_=>⟨rfl,rfl,rfl,rfl⟩
 | x::xs,t+1,h=>by
  have ih:=flatC9_at P Q xs t (by simpa using h)
  have e:(t+1)*4=t*4+1+1+1+1:=by omega
  have e2:flatC9 P Q (x::xs)=chC9 P Q x++flatC9 P Q xs:=by simp [flatC9]
  rw [e2]
  simp only [chC9,List.cons_append,List.nil_append,e,List.getElem?_cons_succ,List.getD_cons_succ]
  exact ih
theorem flatC9_len (P Q:List (List I3)):∀ L:List Pl9,(flatC9 P Q L).length=L.length*4
 | []=>rfl
 | x::xs=>by
  have e2:flatC9 P Q (x::xs)=chC9 P Q x++flatC9 P Q xs:=by simp [flatC9]
  rw [e2,List.length_append,flatC9_len P Q xs,List.length_cons]
  simp only [chC9,List.length_cons,List.length_nil]
  omega
theorem info_change9:(Tryz.prog.info? 67).map (fun i=>(i.zero,i.size,i.bytes))=some (some (.agg #[.int .i64 0,.int .i64 0,.nilIface,.nilIface]),4,48):=by kernel_rfl

theorem four_at9 {w:World} {G t:Nat} {a b c d:Value} (h:Blk w G t [a,b,c,d]):∀ j u,[a,b,c,d][j]?=some u→w.cell? ((⟨G,0,none⟩:Addr).add j)=some u:=by
 intro j u hj
 rw [Addr.add_mid,Nat.zero_add,h.cell]
 exact hj
theorem site_if9 (o:Option I3):∃ t v,siteV9 o=.iface t v:=by
 cases o
 ·exact ⟨_,_,rfl⟩
 ·exact ⟨_,_,rfl⟩
def chL9 (P Q:List (List I3)):List Pl9:=if progOk P=true∧progOk Q=true then chg9 P Q else []
def chK9 (P Q:List (List I3)):Int:=if progOk P=true∧progOk Q=true then 0 else 1
theorem chL9_len (P Q:List (List I3)):(chL9 P Q).length≤21:=by
 unfold chL9
 split
 ·exact chg9_len P Q
 ·simp
def OwnC9 (w:World) (B:Nat) (v:Value) (P Q:List (List I3)) (L:List Pl9):Prop:=w.ownsRow B 67 4 v L.length (flatC9 P Q L)
def ChgGot (e:Ending) (w':World) (B:Nat) (P Q:List (List I3)):Prop:=∃ v,e=.returned (.tuple #[v,.int .i64 (chK9 P Q)])∧OwnC9 w' B v P Q (chL9 P Q)

theorem changesOf_bad (a:Option Addr) (len cap:Nat) (P:List (List I3)) (a':Option Addr) (len' cap':Nat) (Q:List (List I3)) (w:World) (h:Codes w a len cap P) (h':Codes w a' len' cap' Q) (hbad:¬ (progOk P=true∧progOk Q=true)) :
  Calls Tryz.prog 26 #[.agg #[.slice a len cap],.agg #[.slice a' len' cap']] w fun e w'=>ChgGot e w' w.heap.size P Q∧Below w.heap.size w w':=by
 have kP:=fun W (hb:Below w.heap.size w W)=>implProgramOK_is a len cap P W (h.below hb)
 have kQ:=fun W (hb:Below w.heap.size w W)=>implProgramOK_is a' len' cap' Q W (h'.below hb)
 have bw:Below w.heap.size w ((w.alloc (.cells #[.slice a len cap] 25)).alloc (.cells #[.slice a' len' cap'] 25)):=by go_grown
 have g0:((w.alloc (.cells #[.slice a len cap] 25)).alloc (.cells #[.slice a' len' cap'] 25)).cell? ⟨w.heap.size,0,none⟩=some (.slice a len cap):=by first | (simp [go_sem];done) | (simp [World.cell?];done)
 have g1:((w.alloc (.cells #[.slice a len cap] 25)).alloc (.cells #[.slice a' len' cap'] 25)).cell? ⟨w.heap.size+1,0,none⟩=some (.slice a' len' cap'):=by first | (simp [go_sem];done) | (simp [World.cell?];done)
 have eK:chK9 P Q=1:=if_neg hbad
 have eL:chL9 P Q=[]:=if_neg hbad
 have HG:∀ W,ChgGot (.returned (.tuple #[.slice none 0 0,.int .i64 1])) W w.heap.size P Q:=fun W=>⟨_,by rw [eK],by rw [eL];exact World.ownsRow_nil _ _ _ _⟩
 clear eK eL
 cases hP:progOk P
 ·rw [hP] at kP
  clear hP hbad kQ
  go_enter Tryz.func26,Tryz.ntmps26
  go_wp2_with fail
  refine (kP _ bw).mono ?_
  rintro e w1 ⟨rfl,hb⟩
  replace bw:=bel8 bw hb
  clear hb g0 g1 kP
  go_wp2
  go_ret2
  exact ⟨HG _,bw⟩
 ·have hQ:progOk Q=false:=by cases e:progOk Q<;>simp_all
  rw [hP] at kP
  rw [hQ] at kQ
  clear hP hbad hQ
  go_enter Tryz.func26,Tryz.ntmps26
  go_wp2_with fail
  refine (kP _ bw).mono ?_
  rintro e w1 ⟨rfl,hb⟩
  replace bw:=bel8 bw hb
  replace g1:=cells_kept hb _ _ g1
  clear hb g0 kP
  go_wp2_with fail
  refine (kQ _ bw).mono ?_
  rintro e w2 ⟨rfl,hb⟩
  replace bw:=bel8 bw hb
  clear hb g1 kQ
  go_wp2
  go_ret2
  exact ⟨HG _,bw⟩

theorem changesOf_ok (a:Option Addr) (cap:Nat) (P:List (List I3)) (a':Option Addr) (cap':Nat) (Q:List (List I3)) (w:World) (h:Codes w a 3 cap P) (h':Codes w a' 3 cap' Q) (hP:progOk P=true) (hQ:progOk Q=true) :
  Calls Tryz.prog 26 #[.agg #[.slice a 3 cap],.agg #[.slice a' 3 cap']] w fun e w'=>ChgGot e w' w.heap.size P Q∧Below w.heap.size w w':=by
 obtain ⟨i0,hi,hz0,hz1,hz2⟩:=info_parts info_change9
 have kP:=fun W (hb:Below w.heap.size w W)=>implProgramOK_is a 3 cap P W (h.below hb)
 have kQ:=fun W (hb:Below w.heap.size w W)=>implProgramOK_is a' 3 cap' Q W (h'.below hb)
 have bw:Below w.heap.size w ((w.alloc (.cells #[.slice a 3 cap] 25)).alloc (.cells #[.slice a' 3 cap'] 25)):=by go_grown
 have g0:((w.alloc (.cells #[.slice a 3 cap] 25)).alloc (.cells #[.slice a' 3 cap'] 25)).cell? ⟨w.heap.size,0,none⟩=some (.slice a 3 cap):=by first | (simp [go_sem];done) | (simp [World.cell?];done)
 have g1:((w.alloc (.cells #[.slice a 3 cap] 25)).alloc (.cells #[.slice a' 3 cap'] 25)).cell? ⟨w.heap.size+1,0,none⟩=some (.slice a' 3 cap'):=by first | (simp [go_sem];done) | (simp [World.cell?];done)
 have HG:∀ v W B,w.heap.size≤B→OwnC9 W B v P Q (upto9 P Q 3)→ChgGot (.returned (.tuple #[v,.int .i64 0])) W w.heap.size P Q:=fun v W B hB q=>⟨v,by rw [show chK9 P Q=0 from if_pos ⟨hP,hQ⟩],by rw [show chL9 P Q=upto9 P Q 3 from if_pos ⟨hP,hQ⟩];exact lower8 q hB⟩
 rw [hP] at kP
 rw [hQ] at kQ
 clear hP hQ
 go_enter Tryz.func26,Tryz.ntmps26
 go_wp2_with fail
 refine (kP _ bw).mono ?_
 rintro e w1 ⟨rfl,hb⟩
 replace bw:=bel8 bw hb
 replace g0:=cells_kept hb _ _ g0
 replace g1:=cells_kept hb _ _ g1
 clear hb kP
 go_wp2_with fail
 refine (kQ _ bw).mono ?_
 rintro e U ⟨rfl,hb⟩
 replace bw:=bel8 bw hb
 replace g0:=cells_kept hb _ _ g0
 replace g1:=cells_kept hb _ _ g1
 clear hb kQ
 replace h:=h.below bw
 replace h':=h'.below bw
 go_wp2_with fail
 go_loopw [6,19] (fun so si wr=>∃ (k:Nat) (v:Value),v=so∧k≤3∧si=.int .i64 k∧OwnC9 wr U.heap.size v P Q (upto9 P Q k)∧Below U.heap.size U wr) (fun _ si _=>3 - (Go.RowKit.intOf si).toNat)
 case atStart=>exact ⟨0,_,rfl,by omega,rfl,World.ownsRow_nil _ _ _ _,Below.refl _ _⟩
 case round =>
  obtain ⟨k,so,rfl,hk,rfl,q,bu⟩:=hrel
  by_cases hlt:k<3
  ·have hlt2:(k:Int)<3:=by omega
   have hL:=upto9_len P Q k
   go_wp2_with fail
   go_loopw [6,22] (fun so si wr=>∃ (p:Nat) (v:Value),v=so∧p≤7∧si=.int .i64 p∧OwnC9 wr U.heap.size v P Q (upto9 P Q k++row9 P Q k p)∧Below U.heap.size U wr) (fun _ si _=>7 - (Go.RowKit.intOf si).toNat)
   case atStart=>exact ⟨0,_,rfl,by omega,rfl,by rw [row9_zero,List.append_nil];exact q,bu⟩
   case round =>
    clear q bu
    obtain ⟨p,so,rfl,hp,rfl,q,bu⟩:=hrel
    by_cases hpl:p<7
    ·have hpl2:(p:Int)<7:=by omega
     have c0:=cells_kept bu _ _ g0
     have c1:=cells_kept bu _ _ g1
     have kA:=fun W (hb:Below U.heap.size U W)=>siteOf_is (h.below hb) hlt hpl
     have kB:=fun W (hb:Below U.heap.size U W)=>siteOf_is (h'.below hb) hlt hpl
     have kC:=sameSite_is (atM9 P k p) (atM9 Q k p)
     have bd:Below U.heap.size U wr.drew:=bel8 bu (by go_grown)
     have hR:=row9_len P Q k p
     have hn9:(upto9 P Q k++row9 P Q k p).length≤21:=by rw [List.length_append];omega
     have HC:Hid (chC9 P Q (k,p)=[.int .i64 (k:Int),.int .i64 (p:Int),siteV9 (atM9 P k p),siteV9 (atM9 Q k p)]):=rfl
     by_cases hE:atM9 P k p=atM9 Q k p
     ·rw [← row9_same hE] at q
      rw [decide_eq_true hE] at kC
      clear hE HC
      generalize hsP:siteV9 (atM9 P k p)=sP at *
      obtain ⟨tP,vP,rfl⟩:∃ t v,sP=.iface t v:=by rw [← hsP];exact site_if9 _
      clear hsP
      generalize hsQ:siteV9 (atM9 Q k p)=sQ at *
      obtain ⟨tQ,vQ,rfl⟩:∃ t v,sQ=.iface t v:=by rw [← hsQ];exact site_if9 _
      clear hsQ
      go_wp2_with fail
      refine wp_region_held_drew (S:=(fun w'=>w'.cell? ⟨w.heap.size,0,none⟩=some (.slice a 3 cap)∧w'.cell? ⟨w.heap.size+1,0,none⟩=some (.slice a' 3 cap'))) (by kernel_rfl) ⟨c0,c1⟩ (fun hS0=>?_)
      refine tkm 0 25 (.agg #[.slice a 3 cap]) ?_
      refine tkm 1 26 (.int .i64 k) ?_
      refine tkm 2 27 (.int .i64 p) ?_
      refine tkm 4 29 (.agg #[.slice a' 3 cap']) ?_
      refine tkm 5 30 (.int .i64 k) ?_
      refine tkm 6 31 (.int .i64 p) ?_
      refine tkr 3 28 (fun K hK=>?_)
      go_simp
      refine (kA _ bd).mono ?_
      rintro e w4 ⟨rfl,hb⟩
      go_wp2_with fail
      refine hK.out _ _ ?_ (fun hS1=>?_)
      ·exact ⟨cells_kept hb _ _ hS0.1,cells_kept hb _ _ hS0.2⟩
      clear hK
      refine tkr 7 32 (fun K hK=>?_)
      go_simp
      refine (kB _ (bel8 bd hb)).mono ?_
      rintro e w5 ⟨rfl,hb5⟩
      go_wp2_with fail
      refine hK.out _ _ ?_ (fun hS2=>?_)
      ·exact ⟨cells_kept hb5 _ _ hS1.1,cells_kept hb5 _ _ hS1.2⟩
      clear hK
      refine tkm 8 9 (.iface tP vP) ?_
      refine tkm 9 10 (.iface tQ vQ) ?_
      refine wpAnyH_done (by kernel_rfl) ?_ _
      have bx:Below wr.heap.size wr w5:=bel8 (by go_grown) (bel8 hb hb5)
      replace bu:=bel8 bu bx
      replace q:OwnC9 w5 U.heap.size so P Q (upto9 P Q k++row9 P Q k (p+1)):=owns8 q bx
      clear hS0 hS1 hS2 hb bd c0 c1 hb5 bx kA kB
      go_wp2_with fail
      refine (kC _).mono ?_
      rintro e w6 ⟨rfl,hb⟩
      replace bu:=bel8 bu hb
      replace q:OwnC9 w6 U.heap.size so P Q (upto9 P Q k++row9 P Q k (p+1)):=owns8 q hb
      clear hb kC
      go_wp2
      go_roundw
      case rel=>exact ⟨p+1,_,rfl,by omega,by go_num,q,bu⟩
      case measure=>simp [Go.RowKit.intOf];omega
     ·have hq:=row9_new hE
      rw [decide_eq_false hE] at kC
      have HQ:Hid (flatC9 P Q (upto9 P Q k++row9 P Q k (p+1))=flatC9 P Q (upto9 P Q k++row9 P Q k p)++[.int .i64 (k:Int),.int .i64 (p:Int),siteV9 (atM9 P k p),siteV9 (atM9 Q k p)]):=by rw [Hid,hq,← List.append_assoc,flatC9_snoc,HC.out]
      have HN:Hid ((upto9 P Q k++row9 P Q k (p+1)).length=(upto9 P Q k++row9 P Q k p).length+1):=by rw [Hid,hq,← List.append_assoc,List.length_append];rfl
      clear hE hq HC
      generalize hsP:siteV9 (atM9 P k p)=sP at *
      obtain ⟨tP,vP,rfl⟩:∃ t v,sP=.iface t v:=by rw [← hsP];exact site_if9 _
      clear hsP
      generalize hsQ:siteV9 (atM9 Q k p)=sQ at *
      obtain ⟨tQ,vQ,rfl⟩:∃ t v,sQ=.iface t v:=by rw [← hsQ];exact site_if9 _
      clear hsQ
      go_wp2_with fail
      refine wp_region_held_drew (S:=(fun w'=>w'.cell? ⟨w.heap.size,0,none⟩=some (.slice a 3 cap)∧w'.cell? ⟨w.heap.size+1,0,none⟩=some (.slice a' 3 cap'))) (by kernel_rfl) ⟨c0,c1⟩ (fun hS0=>?_)
      refine tkm 0 25 (.agg #[.slice a 3 cap]) ?_
      refine tkm 1 26 (.int .i64 k) ?_
      refine tkm 2 27 (.int .i64 p) ?_
      refine tkm 4 29 (.agg #[.slice a' 3 cap']) ?_
      refine tkm 5 30 (.int .i64 k) ?_
      refine tkm 6 31 (.int .i64 p) ?_
      refine tkr 3 28 (fun K hK=>?_)
      go_simp
      refine (kA _ bd).mono ?_
      rintro e w4 ⟨rfl,hb⟩
      go_wp2_with fail
      refine hK.out _ _ ?_ (fun hS1=>?_)
      ·exact ⟨cells_kept hb _ _ hS0.1,cells_kept hb _ _ hS0.2⟩
      clear hK
      refine tkr 7 32 (fun K hK=>?_)
      go_simp
      refine (kB _ (bel8 bd hb)).mono ?_
      rintro e w5 ⟨rfl,hb5⟩
      go_wp2_with fail
      refine hK.out _ _ ?_ (fun hS2=>?_)
      ·exact ⟨cells_kept hb5 _ _ hS1.1,cells_kept hb5 _ _ hS1.2⟩
      clear hK
      refine tkm 8 9 (.iface tP vP) ?_
      refine tkm 9 10 (.iface tQ vQ) ?_
      refine wpAnyH_done (by kernel_rfl) ?_ _
      have bx:Below wr.heap.size wr w5:=bel8 (by go_grown) (bel8 hb hb5)
      replace bu:=bel8 bu bx
      replace q:OwnC9 w5 U.heap.size so P Q (upto9 P Q k++row9 P Q k p):=owns8 q bx
      clear hS0 hS1 hS2 hb bd c0 c1 hb5 bx kA kB
      go_wp2_with fail
      refine (kC _).mono ?_
      rintro e w6 ⟨rfl,hb⟩
      replace bu:=bel8 bu hb
      replace q:OwnC9 w6 U.heap.size so P Q (upto9 P Q k++row9 P Q k p):=owns8 q hb
      clear hb kC
      unfold OwnC9 at q
      generalize (upto9 P Q k++row9 P Q k p)=L at *
      have hsz:=bu.size
      have pV:Blk (w6.alloc (.cells #[.int .i64 (k:Int),.int .i64 (p:Int),.iface tP vP,.iface tQ vQ] 67)) w6.heap.size 67 [.int .i64 (k:Int),.int .i64 (p:Int),.iface tP vP,.iface tQ vQ]:=blkAt _ _ _ rfl
      have hone:∀ u ∈ [Value.int .i64 (k:Int),Value.int .i64 (p:Int),Value.iface tP vP,Value.iface tQ vQ],u.oneCell'=true:=by
       intro u hu
       simp only [List.mem_cons,List.mem_nil_iff,or_false] at hu
       rcases hu with rfl | rfl | rfl | rfl
       ·rfl
       ·rfl
       ·rfl
       ·rfl
      go_wp2_with (at_builtin;refine wpList_append_own _ rfl _ _ 61 rfl U.heap.size 67 i0 (.agg #[.int .i64 0,.int .i64 0,.nilIface,.nilIface]) 4 48 Tryz.underlying61 hi hz0 hz1 hz2 rfl (by decide) _ _ _ rfl (q.alloc _) ⟨w6.heap.size,0,none⟩ 1 1 [.int .i64 (k:Int),.int .i64 (p:Int),.iface tP vP,.iface tQ vQ] rfl rfl (four_at9 pV) hone ?c3 ?c4 ?c5 ?_)
      case c3=>unfold maxLen;omega
      case c4=>omega
      case c5=>simp;omega
      intro v' wn hown' hgrow _
      have bn:Below U.heap.size U wn:=(bu.alloc hsz _).grown hgrow (by simp;omega) (fun k hk=>(q.lt k hk).1)
      have qn:OwnC9 wn U.heap.size v' P Q (upto9 P Q k++row9 P Q k (p+1)):=by
       unfold OwnC9
       rw [HQ.out,HN.out]
       exact hown'
      clear hgrow q bu hown' HQ HN pV hone
      go_wp2
      go_roundw
      case rel=>exact ⟨p+1,_,rfl,by omega,by go_num,qn,bn⟩
      case measure=>simp [Go.RowKit.intOf];omega
    ·obtain rfl:p=7:=by omega
     rw [← upto9_succ] at q
     go_wp2
     go_roundw
     case rel=>exact ⟨k+1,_,rfl,by omega,by go_num,q,bu⟩
     case measure=>simp [Go.RowKit.intOf];omega
  ·obtain rfl:k=3:=by omega
   have hB:=bw.size
   go_wp2
   go_ret2
   exact ⟨HG _ _ _ hB q,bel8 bw bu⟩

theorem changesOf_is (a:Option Addr) (len cap:Nat) (P:List (List I3)) (a':Option Addr) (len' cap':Nat) (Q:List (List I3)) (w:World) (h:Codes w a len cap P) (h':Codes w a' len' cap' Q) :
  Calls Tryz.prog 26 #[.agg #[.slice a len cap],.agg #[.slice a' len' cap']] w fun e w'=>ChgGot e w' w.heap.size P Q∧Below w.heap.size w w':=by
 by_cases hb:progOk P=true∧progOk Q=true
 ·obtain ⟨hP,hQ⟩:=hb
  have h3:=prog_len9 hP
  rw [h.1] at h3
  have h4:=prog_len9 hQ
  rw [h'.1] at h4
  subst h3 h4
  exact changesOf_ok a cap P a' cap' Q w h h' hP hQ
 ·exact changesOf_bad a len cap P a' len' cap' Q w h h' hb
end Go.Proofs.YtgmhhegckcionaaGreatDoor
