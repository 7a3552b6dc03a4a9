/-
  Joined: EntD, PackListI, Pack0, PackI.
-/
import Derived.Test.YtdopgkbegjfhjaaGreatDoorL36

namespace Go.Proofs.YtdopgkbegjfhjaaGreatDoor
set_option maxRecDepth 100000
set_option maxHeartbeats 16000000
open Go.RowKit
set_option linter.unusedVariables false
set_option linter.unusedSimpArgs false

theorem rise_of9 {xs:List I3} (h1:∀ x ∈ xs,okB x=true) (h2:Rises xs):riseB xs=true:=by
 refine allR_true fun k hk=>?_
 have g:∀ i (hi:i<xs.length),xs.getD i (0,0,0)=xs[i]:=fun i hi=>by simp [List.getD,List.getElem?_eq_getElem hi]
 simp only [bStep,Bool.and_eq_true,Bool.or_eq_true,decide_eq_true_eq]
 refine ⟨by rw [g k hk];exact h1 _ (List.getElem_mem _),?_⟩
 by_cases h0:k=0
 ·exact .inl h0
 ·right
  rw [g k hk,g (k - 1) (by omega)]
  exact List.pairwise_iff_getElem.1 h2 (k - 1) k (by omega) hk (by omega)
theorem riseI_of9 {xs:List Int} (h1:∀ x ∈ xs,itOk x=true) (h2:xs.Pairwise (· < ·)):riseI xs=true:=by
 refine allR_true fun k hk=>?_
 have g:∀ i (hi:i<xs.length),xs.getD i 0=xs[i]:=fun i hi=>by simp [List.getD,List.getElem?_eq_getElem hi]
 simp only [iStep,Bool.and_eq_true,Bool.or_eq_true,decide_eq_true_eq]
 refine ⟨by rw [g k hk];exact h1 _ (List.getElem_mem _),?_⟩
 by_cases h0:k=0
 ·exact .inl h0
 ·right
  rw [g k hk,g (k - 1) (by omega)]
  exact List.pairwise_iff_getElem.1 h2 (k - 1) k (by omega) hk (by omega)
theorem entOk_of9 {m:V4} {bs:List I3} {zs:List Int} (h:shapeOk m=true) (hb:∀ x ∈ bs,okB x=true) (hl:bs.length≤5) (hz:∀ x ∈ zs,itOk x=true):entOk (keyT m,mergeB bs [],mrgI (zs++[]))=true:=by
 have h1:keyOk9 (keyT m)=true:=by unfold keyOk9;rw [decide_eq_true (keyT_size6 h),key_back6 h,h];rfl
 have h2:riseB (mergeB bs [])=true:=rise_of9 (fun x hx=>by
  rcases mem_mergeB.1 hx with h9 | h9
  ·exact hb x h9
  ·cases h9) (mergeB_rises _ _)
 have h3:riseI (mrgI (zs++[]))=true:=riseI_of9 (fun x hx=>hz x (by simpa using (mrgI_mem _ x).1 hx)) (mrgI_rises _)
 have h4:(mergeB bs []).length≤30:=by have:=mergeB_len bs [];simp at this;omega
 simp only [entOk,h1,h2,h3,decide_eq_true h4]
 rfl
theorem OwnProg.went9 {p:Nat} {w w':World} {B:Nat} {v:Value} {rows:List (List I3)} (h:OwnProg w B v rows) (hw:Went p w w') (hp:p<B):OwnProg w' B v rows:=by
 obtain ⟨vs,h1,h2,h3,h4⟩:=h
 exact ⟨vs,owns_wn h1 hw hp,h2,fun t ht=>owns_wn (h3 t ht) hw hp,h4⟩
def EntDr (x:Ending) (w':World) (B:Nat):Prop:=∃ (e:E3) (s:Sl2),entOk e=true∧e.fits∧x=.returned (entV e.1 s)∧OwnE w' B (.slice s.1.1 s.1.2.1 s.1.2.2) (.slice s.2.1 s.2.2.1 s.2.2.2) e
theorem EntDr.mk9 {w':World} {B:Nat} {e:E3} {s:Sl2} (h1:entOk e=true) (h2:e.fits) (h3:OwnE w' B (.slice s.1.1 s.1.2.1 s.1.2.2) (.slice s.2.1 s.2.2.1 s.2.2.2) e):EntDr (.returned (entV e.1 s)) w' B:=⟨e,s,h1,h2,rfl,h3⟩

theorem entry_any (p T:Nat) (a:Option Addr) (n cap:Nat) (w:World) (hS:Src w p (.slice a n cap) T) (hC:Code w p a n cap) (hT:T≤500000) :
  Calls Tryz.prog 63 #[.pointer (some ⟨p,0,none⟩)] w fun e w'=>EntDr e w' w.heap.size∧Src w' p (.slice a n cap) (T+600)∧Went p w w':=by
 have hpw:p<w.heap.size:=hS.lt
 have hW:Went p w (w.alloc (.cells #[.string ⟨#[]⟩,.slice none 0 0,.slice none 0 0] 74)):=(Went.refl p w).alloc _
 have pR:Blk (w.alloc (.cells #[.string ⟨#[]⟩,.slice none 0 0,.slice none 0 0] 74)) w.heap.size 74 [.string ⟨#[]⟩,.slice none 0 0,.slice none 0 0]:=blkAt _ _ _ rfl
 have hS1:=hS.alloc (.cells #[.string ⟨#[]⟩,.slice none 0 0,.slice none 0 0] 74)
 have hC1:=hC.went hW (Nat.le_of_lt hpw)
 have hsz:(w.alloc (.cells #[.string ⟨#[]⟩,.slice none 0 0,.slice none 0 0] 74)).heap.size=w.heap.size+1:=by simp
 have hne:w.heap.size≠p:=by omega
 go_enter Tryz.func63,Tryz.ntmps63
 go_wp2_with fail
 generalize (w.alloc (.cells #[.string ⟨#[]⟩,.slice none 0 0,.slice none 0 0] 74))=W1 at *
 refine (program_go p T a n cap W1 hS1 hC1 (by omega)).mono ?_
 rintro x w2 ⟨⟨v,rows,hok,rfl,hP⟩,hS2,hWn⟩
 have hp3:=(progOk_parts hok).1
 obtain ⟨aP,capP,rfl⟩:=hP.slice
 have hfit:∀ r ∈ rows,∀ x ∈ r,I3.fits x:=fun r hr x hx=>okI_fits (((progOk_parts hok).2 r hr).2 x hx)
 replace hW:=hW.trans hWn
 replace pR:=pR.went hWn hne
 replace hC1:=hC1.went hWn (by omega)
 rw [hsz] at hP
 have hs2:w.heap.size+1≤w2.heap.size:=by have:=hWn.size;omega
 clear hWn hS1 hsz
 rw [hp3] at hP ⊢
 have bB:Below w2.heap.size w2 (w2.alloc (.cells #[.slice aP 3 capP] 69)):=by go_grown
 have pP:Blk (w2.alloc (.cells #[.slice aP 3 capP] 69)) w2.heap.size 69 [.slice aP 3 capP]:=blkAt _ _ _ rfl
 replace hW:=hW.trans (Went.of_below bB)
 replace pR:=pR.below bB
 replace hC1:=hC1.went (Went.of_below bB) (by omega)
 replace hS2:=hS2.belowD bB
 replace hP:=hP.below bB
 have hs3:w.heap.size+1≤(w2.alloc (.cells #[.slice aP 3 capP] 69)).heap.size:=by have:=bB.size;omega
 have y0:=pP.cell 0
 simp only [List.getElem?_cons_zero] at y0
 clear bB
 have kV:=vm_go p (T+300) a n cap aP capP rows _ hS2 hC1 (by omega) hok (fun W hW9=>(hP.went9 hW9 (by omega)).codes hfit)
 go_wp2_with fail
 generalize (w2.alloc (.cells #[.slice aP 3 capP] 69))=W3 at *
 refine kV.mono ?_
 rintro x w4 ⟨⟨t,m,rfl,hO,hm⟩,hS4,hWn⟩
 replace hW:=hW.trans hWn
 replace pR:=pR.went hWn hne
 replace hC1:=hC1.went hWn (by omega)
 have hs4:w.heap.size+1≤w4.heap.size:=by have:=hWn.size;omega
 have kK:=l03Key_is t m w4 (hO.mem (shape_fits9 hm).1) hm
 clear hWn kV hP pP y0 hS2 hO hs3
 obtain ⟨⟨b0,m0,q0⟩,⟨b1,m1,q1⟩,⟨b2,m2,q2⟩,⟨b3,m3,q3⟩⟩:=t
 have uA:S4.val ((b0,m0,q0),(b1,m1,q1),(b2,m2,q2),(b3,m3,q3))=.agg #[.slice b0 m0 q0,.slice b1 m1 q1,.slice b2 m2 q2,.slice b3 m3 q3]:=rfl
 rw [uA] at kK ⊢
 clear uA
 go_wp2_with fail
 refine kK.mono ?_
 rintro x w5 ⟨rfl,hb⟩
 replace hW:=hW.trans (Went.of_below hb)
 replace pR:=pR.below hb
 replace hC1:=hC1.went (Went.of_below hb) (by omega)
 replace hS4:=hS4.belowD hb
 have hs5:w.heap.size+1≤w5.heap.size:=by have:=hb.size;omega
 clear hb kK hs4
 have HK:Hid (keyT m=keyT m):=rfl
 obtain ⟨ky,hky⟩:∃ ky,ky=keyT m:=⟨_,rfl⟩
 rw [← hky]
 have HKY:Hid (ky=keyT m):=hky
 clear hky
 go_wp2_with fail
 refine (bugs_any p (T+300+40) a n cap w5 hS4 hC1 (by omega)).mono ?_
 rintro x w6 ⟨⟨vb,bs,hbl,hbo,rfl,qb⟩,hS6,hWn⟩
 replace hW:=hW.trans hWn
 replace pR:=pR.went hWn hne
 replace hC1:=hC1.went hWn (by omega)
 have hs6:w.heap.size+1≤w6.heap.size:=by have:=hWn.size;omega
 obtain ⟨ba,bc,rfl⟩:=slice8 qb
 have hIb:=(Instrs.of_ownB9 qb (fun x hx=>okB_fits (hbo x hx)))
 obtain ⟨ba',bc',hve,hIb⟩:=hIb
 injection hve with e1 e2 e3
 subst e1 e3
 clear hWn hS4 qb hs5
 have bE:Below w6.heap.size w6 (w6.alloc (.cells #[] 112)):=by go_grown
 replace hW:=hW.trans (Went.of_below bE)
 replace pR:=pR.below bE
 replace hC1:=hC1.went (Went.of_below bE) (by omega)
 replace hS6:=hS6.belowD bE
 have hIe:Instrs (w6.alloc (.cells #[] 112)) (some ⟨w6.heap.size,0,none⟩) 0 0 []:=⟨rfl,Nat.le_refl _,by unfold maxLen;omega,by simp,.inl rfl⟩
 have kM:=l04Merge_is _ _ _ bs _ _ _ [] _ (hIb.below bE) hIe (by omega) (by omega)
 have hs7:w.heap.size+1≤(w6.alloc (.cells #[] 112)).heap.size:=by have:=bE.size;omega
 clear bE hIb hIe hs6
 go_wp2_with fail
 generalize (w6.alloc (.cells #[] 112))=W7 at *
 refine kM.mono ?_
 rintro x w8 ⟨⟨vm,rfl,qm⟩,hb⟩
 replace hW:=hW.trans (Went.of_below hb)
 replace pR:=pR.below hb
 replace hC1:=hC1.went (Went.of_below hb) (by omega)
 replace hS6:=hS6.belowD hb
 replace qm:=lower8 qm hs7
 have hs8:w.heap.size+1≤w8.heap.size:=by have:=hb.size;omega
 clear hb kM hs7
 obtain ⟨ma,mc,rfl⟩:=slice8 qm
 obtain ⟨mb,hmb⟩:∃ mb,mb=mergeB bs []:=⟨_,rfl⟩
 rw [← hmb] at qm ⊢
 have HMB:Hid (mb=mergeB bs []):=hmb
 clear hmb
 go_wp2_with fail
 refine (items_any p (T+300+40+100) a n cap w8 hS6 hC1 (by omega)).mono ?_
 rintro x w9 ⟨⟨vi,zs,hzl,hzo,rfl,qi⟩,hS9,hWn⟩
 replace hW:=hW.trans hWn
 replace pR:=pR.went hWn hne
 replace qm:=owns_wn qm hWn (by omega)
 have hs9:w.heap.size+1≤w9.heap.size:=by have:=hWn.size;omega
 obtain ⟨ia,ic,rfl⟩:=slice8 qi
 have hIi:=ints8 qi
 clear hWn hS6 qi hs8
 have bE:Below w9.heap.size w9 (w9.alloc (.cells #[] 3)):=by go_grown
 replace hW:=hW.trans (Went.of_below bE)
 replace pR:=pR.below bE
 replace hS9:=hS9.belowD bE
 replace qm:=owns8 qm bE
 have hIe:Ints .i64 (w9.alloc (.cells #[] 3)) (some ⟨w9.heap.size,0,none⟩) 0 0 []:=⟨rfl,Nat.le_refl _,by unfold maxLen;omega,.inl rfl⟩
 have kM:=l08Merge_is _ _ _ zs _ _ _ [] _ (hIi.below bE) hIe (by omega) (by omega)
 have hs7:w.heap.size+1≤(w9.alloc (.cells #[] 3)).heap.size:=by have:=bE.size;omega
 clear bE hIi hIe hs9
 go_wp2_with fail
 generalize (w9.alloc (.cells #[] 3))=WA at *
 refine kM.mono ?_
 rintro x wb ⟨⟨vz,rfl,qz⟩,hb⟩
 replace hW:=hW.trans (Went.of_below hb)
 replace pR:=pR.below hb
 replace hS9:=hS9.belowD hb
 replace qm:=owns8 qm hb
 replace qz:=lower8 qz hs7
 clear hb kM hs7
 obtain ⟨za,zc,rfl⟩:=slice8 qz
 have hok9:entOk (ky,mb,mrgI (zs++[]))=true:=by rw [HKY.out,HMB.out];exact entOk_of9 hm hbo hbl hzo
 have hf9:E3.fits (ky,mb,mrgI (zs++[])):=by
  have h9:=entOk_key hok9
  have hp9:=hok9
  simp only [entOk,Bool.and_eq_true,decide_eq_true_eq] at hp9
  refine ⟨?_,fun x hx=>?_,fun z hz=>?_⟩
  ·show ky.size≤maxLen
   have:ky.size=15:=h9
   unfold maxLen;omega
  ·have hx2:x ∈ mb:=hx
   rw [HMB.out] at hx2
   rcases mem_mergeB.1 hx2 with h8 | h8
   ·exact okB_fits (hbo x h8)
   ·cases h8
  ·exact itOk_wf (hzo z (by simpa using (mrgI_mem _ z).1 hz))
 generalize mrgI (zs++[])=mz at *
 have r0:=pR.cell 0
 have r1:=pR.cell 1
 have r2:=pR.cell 2
 have fr0:=pR.frozen 0
 have fr1:=pR.frozen 1
 have fr2:=pR.frozen 2
 have pZ:=((pR.set 0 (.string ky)).set 1 (.slice ma mb.length mc)).set 2 (.slice za mz.length zc)
 simp only [List.set_cons_zero,List.set_cons_succ] at pZ
 have z0:=pZ.cell 0
 have z1:=pZ.cell 1
 have z2:=pZ.cell 2
 simp only [List.getElem?_cons_zero,List.getElem?_cons_succ] at z0 z1 z2 r0 r1 r2
 have g1:=grownBy_set wb w.heap.size 0 (.string ky)
 have g2:=grownBy_set (wb.setCell ⟨w.heap.size,0,none⟩ (.string ky)) w.heap.size 1 (.slice ma mb.length mc)
 have g3:=grownBy_set ((wb.setCell ⟨w.heap.size,0,none⟩ (.string ky)).setCell ⟨w.heap.size,1,none⟩ (.slice ma mb.length mc)) w.heap.size 2 (.slice za mz.length zc)
 have hr:∀ k,some w.heap.size=some k→w.heap.size≤k:=fun k e=>by cases e;exact Nat.le_refl _
 have hr2:∀ k,some w.heap.size=some k→k≠p:=fun k e=>by cases e;exact hne
 replace hW:=((hW.grown g1 hr).grown g2 hr).grown g3 hr
 replace hS9:=(((hS9.grown g1 hr2).grown g2 hr2).grown g3 hr2).mono (show T+300+40+100+100≤T+600 by omega)
 have hlt9:w.heap.size<w.heap.size+1:=by omega
 have hO9:OwnE (((wb.setCell ⟨w.heap.size,0,none⟩ (.string ky)).setCell ⟨w.heap.size,1,none⟩ (.slice ma mb.length mc)).setCell ⟨w.heap.size,2,none⟩ (.slice za mz.length zc)) w.heap.size (.slice ma mb.length mc) (.slice za mz.length zc) (ky,mb,mz):=
  ((((show OwnE wb (w.heap.size+1) (.slice ma mb.length mc) (.slice za mz.length zc) (ky,mb,mz) from ⟨qm,qz⟩).low (p:=⟨w.heap.size,0,none⟩) hlt9 (.string ky)).low (p:=⟨w.heap.size,1,none⟩) hlt9 (.slice ma mb.length mc)).low (p:=⟨w.heap.size,2,none⟩) hlt9 (.slice za mz.length zc)).lower (by omega)
 clear pZ pR g1 g2 g3 hr hr2 qm qz HK HKY HMB hC1
 generalize mb.length=lb at *
 generalize mz.length=lz at *
 go_wp2
 refine bodyPost_ret (by simp [results,Tryz.results63,go_sem,z0,z1,z2];try rfl) rfl ?_
 exact ⟨EntDr.mk9 (e:=(ky,mb,mz)) (s:=((ma,lb,mc),(za,lz,zc))) hok9 hf9 hO9,hS9,hW⟩


theorem okTo_succ {zs:List Int} {k:Nat} (h:allOk (zs.take k)) (hk:k<zs.length) (hx:0≤zs.getD k 0∧zs.getD k 0≤999999999):allOk (zs.take (k+1)):=by
 have g:zs.getD k 0=zs[k]:=by simp [List.getElem?_eq_getElem hk]
 rw [List.take_succ_eq_append_getElem hk]
 intro z hz
 rcases List.mem_append.1 hz with hz | hz
 ·exact h z hz
 ·simp at hz;subst hz;rw [← g];exact hx
theorem okTo_zero (zs:List Int):allOk (zs.take 0):=by intro z hz;simp at hz

theorem implPackList_any (a:Option Addr) (len cap:Nat) (zs:List Int) (w:World) (h:Ints .i64 w a len cap zs) (hlen:len≤4096) :
  Calls Tryz.prog 97 #[.slice a len cap] w fun e w'=>((allOk zs∧e=.returned (.tuple #[.string (strOfNums (packL zs)),.int .i64 0]))∨(¬ allOk zs∧e=.returned (.tuple #[.string ByteArray.empty,.int .i64 4])))∧Below w.heap.size w w':=by
 obtain ⟨hl,hlc,hcm,hcase⟩:=h
 unfold maxLen at hcm
 rcases hcase with h0 | ⟨b,off,rfl,hblt,hcell⟩
 ·subst h0
  have hz:zs=[]:=by simpa using hl
  subst hz
  go_enter Tryz.func97,Tryz.ntmps97
  go_wp2_with fail
  refine (appendNumber_any w.heap.size 0 _ [] 0 _ (by omega) (World.ownsRow_nil _ _ _ _) (Nat.le_refl _) (by omega)).mono ?_
  rintro e w1 ⟨v',rfl,hown,hbel⟩
  have hcv:=conv_owned hown
  clear hown
  rw [List.nil_append] at hcv
  go_wp2
  refine wp_loop_rounds 1 ?_
  rw [rounds_succ]
  go_wp2
  go_ret2
  exact ⟨.inl ⟨(fun z hz=>by cases hz),rfl⟩,hbel⟩
 ·go_enter Tryz.func97,Tryz.ntmps97
  go_wp2_with fail
  refine (appendNumber_any w.heap.size 0 _ [] len _ (by omega) (World.ownsRow_nil _ _ _ _) (Nat.le_refl _) (by omega)).mono ?_
  rintro e w1 ⟨v',rfl,hown,hb1⟩
  rw [List.nil_append,Nat.zero_add] at hown
  go_wp2
  go_loopw [4,15] (fun sv si wr=>∃ k:Nat,k≤len∧si=.int .i64 k∧allOk (zs.take k)∧wr.ownsRow w.heap.size 5 1 sv (pack len++packs (zs.take k)).length (u8s (pack len++packs (zs.take k)))∧Below w.heap.size w wr) (fun _ si _=>len - (intOf si).toNat)
  case atStart=>exact ⟨0,by omega,rfl,okTo_zero zs,by simpa [packs] using hown,hb1⟩
  case round =>
   obtain ⟨k,hk,rfl,hto,ho,hbel⟩:=hrel
   by_cases hlt:k<len
   ·have hc:wr.cell? ⟨b,off+k,none⟩=some (.int .i64 (zs.getD k 0)):=by rw [hbel.cell (p:=⟨b,off+k,none⟩) hblt];exact hcell k hlt
    have hsn:=packs_snoc zs k (by omega)
    have hpl:=packs_len (zs.take k)
    have hp5:=(pack_len len).2
    have htl:(zs.take k).length≤4096:=by simp;omega
    have hm:(pack len++packs (zs.take k)).length≤1099511627776:=by rw [List.length_append];omega
    by_cases hx:0≤zs.getD k 0∧zs.getD k 0≤999999999
    ·have hto':=okTo_succ hto (by omega) hx
     generalize zs.getD k 0=x at hc hx hsn
     obtain ⟨n,rfl⟩:=Int.eq_ofNat_of_zero_le hx.1
     have hn:n≤999999999:=by omega
     rw [Int.toNat_natCast] at hsn
     have R:Hid (pack len++packs (zs.take k)++pack n=pack len++packs (zs.take (k+1))):=by rw [Hid,hsn,List.append_assoc]
     clear hsn hpl hp5 htl
     generalize pack len++packs (zs.take k)=ys at ho hm R
     have hbw:=hbel.size
     go_wp2_with (first | (go_at_call 128;refine (numberOK_yes _ _ hx).mono ?_;rintro e w' ⟨rfl,rfl⟩) | (go_at_call 68;refine (appendNumber_any w.heap.size _ _ ys n _ hn ho hbw hm).mono ?_;rintro e w2 ⟨v2,rfl,hown2,hb2⟩))
     rw [R.out,← List.length_append,R.out] at hown2
     go_roundw
     case rel=>exact ⟨k+1,by omega,by go_num,hto',hown2,hbel.trans hb2⟩
     case measure=>simp [intOf];omega
    ·have hbad:¬ allOk zs:=fun h=>hx (h _ (getD_mem (by omega)))
     generalize zs.getD k 0=x at hc hx hsn
     clear hsn hpl hp5 htl hm ho
     go_wp2_with (go_at_call 128;refine (numberOK_no _ _ hx).mono ?_;rintro e w' ⟨rfl,rfl⟩)
     go_ret2
     exact ⟨.inr ⟨hbad,rfl⟩,hbel⟩
   ·obtain rfl:k=len:=by omega
    rw [List.take_of_length_le (Nat.le_of_eq hl)] at hto ho
    have e:pack k++packs zs=packL zs:=by unfold packL;rw [hl]
    rw [e] at ho
    have hcv:=conv_owned ho
    clear ho
    go_wp2
    go_ret2
    exact ⟨.inl ⟨hto,rfl⟩,hbel⟩


theorem progNums_ok {rows:List (List I3)} (h:progOk rows=true):allOk (progNums rows):=by
 obtain ⟨_,hr⟩:=progOk_parts h
 intro z hz
 unfold progNums at hz
 obtain ⟨r,hrm,hz⟩:=List.mem_flatMap.1 hz
 obtain ⟨hl,hx⟩:=hr r hrm
 rcases List.mem_cons.1 hz with rfl | hz
 ·omega
 ·unfold rowNums at hz
  obtain ⟨x,hxm,hz⟩:=List.mem_flatMap.1 hz
  obtain ⟨h0,h1,h2⟩:=okI_small (hx x hxm)
  simp at hz
  rcases hz with rfl | rfl | rfl<;>omega


theorem progNums_pos {rows:List (List I3)} (h:rows.length=3):0<(progNums rows).length:=by
 match rows,h with
 | [_,_,_],_=>simp [progNums]
theorem own_some {w:World} {B e n:Nat} {v:Value} {cs:List Value} (h:w.ownsRow B e 1 v n cs) (hn:0<n):∃ g c,v=.slice (some ⟨g,0,none⟩) n c:=by
 rcases h.2 with ⟨_,h0⟩ | ⟨g,cap,cur,hv,_⟩
 ·omega
 ·exact ⟨g,cap,hv⟩

theorem implPack_ok (a:Option Addr) (len cap:Nat) (rows:List (List I3)) (w:World) (h:Codes w a len cap rows) (hok:progOk rows=true) :
  Calls Tryz.prog 71 #[.agg #[.slice a len cap]] w fun e w'=>e=.returned (.tuple #[.string (strOfNums (packL (progNums rows))),.int .i64 0])∧Below w.heap.size w w':=by
 obtain ⟨i0,hi,hz0,hz1,hz2⟩:=info_parts info_int
 obtain ⟨h3,hrows⟩:=progOk_parts hok
 have hall:=progNums_ok hok
 have hplen:=progNums_len (rows:=rows) (fun r hr=>(hrows r hr).1)
 have k:=implProgramOK_is a len cap rows
 rw [hok] at k
 clear hok
 go_enter Tryz.func71,Tryz.ntmps71
 go_wp2_with fail
 refine (k _ (h.below (by go_grown))).mono ?_
 rintro e w1 ⟨rfl,hb1⟩
 have cP:w1.cell? ⟨w.heap.size,0,none⟩=some (.slice a len cap):=by rw [hb1.cell (by simp)];simp [go_sem]
 have b1:Below w.heap.size w w1:=bel_trans (by go_grown) hb1
 clear hb1 k
 replace h:=h.below b1
 have b1s:=b1.size
 obtain ⟨hl,hlc,hcm,hcase⟩:=h
 obtain rfl:len=3:=by omega
 rcases hcase with h0 | ⟨b,off,rfl,hblt,hcell⟩
 ·omega
 unfold maxLen at hcm
 have hE:Hid (progNums rows=progNums (rows.take 3)):=by rw [Hid,List.take_of_length_le (by omega)]
 go_wp2
 go_loopw [4,15] (fun sv si wr=>∃ (k:Nat),k≤3∧si=.int .i64 k∧wr.ownsRow w1.heap.size 3 1 sv (progNums (rows.take k)).length ((progNums (rows.take k)).map (Value.int .i64))∧Below w1.heap.size w1 wr) (fun _ si _=>3 - (intOf si).toNat)
 case atStart=>exact ⟨0,by omega,rfl,by simpa [progNums] using World.ownsRow_nil _ _ _ _,by go_grown⟩
 case round =>
  obtain ⟨k,hk,rfl,hr,hbel⟩:=hrel
  by_cases hlt:k<3
  ·have hlt2:(k:Int)<3:=by omega
   have hk0:(0:Int)≤(k:Int):=by omega
   obtain ⟨a',len',cap',hc,hI⟩:=hcell k hlt
   have hst:=progNums_step (rows:=rows) (k:=k) (by omega)
   have hl6 : (rows.getD k []).length ≤ 6 := (hrows _ (by have : k < rows.length := by omega
                                                          simp [List.getD,this])).1
   have htl:(progNums (rows.take k)).length≤57:=by
    have:=progNums_len (rows:=rows.take k) (fun r hr=>(hrows r (List.mem_of_mem_take hr)).1)
    simp at this
    omega
   rw [hI.1] at hst hl6
   generalize rows.getD k []=xs at hI hst
   obtain ⟨ns,hns⟩:∃ ns,ns=progNums (rows.take k):=⟨_,rfl⟩
   rw [← hns] at hr htl hst
   have hst':Hid (progNums (rows.take (k+1))=(ns++[(len':Int)])++rowNums (xs.take len')):=by rw [Hid,hst,← hI.1,List.take_length]
   clear hst hns
   have hc':wr.cell? ⟨b,off+k,none⟩=some (.slice a' len' cap'):=by rw [hbel.cell (p:=⟨b,_,none⟩) hblt];exact hc
   have hbs:=hbel.size
   go_wp2_with (at_builtin;refine wpList_append_own _ rfl _ _ 40 rfl w1.heap.size 3 i0 (.int .i64 0) 1 8 Tryz.underlying40 hi hz0 hz1 hz2 rfl (by decide) _ _ _ rfl (hr.alloc _) ⟨wr.heap.size,0,none⟩ 1 1 [.int .i64 (len':Int)] rfl rfl (cell_one_new _ _ _) (one_i64'' _) ?c3 ?c4 ?c5 ?_)
   case c3=>unfold maxLen;omega
   case c4=>omega
   case c5=>simp;omega
   intro v2 w2 hown2 hgrow2 _
   have hb2:Below w1.heap.size w1 w2:=(hbel.alloc hbs _).grown hgrow2 (by simp;omega) (fun j hj=>(hr.lt _ hj).1)
   have hr2:w2.ownsRow w1.heap.size 3 1 v2 (ns.length+1) ((ns++[(len':Int)]).map (Value.int .i64)):=by simpa using hown2
   clear hown2 hgrow2 hr hbel hc' hbs
   obtain ⟨hl',hlc',hcm',_,hcase'⟩:=hI
   unfold maxLen at hcm'
   obtain ⟨ms,hms⟩:∃ ms,ms=ns++[(len':Int)]:=⟨_,rfl⟩
   have hml:ms.length=ns.length+1:=by rw [hms];simp
   rw [← hms] at hr2 hst'
   rw [← hml] at hr2
   clear hms
   go_wp2
   go_loopw [4,26] (fun sv si wi=>∃ (i:Nat),i≤len'∧si=.int .i64 i∧wi.ownsRow w1.heap.size 3 1 sv (ms++rowNums (xs.take i)).length ((ms++rowNums (xs.take i)).map (Value.int .i64))∧Below w1.heap.size w1 wi) (fun _ si _=>len' - (intOf si).toNat)
   case atStart=>exact ⟨0,by omega,rfl,by simpa [rowNums] using hr2,hb2⟩
   case round =>
    clear hr2 hb2
    obtain ⟨i,hi',rfl,hr,hbel⟩:=hrel
    by_cases hil:i<len'
    ·have hil2:(i:Int)<(len':Int):=by omega
     rcases hcase' with h0 | ⟨b',off',rfl,hblt',hcell'⟩
     ·omega
     obtain ⟨c0,c1,c2⟩:=hcell' i hil
     have hsi:=rowNums_step (xs:=xs) (k:=i) (by omega)
     generalize xs.getD i (0,0,0)=x at c0 c1 c2 hsi
     have htl2:(ms++rowNums (xs.take i)).length≤100:=by rw [List.length_append,rowNums_length,List.length_take];omega
     have hsi':Hid (ms++rowNums (xs.take (i+1))=(ms++rowNums (xs.take i))++[x.1,x.2.1,x.2.2]):=by rw [Hid,hsi,List.append_assoc]
     clear hsi hcell'
     have d0:wr.cell? ⟨b',off'+i*3,none⟩=some (.int .i64 x.1):=by rw [hbel.cell (p:=⟨b',_,none⟩) hblt'];exact c0
     have d1:wr.cell? ⟨b',off'+i*3+1,none⟩=some (.int .i64 x.2.1):=by rw [hbel.cell (p:=⟨b',_,none⟩) hblt'];exact c1
     have d2:wr.cell? ⟨b',off'+i*3+2,none⟩=some (.int .i64 x.2.2):=by rw [hbel.cell (p:=⟨b',_,none⟩) hblt'];exact c2
     clear c0 c1 c2
     generalize ms++rowNums (xs.take i)=ys at hr htl2 hsi'
     have hbs:=hbel.size
     go_wp2_with (at_builtin;refine wpList_append_own _ rfl _ _ 40 rfl w1.heap.size 3 i0 (.int .i64 0) 1 8 Tryz.underlying40 hi hz0 hz1 hz2 rfl (by decide) _ _ _ rfl ((hr.alloc _).alloc _) ⟨wr.heap.size+1,0,none⟩ 3 3 [.int .i64 x.1,.int .i64 x.2.1,.int .i64 x.2.2] rfl rfl ?c2 (three_i64 _ _ _) ?c3 ?c4 ?c5 ?_)
     case c2 =>
      have:=cell_three_new (wr.alloc (.cells #[.int .i64 x.1,.int .i64 x.2.1,.int .i64 x.2.2] 109)) (.int .i64 x.1) (.int .i64 x.2.1) (.int .i64 x.2.2) 3
      simpa using this
     case c3=>unfold maxLen;omega
     case c4=>omega
     case c5=>simp;omega
     intro v3 w3 hown3 hgrow3 _
     have hb3:Below w1.heap.size w1 w3:=((hbel.alloc hbs _).alloc (by simp;omega) _).grown hgrow3 (by simp;omega) (fun j hj=>(hr.lt _ hj).1)
     have hr3:w3.ownsRow w1.heap.size 3 1 v3 (ms++rowNums (xs.take (i+1))).length ((ms++rowNums (xs.take (i+1))).map (Value.int .i64)):=by rw [hsi'.out];simpa using hown3
     clear hown3 hgrow3 hr hbel d0 d1 d2 hbs hsi'
     go_wp2
     go_roundw
     case rel=>exact ⟨i+1,by omega,by go_num,hr3,hb3⟩
     case measure=>simp [intOf];omega
    ·obtain rfl:i=len':=by omega
     rw [← hst'.out] at hr
     clear hst' hcase'
     go_wp2
     go_roundw
     case rel=>exact ⟨k+1,by omega,by go_num,hr,hbel⟩
     case measure=>simp [intOf];omega
  ·obtain rfl:k=3:=by omega
   rw [← hE.out] at hr
   have hpos:0<(progNums rows).length:=progNums_pos h3
   obtain ⟨g,c2,hu4⟩:=own_some hr hpos
   subst hu4
   have hI2:Ints .i64 wr (some ⟨g,0,none⟩) (progNums rows).length c2 (progNums rows):=Ints.of_owns hr
   have bw:Below w.heap.size w wr:=b1.trans (hbel.mono b1s)
   clear hr hE hcell
   go_wp2_with fail
   refine (implPackList_any _ _ _ (progNums rows) _ hI2 (by omega)).mono ?_
   rintro e w4 ⟨hk4,hb4⟩
   rcases hk4 with ⟨_,rfl⟩ | ⟨hn,_⟩
   ·clear hall hI2
    go_wp2
    go_ret2
    exact ⟨rfl,bw.trans (hb4.mono bw.size)⟩
   ·exact absurd hall hn
end Go.Proofs.YtdopgkbegjfhjaaGreatDoor
