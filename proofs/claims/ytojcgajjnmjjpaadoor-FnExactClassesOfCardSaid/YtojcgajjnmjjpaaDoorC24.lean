/-
  Joined: Put#2.
-/
import Derived.Test.YtojcgajjnmjjpaaDoorC23

namespace Go.Proofs.YtojcgajjnmjjpaaDoor
set_option maxRecDepth 100000
set_option maxHeartbeats 16000000
open Go.RowKit
set_option linter.unusedVariables false
set_option linter.unusedSimpArgs false

theorem l04Put_is (b off n cap:Nat) (xs:List I3) (y:I3) (w:World) (h:Instrs w (some ⟨b,off,none⟩) n cap xs) (hn:n≤1000000) :
  Calls Tryd.prog 94 #[.slice (some ⟨b,off,none⟩) n cap,y.val] w fun e w'=>(∃ v,e=.returned v∧w'.ownsRow w.heap.size 142 3 v (putB xs y).length (flat (putB xs y)))∧Below w.heap.size w w':=by
 obtain ⟨i0,hi,hz0,hz1,hz2⟩:=info_parts info_bug
 have hl:=h.1
 have hle:=leadB_le xs y
 have hyes:=leadB_yes xs y
 have hno:=leadB_no xs y
 obtain ⟨L,hL⟩:∃ L,L=leadB xs y:=⟨_,rfl⟩
 have hput:=putB_lead xs y
 rw [← hL] at hle hyes hno hput
 clear hL
 have HY:Hid (∀ k,k<L→ltB (xs.getD k (0,0,0)) y=true):=hyes
 have HN:Hid (L<xs.length→ltB (xs.getD L (0,0,0)) y=false):=hno
 have HPut:Hid (putB xs y=if L<xs.length∧xs.getD L (0,0,0)=y then xs else (xs.take L++[y])++xs.drop L):=hput
 clear hyes hno hput
 have kL:=fun x (W:World)=>l04Less_is x y W
 obtain ⟨y0,y1,y2⟩:=y
 unfold I3.val at *
 simp only at kL
 have bw:Below w.heap.size w (w.alloc (.cells #[.int .i64 y0,.int .i64 y1,.int .i64 y2] 142)):=by go_grown
 have c0:(w.alloc (.cells #[.int .i64 y0,.int .i64 y1,.int .i64 y2] 142)).cell? ⟨w.heap.size,0,none⟩=some (.int .i64 y0):=by simp [go_sem]
 have c1:(w.alloc (.cells #[.int .i64 y0,.int .i64 y1,.int .i64 y2] 142)).cell? ⟨w.heap.size,1,none⟩=some (.int .i64 y1):=by simp [go_sem]
 have c2:(w.alloc (.cells #[.int .i64 y0,.int .i64 y1,.int .i64 y2] 142)).cell? ⟨w.heap.size,2,none⟩=some (.int .i64 y2):=by simp [go_sem]
 have hszA:w.heap.size+1≤(w.alloc (.cells #[.int .i64 y0,.int .i64 y1,.int .i64 y2] 142)).heap.size:=by simp
 go_enter Tryd.func94,Tryd.ntmps94
 go_wp2_with fail
 generalize w.alloc (.cells #[.int .i64 y0,.int .i64 y1,.int .i64 y2] 142)=W0 at *
 go_loopw [5] (fun si wr=>∃ k:Nat,k≤L∧si=.int .i64 k∧Below w.heap.size w wr∧w.heap.size+1≤wr.heap.size∧wr.cell? ⟨w.heap.size,0,none⟩=some (.int .i64 y0)∧wr.cell? ⟨w.heap.size,1,none⟩=some (.int .i64 y1)∧wr.cell? ⟨w.heap.size,2,none⟩=some (.int .i64 y2)) (fun si _=>L - (intOf si).toNat)
 case atStart=>exact ⟨0,by omega,rfl,bw,hszA,c0,c1,c2⟩
 case round =>
  clear bw c0 c1 c2 hszA
  obtain ⟨k,hk,rfl,bw,hsz,c0,c1,c2⟩:=hrel
  have hX:=h.below bw
  have hkn:k≤n:=by omega
  obtain ⟨o2,rD,hD⟩:=slice_l3 h hkn
  have rT:=(slice_h3 hX hkn).1
  by_cases hlt:k<n
  ·have hki:(k:Int)<(n:Int):=by omega
   have hk0:(0:Int)≤(k:Int):=by omega
   have hX':=hX
   obtain ⟨_,_,_,_,hcase⟩:=hX'
   rcases hcase with h0 | ⟨b',off',he,hb,hc⟩
   ·omega
   cases he
   obtain ⟨d0,d1,d2⟩:=hc k hlt
   clear hc hb
   obtain ⟨x,hx⟩:∃ x,x=xs.getD k (0,0,0):=⟨_,rfl⟩
   rw [← hx] at d0 d1 d2
   have HX:Hid (x=xs.getD k (0,0,0)):=hx
   clear hx
   have kX:=kL x
   by_cases hkL:k<L
   ·rw [HX.out,HY.out k hkL,← HX.out] at kX
    clear rD rT hX
    obtain ⟨x0,x1,x2⟩:=x
    simp only at d0 d1 d2 kX
    go_wp2_with fail
    go_region_held3 (fun w'=>w'.cell? ⟨b,off+k*3,none⟩=some (.int .i64 x0)∧w'.cell? ⟨b,off+k*3+1,none⟩=some (.int .i64 x1)∧w'.cell? ⟨b,off+k*3+2,none⟩=some (.int .i64 x2)∧w'.cell? ⟨w.heap.size,0,none⟩=some (.int .i64 y0)∧w'.cell? ⟨w.heap.size,1,none⟩=some (.int .i64 y1)∧w'.cell? ⟨w.heap.size,2,none⟩=some (.int .i64 y2)) (first | (exact ⟨d0,d1,d2,c0,c1,c2⟩) | (refine ⟨?_,?_,?_,?_,?_,?_⟩<;>(apply cells_kept (by assumption);assumption)) | go_keep)
     (first | (go_at_call 105;refine (kX _).mono ?_;rintro e w1 ⟨rfl,hb1⟩))
    have bw1:Below w.heap.size w w1:=bel_trans bw (bel_trans (by go_grown) hb1)
    have hsz1:w.heap.size+1≤w1.heap.size:=Nat.le_trans hsz (Nat.le_trans (Nat.le_refl _) hb1.size)
    have f0:=cells_kept hb1 _ _ c0
    have f1:=cells_kept hb1 _ _ c1
    have f2:=cells_kept hb1 _ _ c2
    clear hb1
    go_wp2
    go_roundw
    case rel=>exact ⟨k+1,by omega,by go_num,bw1,hsz1,f0,f1,f2⟩
    case measure=>simp [intOf];omega
   ·obtain rfl:k=L:=by omega
    rw [HX.out,HN.out (by omega),← HX.out] at kX
    have HE:Hid (putB xs (y0,y1,y2)=if x=(y0,y1,y2) then xs else (xs.take k++[(y0,y1,y2)])++xs.drop k):=by
     have h9:=HPut.out
     rw [← HX.out] at h9
     have h8:k<xs.length:=by omega
     simp only [h8,true_and] at h9
     exact h9
    obtain ⟨x0,x1,x2⟩:=x
    simp only at d0 d1 d2 kX
    go_wp2_with fail
    go_region_held3 (fun w'=>w'.cell? ⟨b,off+k*3,none⟩=some (.int .i64 x0)∧w'.cell? ⟨b,off+k*3+1,none⟩=some (.int .i64 x1)∧w'.cell? ⟨b,off+k*3+2,none⟩=some (.int .i64 x2)∧w'.cell? ⟨w.heap.size,0,none⟩=some (.int .i64 y0)∧w'.cell? ⟨w.heap.size,1,none⟩=some (.int .i64 y1)∧w'.cell? ⟨w.heap.size,2,none⟩=some (.int .i64 y2)) (first | (exact ⟨d0,d1,d2,c0,c1,c2⟩) | (refine ⟨?_,?_,?_,?_,?_,?_⟩<;>(apply cells_kept (by assumption);assumption)) | go_keep)
     (first | (go_at_call 105;refine (kX _).mono ?_;rintro e w1 ⟨rfl,hb1⟩))
    have bw1:Below w.heap.size w w1:=bel_trans bw (bel_trans (by go_grown) hb1)
    have hsz1:w.heap.size+1≤w1.heap.size:=Nat.le_trans hsz (Nat.le_trans (Nat.le_refl _) hb1.size)
    have f0:=cells_kept hb1 _ _ c0
    have f1:=cells_kept hb1 _ _ c1
    have f2:=cells_kept hb1 _ _ c2
    have m0:=cells_kept hb1 _ _ d0
    have m1:=cells_kept hb1 _ _ d1
    have m2:=cells_kept hb1 _ _ d2
    clear hb1 c0 c1 c2 d0 d1 d2 bw hsz hX
    have hX:=h.below bw1
    have bw:=bw1
    have hsz:=hsz1
    have c0:=f0
    have c1:=f1
    have c2:=f2
    have d0:=m0
    have d1:=m1
    have d2:=m2
    clear bw1 hsz1 f0 f1 f2 m0 m1 m2
    go_wp2_with fail
    by_cases hE:(x0,x1,x2)=(y0,y1,y2)
    ·cases hE
     have HQ:Hid (putB xs (y0,y1,y2)=xs):=by
      have h9:=HE.out
      rw [if_pos rfl] at h9
      exact h9
     have hxx0:(y0 == y0)=true:=by simp
     have hxx1:(y1 == y1)=true:=by simp
     have hxx2:(y2 == y2)=true:=by simp
     clear HE HPut HN kX rD rT
     go_quiet (fail)
     have hXd:=h.below (below_drewN bw nq)
     have bwd:=below_drewN bw nq
     have hszd:w.heap.size≤(w1.drewN nq).heap.size:=bwd.size
     generalize w1.drewN nq=UE at *
     clear c0 c1 c2 d0 d1 d2 bw hX hsz
     go_wp2_with (at_builtin;refine wpList_append_own _ rfl _ _ 127 rfl w.heap.size 142 i0 (.agg #[.int .i64 0,.int .i64 0,.int .i64 0]) 3 24 Tryd.underlying127 hi hz0 hz1 hz2 rfl (by decide) _ _ _ rfl (own_emptyB UE 142 3 w.heap.size hszd) ⟨b,off,none⟩ n cap (flat xs) rfl (by rw [flat_length];omega) (instrs_news (hXd.below (by go_grown))) (flat_one _) ?c3 ?c4 ?c5 ?_)
     case c3=>unfold maxLen;omega
     case c4=>omega
     case c5=>simp;omega
     intro v7 w7 hown7 hgrow7 _
     replace hown7:w7.ownsRow w.heap.size 142 3 v7 n (flat xs):=by simpa using hown7
     have bw7:Below w.heap.size w w7:=(bel_trans bwd (show Below UE.heap.size UE (UE.alloc (.cells #[] 142)) by go_grown)).grown hgrow7 (by simp;omega) (fun g hg=>by simp [Value.ownBlock] at hg;omega)
     obtain ⟨g,c,rfl⟩:=own_someB hown7 (by omega)
     have hQ:w7.ownsRow w.heap.size 142 3 (.slice (some ⟨g,0,none⟩) n c) (putB xs (y0,y1,y2)).length (flat (putB xs (y0,y1,y2))):=by
      rw [HQ.out,hl]
      exact hown7
     clear hown7 hgrow7
     go_wp2
     go_ret
     exact ⟨⟨_,rfl,hQ⟩,bw7⟩
    ·have HP:Hid (∀ (v:Value) (W:World),W.ownsRow (w.heap.size+1) 142 3 v (0+k+1+(n - k)) (([]++flat (xs.take k)++[.int .i64 y0,.int .i64 y1,.int .i64 y2])++flat (xs.drop k))→W.ownsRow w.heap.size 142 3 v (putB xs (y0,y1,y2)).length (flat (putB xs (y0,y1,y2)))):=by
      intro v W q
      have h9:=HE.out
      rw [if_neg hE] at h9
      have hlen:(putB xs (y0,y1,y2)).length=0+k+1+(n - k):=by rw [h9];simp;omega
      rw [hlen,h9,flat_append,flat_append]
      simpa [flat,I3.cells] using own_lowerB q (by omega)
     have hcmp:(x0 == y0 && (x1 == y1 && x2 == y2))=false:=by
      cases hq:(x0 == y0 && (x1 == y1 && x2 == y2))
      ·rfl
      ·simp at hq;simp [hq] at hE
     have h3:x0≠y0∨(x0=y0∧x1≠y1)∨(x0=y0∧x1=y1∧x2≠y2):=by
      by_cases q0:x0=y0
      ·by_cases q1:x1=y1
       ·refine .inr (.inr ⟨q0,q1,fun q2=>hE ?_⟩)
        rw [q0,q1,q2]
       ·exact .inr (.inl ⟨q0,q1⟩)
      ·exact .inl q0
     clear HE HPut HN kX hcmp hE
     rcases h3 with t0 | ⟨rfl,t1⟩ | ⟨rfl,rfl,t2⟩
     ·have t0':(x0 == y0)=false:=by simp [t0]
      go_quiet (fail)
      replace c0:(w1.drewN nq).cell? ⟨w.heap.size,0,none⟩=some (.int .i64 y0):=c0
      replace c1:(w1.drewN nq).cell? ⟨w.heap.size,1,none⟩=some (.int .i64 y1):=c1
      replace c2:(w1.drewN nq).cell? ⟨w.heap.size,2,none⟩=some (.int .i64 y2):=c2
      replace bw:=below_drewN bw nq
      replace hX:=h.below bw
      replace hsz:w.heap.size+1≤(w1.drewN nq).heap.size:=hsz
      generalize w1.drewN nq=UA at *
      go_wp2_with fail
      refine wp_region_held_drew (S:=(fun w'=>w'.cell? ⟨w.heap.size,0,none⟩=some (.int .i64 y0)∧w'.cell? ⟨w.heap.size,1,none⟩=some (.int .i64 y1)∧w'.cell? ⟨w.heap.size,2,none⟩=some (.int .i64 y2))) (by kernel_rfl) ⟨c0,c1,c2⟩ (fun hS0=>?_)
      refine tkm 1 36 (.slice (some ⟨b,off,none⟩) n cap) ?_
      refine tkm 2 37 (.int .i64 (k:Int)) ?_
      refine tkm 3 38 (.slice (some ⟨b,off,none⟩) k cap) ?_
      refine tkm 5 40 (.agg #[.int .i64 y0,.int .i64 y1,.int .i64 y2]) ?_
      refine tkm 8 43 (.slice (some ⟨b,off,none⟩) n cap) ?_
      refine tkm 9 44 (.int .i64 (k:Int)) ?_
      refine tkm 10 45 (.slice (some ⟨b,o2,none⟩) (n - k) (cap - k)) ?_
      refine wpAnyH_ready (rs:=[0,6]) (by kernel_rfl) (by simp) ?_
      refine AllReadyH.cons (o:=⟨some 35,_,_,_,_,_⟩) rfl (fun K hK=>?_) (AllReadyH.cons (o:=⟨some 41,_,_,_,_,_⟩) rfl (fun K hK=>?_) AllReadyH.nil)
      ·have q:=(own_emptyB UA 142 3 (w.heap.size+1) hsz).drew
       have hal:Below UA.heap.size UA (UA.alloc (.cells #[] 142)).drew:=by go_grown
       replace c0:=cells_kept hal _ _ c0
       replace c1:=cells_kept hal _ _ c1
       replace c2:=cells_kept hal _ _ c2
       replace bw:=bel_trans bw hal
       replace hX:=hX.below hal
       replace hsz:w.heap.size+1≤(UA.alloc (.cells #[] 142)).drew.heap.size:=Nat.le_trans hsz hal.size
       go_simp
       refine hK.out _ _ ⟨c0,c1,c2⟩ (fun hS1=>?_)
       clear hK hal
       generalize UA.heap.size=V1 at *
       generalize (UA.alloc (.cells #[] 142)).drew=U1 at *
       try simp only [Act.put,tka,tkb,tkc]
       refine wpAnyH_ready (rs:=[4,6]) (by kernel_rfl) (by simp) ?_
       refine AllReadyH.cons (o:=⟨some 39,_,_,_,_,_⟩) rfl (fun K hK=>?_) (AllReadyH.cons (o:=⟨some 41,_,_,_,_,_⟩) rfl (fun K hK=>?_) AllReadyH.nil)
       ·refine step_append_atB rfl _ _ 127 rfl (w.heap.size+1) 142 i0 (.agg #[.int .i64 0,.int .i64 0,.int .i64 0]) 3 24 Tryd.underlying127 hi hz0 hz1 hz2 rfl (by decide) (.slice (some ⟨V1,0,none⟩) 0 0) 0 [] rfl q ⟨b,off,none⟩ k cap (flat (xs.take k)) rfl (by rw [flat_length,List.length_take];omega) (instrs_news (slice_h3 hX hkn).2) (flat_one _) (by unfold maxLen;omega) (by omega) hsz ?_
        intro v2 U2 q2 gr hob
        replace c0:=cell_grownB gr c0 (fun e=>Nat.not_succ_le_self _ (q.lt _ e.symm).1)
        replace c1:=cell_grownB gr c1 (fun e=>Nat.not_succ_le_self _ (q.lt _ e.symm).1)
        replace c2:=cell_grownB gr c2 (fun e=>Nat.not_succ_le_self _ (q.lt _ e.symm).1)
        replace bw:=bw.grown gr bw.size (fun g hg=>by have:=(q.lt g hg).1;omega)
        replace hX:=h.below bw
        replace hsz:w.heap.size+1≤U2.heap.size:=Nat.le_trans hsz gr.size
        refine hK.out _ _ ⟨c0,c1,c2⟩ (fun hS2=>?_)
        clear hK q gr hob
        have q:=q2
        clear q2
        try simp only [Act.put,tka,tkb,tkc]
        refine tkr 6 41 (fun K hK=>?_)
        obtain ⟨G,hG⟩:∃ G,G=U2.heap.size:=⟨_,rfl⟩
        have e0:(U2.alloc (.cells #[.int .i64 y0,.int .i64 y1,.int .i64 y2] 142)).cell? ⟨G,0,none⟩=some (.int .i64 y0):=by subst hG;simp [go_sem]
        have e1:(U2.alloc (.cells #[.int .i64 y0,.int .i64 y1,.int .i64 y2] 142)).cell? ⟨G,1,none⟩=some (.int .i64 y1):=by subst hG;simp [go_sem]
        have e2:(U2.alloc (.cells #[.int .i64 y0,.int .i64 y1,.int .i64 y2] 142)).cell? ⟨G,2,none⟩=some (.int .i64 y2):=by subst hG;simp [go_sem]
        have hal:Below U2.heap.size U2 (U2.alloc (.cells #[.int .i64 y0,.int .i64 y1,.int .i64 y2] 142)):=by go_grown
        have hap:∀ g,Value.ownBlock v2=some g→g≠G:=fun g hg e=>by have:=(q.lt g hg).2;omega
        replace q:=owns_below q hal
        replace c0:=cells_kept hal _ _ c0
        replace c1:=cells_kept hal _ _ c1
        replace c2:=cells_kept hal _ _ c2
        replace bw:=bel_trans bw hal
        replace hX:=hX.below hal
        replace hsz:w.heap.size+1≤(U2.alloc (.cells #[.int .i64 y0,.int .i64 y1,.int .i64 y2] 142)).heap.size:=Nat.le_trans hsz hal.size
        go_simp
        rw [← hG]
        refine hK.out _ _ ⟨c0,c1,c2⟩ (fun hS3=>?_)
        clear hK hal
        clear hG
        generalize (U2.alloc (.cells #[.int .i64 y0,.int .i64 y1,.int .i64 y2] 142))=U3 at *
        try simp only [Act.put,tka,tkb,tkc]
        refine tkr 7 42 (fun K hK=>?_)
        refine step_append_atB rfl _ _ 127 rfl (w.heap.size+1) 142 i0 (.agg #[.int .i64 0,.int .i64 0,.int .i64 0]) 3 24 Tryd.underlying127 hi hz0 hz1 hz2 rfl (by decide) v2 (0+k) ([]++flat (xs.take k)) rfl q ⟨G,0,none⟩ 1 1 [.int .i64 y0,.int .i64 y1,.int .i64 y2] rfl rfl (three_at e0 e1 e2) (three_one _ _ _) (by unfold maxLen;omega) (by omega) hsz ?_
        intro v4 U4 q2 gr hob
        replace c0:=cell_grownB gr c0 (fun e=>Nat.not_succ_le_self _ (q.lt _ e.symm).1)
        replace c1:=cell_grownB gr c1 (fun e=>Nat.not_succ_le_self _ (q.lt _ e.symm).1)
        replace c2:=cell_grownB gr c2 (fun e=>Nat.not_succ_le_self _ (q.lt _ e.symm).1)
        replace bw:=bw.grown gr bw.size (fun g hg=>by have:=(q.lt g hg).1;omega)
        replace hX:=h.below bw
        replace hsz:w.heap.size+1≤U4.heap.size:=Nat.le_trans hsz gr.size
        refine hK.out _ _ ⟨c0,c1,c2⟩ (fun hS4=>?_)
        clear hK q gr hob
        have q:=q2
        clear q2
        clear e0 e1 e2 hap
        try simp only [Act.put,tka,tkb,tkc]
        refine tkr 11 46 (fun K hK=>?_)
        refine step_append_atB rfl _ _ 127 rfl (w.heap.size+1) 142 i0 (.agg #[.int .i64 0,.int .i64 0,.int .i64 0]) 3 24 Tryd.underlying127 hi hz0 hz1 hz2 rfl (by decide) v4 (0+k+1) (([]++flat (xs.take k))++[.int .i64 y0,.int .i64 y1,.int .i64 y2]) rfl q ⟨b,o2,none⟩ (n - k) (cap - k) (flat (xs.drop k)) rfl (by rw [flat_length,List.length_drop];omega) (instrs_news (hD.below bw)) (flat_one _) (by unfold maxLen;omega) (by omega) hsz ?_
        intro v5 U5 q2 gr hob
        replace c0:=cell_grownB gr c0 (fun e=>Nat.not_succ_le_self _ (q.lt _ e.symm).1)
        replace c1:=cell_grownB gr c1 (fun e=>Nat.not_succ_le_self _ (q.lt _ e.symm).1)
        replace c2:=cell_grownB gr c2 (fun e=>Nat.not_succ_le_self _ (q.lt _ e.symm).1)
        replace bw:=bw.grown gr bw.size (fun g hg=>by have:=(q.lt g hg).1;omega)
        replace hX:=h.below bw
        replace hsz:w.heap.size+1≤U5.heap.size:=Nat.le_trans hsz gr.size
        refine hK.out _ _ ⟨c0,c1,c2⟩ (fun hS5=>?_)
        clear hK q gr hob
        have q:=q2
        clear q2
        try simp only [Act.put,tka,tkb,tkc]
        refine tkm 12 4 v5 ?_
        refine wpAnyH_done (by kernel_rfl) ?_ _
        have hQ:=HP.out _ _ q
        obtain ⟨g,c,rfl⟩:=own_someB q (by omega)
        clear q c0 c1 c2 rT rD
        go_wp2
        go_ret
        exact ⟨⟨_,rfl,hQ⟩,bw⟩
       ·obtain ⟨G,hG⟩:∃ G,G=U1.heap.size:=⟨_,rfl⟩
        have e0:(U1.alloc (.cells #[.int .i64 y0,.int .i64 y1,.int .i64 y2] 142)).cell? ⟨G,0,none⟩=some (.int .i64 y0):=by subst hG;simp [go_sem]
        have e1:(U1.alloc (.cells #[.int .i64 y0,.int .i64 y1,.int .i64 y2] 142)).cell? ⟨G,1,none⟩=some (.int .i64 y1):=by subst hG;simp [go_sem]
        have e2:(U1.alloc (.cells #[.int .i64 y0,.int .i64 y1,.int .i64 y2] 142)).cell? ⟨G,2,none⟩=some (.int .i64 y2):=by subst hG;simp [go_sem]
        have hal:Below U1.heap.size U1 (U1.alloc (.cells #[.int .i64 y0,.int .i64 y1,.int .i64 y2] 142)):=by go_grown
        have hap:∀ g,Value.ownBlock (.slice (some ⟨V1,0,none⟩) 0 0)=some g→g≠G:=fun g hg e=>by have:=(q.lt g hg).2;omega
        replace q:=owns_below q hal
        replace c0:=cells_kept hal _ _ c0
        replace c1:=cells_kept hal _ _ c1
        replace c2:=cells_kept hal _ _ c2
        replace bw:=bel_trans bw hal
        replace hX:=hX.below hal
        replace hsz:w.heap.size+1≤(U1.alloc (.cells #[.int .i64 y0,.int .i64 y1,.int .i64 y2] 142)).heap.size:=Nat.le_trans hsz hal.size
        go_simp
        rw [← hG]
        refine hK.out _ _ ⟨c0,c1,c2⟩ (fun hS6=>?_)
        clear hK hal
        clear hG
        generalize (U1.alloc (.cells #[.int .i64 y0,.int .i64 y1,.int .i64 y2] 142))=U6 at *
        try simp only [Act.put,tka,tkb,tkc]
        refine tkr 4 39 (fun K hK=>?_)
        have hGl:=World.block_lt_of_cell? _ _ e0
        refine step_append_atB rfl _ _ 127 rfl (w.heap.size+1) 142 i0 (.agg #[.int .i64 0,.int .i64 0,.int .i64 0]) 3 24 Tryd.underlying127 hi hz0 hz1 hz2 rfl (by decide) (.slice (some ⟨V1,0,none⟩) 0 0) 0 [] rfl q ⟨b,off,none⟩ k cap (flat (xs.take k)) rfl (by rw [flat_length,List.length_take];omega) (instrs_news (slice_h3 hX hkn).2) (flat_one _) (by unfold maxLen;omega) (by omega) hsz ?_
        intro v7 U7 q2 gr hob
        replace c0:=cell_grownB gr c0 (fun e=>Nat.not_succ_le_self _ (q.lt _ e.symm).1)
        replace c1:=cell_grownB gr c1 (fun e=>Nat.not_succ_le_self _ (q.lt _ e.symm).1)
        replace c2:=cell_grownB gr c2 (fun e=>Nat.not_succ_le_self _ (q.lt _ e.symm).1)
        replace e0:=cell_grownB gr e0 (fun e=>hap _ e.symm rfl)
        replace e1:=cell_grownB gr e1 (fun e=>hap _ e.symm rfl)
        replace e2:=cell_grownB gr e2 (fun e=>hap _ e.symm rfl)
        have hap2:∀ g,Value.ownBlock v7=some g→g≠G:=fun g hg e=>by
         rcases hob with hu | hu
         ·exact hap g (hu▸hg) e
         ·rw [hu] at hg
          simp at hg hGl
          omega
        clear hap hGl
        have hap:=hap2
        clear hap2
        replace bw:=bw.grown gr bw.size (fun g hg=>by have:=(q.lt g hg).1;omega)
        replace hX:=h.below bw
        replace hsz:w.heap.size+1≤U7.heap.size:=Nat.le_trans hsz gr.size
        refine hK.out _ _ ⟨c0,c1,c2⟩ (fun hS7=>?_)
        clear hK q gr hob
        have q:=q2
        clear q2
        try simp only [Act.put,tka,tkb,tkc]
        refine tkr 7 42 (fun K hK=>?_)
        refine step_append_atB rfl _ _ 127 rfl (w.heap.size+1) 142 i0 (.agg #[.int .i64 0,.int .i64 0,.int .i64 0]) 3 24 Tryd.underlying127 hi hz0 hz1 hz2 rfl (by decide) v7 (0+k) ([]++flat (xs.take k)) rfl q ⟨G,0,none⟩ 1 1 [.int .i64 y0,.int .i64 y1,.int .i64 y2] rfl rfl (three_at e0 e1 e2) (three_one _ _ _) (by unfold maxLen;omega) (by omega) hsz ?_
        intro v8 U8 q2 gr hob
        replace c0:=cell_grownB gr c0 (fun e=>Nat.not_succ_le_self _ (q.lt _ e.symm).1)
        replace c1:=cell_grownB gr c1 (fun e=>Nat.not_succ_le_self _ (q.lt _ e.symm).1)
        replace c2:=cell_grownB gr c2 (fun e=>Nat.not_succ_le_self _ (q.lt _ e.symm).1)
        replace bw:=bw.grown gr bw.size (fun g hg=>by have:=(q.lt g hg).1;omega)
        replace hX:=h.below bw
        replace hsz:w.heap.size+1≤U8.heap.size:=Nat.le_trans hsz gr.size
        refine hK.out _ _ ⟨c0,c1,c2⟩ (fun hS8=>?_)
        clear hK q gr hob
        have q:=q2
        clear q2
        clear e0 e1 e2 hap
        try simp only [Act.put,tka,tkb,tkc]
        refine tkr 11 46 (fun K hK=>?_)
        refine step_append_atB rfl _ _ 127 rfl (w.heap.size+1) 142 i0 (.agg #[.int .i64 0,.int .i64 0,.int .i64 0]) 3 24 Tryd.underlying127 hi hz0 hz1 hz2 rfl (by decide) v8 (0+k+1) (([]++flat (xs.take k))++[.int .i64 y0,.int .i64 y1,.int .i64 y2]) rfl q ⟨b,o2,none⟩ (n - k) (cap - k) (flat (xs.drop k)) rfl (by rw [flat_length,List.length_drop];omega) (instrs_news (hD.below bw)) (flat_one _) (by unfold maxLen;omega) (by omega) hsz ?_
        intro v9 U9 q2 gr hob
        replace c0:=cell_grownB gr c0 (fun e=>Nat.not_succ_le_self _ (q.lt _ e.symm).1)
        replace c1:=cell_grownB gr c1 (fun e=>Nat.not_succ_le_self _ (q.lt _ e.symm).1)
        replace c2:=cell_grownB gr c2 (fun e=>Nat.not_succ_le_self _ (q.lt _ e.symm).1)
        replace bw:=bw.grown gr bw.size (fun g hg=>by have:=(q.lt g hg).1;omega)
        replace hX:=h.below bw
        replace hsz:w.heap.size+1≤U9.heap.size:=Nat.le_trans hsz gr.size
        refine hK.out _ _ ⟨c0,c1,c2⟩ (fun hS9=>?_)
        clear hK q gr hob
        have q:=q2
        clear q2
        try simp only [Act.put,tka,tkb,tkc]
        refine tkm 12 4 v9 ?_
        refine wpAnyH_done (by kernel_rfl) ?_ _
        have hQ:=HP.out _ _ q
        obtain ⟨g,c,rfl⟩:=own_someB q (by omega)
        clear q c0 c1 c2 rT rD
        go_wp2
        go_ret
        exact ⟨⟨_,rfl,hQ⟩,bw⟩
      ·obtain ⟨G,hG⟩:∃ G,G=UA.heap.size:=⟨_,rfl⟩
       have e0:(UA.alloc (.cells #[.int .i64 y0,.int .i64 y1,.int .i64 y2] 142)).drew.cell? ⟨G,0,none⟩=some (.int .i64 y0):=by subst hG;simp [go_sem]
       have e1:(UA.alloc (.cells #[.int .i64 y0,.int .i64 y1,.int .i64 y2] 142)).drew.cell? ⟨G,1,none⟩=some (.int .i64 y1):=by subst hG;simp [go_sem]
       have e2:(UA.alloc (.cells #[.int .i64 y0,.int .i64 y1,.int .i64 y2] 142)).drew.cell? ⟨G,2,none⟩=some (.int .i64 y2):=by subst hG;simp [go_sem]
       have hal:Below UA.heap.size UA (UA.alloc (.cells #[.int .i64 y0,.int .i64 y1,.int .i64 y2] 142)).drew:=by go_grown
       replace c0:=cells_kept hal _ _ c0
       replace c1:=cells_kept hal _ _ c1
       replace c2:=cells_kept hal _ _ c2
       replace bw:=bel_trans bw hal
       replace hX:=hX.below hal
       replace hsz:w.heap.size+1≤(UA.alloc (.cells #[.int .i64 y0,.int .i64 y1,.int .i64 y2] 142)).drew.heap.size:=Nat.le_trans hsz hal.size
       go_simp
       rw [← hG]
       refine hK.out _ _ ⟨c0,c1,c2⟩ (fun hS10=>?_)
       clear hK hal
       clear hG
       generalize (UA.alloc (.cells #[.int .i64 y0,.int .i64 y1,.int .i64 y2] 142)).drew=U10 at *
       try simp only [Act.put,tka,tkb,tkc]
       refine tkr 0 35 (fun K hK=>?_)
       have q:=(own_emptyB U10 142 3 (w.heap.size+1) hsz)
       have hap:∀ g,(Value.slice (some ⟨U10.heap.size,0,none⟩) 0 0).ownBlock=some g→g≠G:=fun g hg e=>by have hGl:=World.block_lt_of_cell? _ _ e0;simp [Value.ownBlock] at hg;simp at hGl;omega
       have hal:Below U10.heap.size U10 (U10.alloc (.cells #[] 142)):=by go_grown
       replace e0:=cells_kept hal _ _ e0
       replace e1:=cells_kept hal _ _ e1
       replace e2:=cells_kept hal _ _ e2
       replace c0:=cells_kept hal _ _ c0
       replace c1:=cells_kept hal _ _ c1
       replace c2:=cells_kept hal _ _ c2
       replace bw:=bel_trans bw hal
       replace hX:=hX.below hal
       replace hsz:w.heap.size+1≤(U10.alloc (.cells #[] 142)).heap.size:=Nat.le_trans hsz hal.size
       go_simp
       refine hK.out _ _ ⟨c0,c1,c2⟩ (fun hS11=>?_)
       clear hK hal
       generalize U10.heap.size=V11 at *
       generalize (U10.alloc (.cells #[] 142))=U11 at *
       try simp only [Act.put,tka,tkb,tkc]
       refine tkr 4 39 (fun K hK=>?_)
       have hGl:=World.block_lt_of_cell? _ _ e0
       refine step_append_atB rfl _ _ 127 rfl (w.heap.size+1) 142 i0 (.agg #[.int .i64 0,.int .i64 0,.int .i64 0]) 3 24 Tryd.underlying127 hi hz0 hz1 hz2 rfl (by decide) (.slice (some ⟨V11,0,none⟩) 0 0) 0 [] rfl q ⟨b,off,none⟩ k cap (flat (xs.take k)) rfl (by rw [flat_length,List.length_take];omega) (instrs_news (slice_h3 hX hkn).2) (flat_one _) (by unfold maxLen;omega) (by omega) hsz ?_
       intro v12 U12 q2 gr hob
       replace c0:=cell_grownB gr c0 (fun e=>Nat.not_succ_le_self _ (q.lt _ e.symm).1)
       replace c1:=cell_grownB gr c1 (fun e=>Nat.not_succ_le_self _ (q.lt _ e.symm).1)
       replace c2:=cell_grownB gr c2 (fun e=>Nat.not_succ_le_self _ (q.lt _ e.symm).1)
       replace e0:=cell_grownB gr e0 (fun e=>hap _ e.symm rfl)
       replace e1:=cell_grownB gr e1 (fun e=>hap _ e.symm rfl)
       replace e2:=cell_grownB gr e2 (fun e=>hap _ e.symm rfl)
       have hap2:∀ g,Value.ownBlock v12=some g→g≠G:=fun g hg e=>by
        rcases hob with hu | hu
        ·exact hap g (hu▸hg) e
        ·rw [hu] at hg
         simp at hg hGl
         omega
       clear hap hGl
       have hap:=hap2
       clear hap2
       replace bw:=bw.grown gr bw.size (fun g hg=>by have:=(q.lt g hg).1;omega)
       replace hX:=h.below bw
       replace hsz:w.heap.size+1≤U12.heap.size:=Nat.le_trans hsz gr.size
       refine hK.out _ _ ⟨c0,c1,c2⟩ (fun hS12=>?_)
       clear hK q gr hob
       have q:=q2
       clear q2
       try simp only [Act.put,tka,tkb,tkc]
       refine tkr 7 42 (fun K hK=>?_)
       refine step_append_atB rfl _ _ 127 rfl (w.heap.size+1) 142 i0 (.agg #[.int .i64 0,.int .i64 0,.int .i64 0]) 3 24 Tryd.underlying127 hi hz0 hz1 hz2 rfl (by decide) v12 (0+k) ([]++flat (xs.take k)) rfl q ⟨G,0,none⟩ 1 1 [.int .i64 y0,.int .i64 y1,.int .i64 y2] rfl rfl (three_at e0 e1 e2) (three_one _ _ _) (by unfold maxLen;omega) (by omega) hsz ?_
       intro v13 U13 q2 gr hob
       replace c0:=cell_grownB gr c0 (fun e=>Nat.not_succ_le_self _ (q.lt _ e.symm).1)
       replace c1:=cell_grownB gr c1 (fun e=>Nat.not_succ_le_self _ (q.lt _ e.symm).1)
       replace c2:=cell_grownB gr c2 (fun e=>Nat.not_succ_le_self _ (q.lt _ e.symm).1)
       replace bw:=bw.grown gr bw.size (fun g hg=>by have:=(q.lt g hg).1;omega)
       replace hX:=h.below bw
       replace hsz:w.heap.size+1≤U13.heap.size:=Nat.le_trans hsz gr.size
       refine hK.out _ _ ⟨c0,c1,c2⟩ (fun hS13=>?_)
       clear hK q gr hob
       have q:=q2
       clear q2
       clear e0 e1 e2 hap
       try simp only [Act.put,tka,tkb,tkc]
       refine tkr 11 46 (fun K hK=>?_)
       refine step_append_atB rfl _ _ 127 rfl (w.heap.size+1) 142 i0 (.agg #[.int .i64 0,.int .i64 0,.int .i64 0]) 3 24 Tryd.underlying127 hi hz0 hz1 hz2 rfl (by decide) v13 (0+k+1) (([]++flat (xs.take k))++[.int .i64 y0,.int .i64 y1,.int .i64 y2]) rfl q ⟨b,o2,none⟩ (n - k) (cap - k) (flat (xs.drop k)) rfl (by rw [flat_length,List.length_drop];omega) (instrs_news (hD.below bw)) (flat_one _) (by unfold maxLen;omega) (by omega) hsz ?_
       intro v14 U14 q2 gr hob
       replace c0:=cell_grownB gr c0 (fun e=>Nat.not_succ_le_self _ (q.lt _ e.symm).1)
       replace c1:=cell_grownB gr c1 (fun e=>Nat.not_succ_le_self _ (q.lt _ e.symm).1)
       replace c2:=cell_grownB gr c2 (fun e=>Nat.not_succ_le_self _ (q.lt _ e.symm).1)
       replace bw:=bw.grown gr bw.size (fun g hg=>by have:=(q.lt g hg).1;omega)
       replace hX:=h.below bw
       replace hsz:w.heap.size+1≤U14.heap.size:=Nat.le_trans hsz gr.size
       refine hK.out _ _ ⟨c0,c1,c2⟩ (fun hS14=>?_)
       clear hK q gr hob
       have q:=q2
       clear q2
       try simp only [Act.put,tka,tkb,tkc]
       refine tkm 12 4 v14 ?_
       refine wpAnyH_done (by kernel_rfl) ?_ _
       have hQ:=HP.out _ _ q
       obtain ⟨g,c,rfl⟩:=own_someB q (by omega)
       clear q c0 c1 c2 rT rD
       go_wp2
       go_ret
       exact ⟨⟨_,rfl,hQ⟩,bw⟩
     ·have t0':(x0 == x0)=true:=by simp
      have t1':(x1 == y1)=false:=by simp [t1]
      go_quiet (fail)
      replace c0:(w1.drewN nq).cell? ⟨w.heap.size,0,none⟩=some (.int .i64 x0):=c0
      replace c1:(w1.drewN nq).cell? ⟨w.heap.size,1,none⟩=some (.int .i64 y1):=c1
      replace c2:(w1.drewN nq).cell? ⟨w.heap.size,2,none⟩=some (.int .i64 y2):=c2
      replace bw:=below_drewN bw nq
      replace hX:=h.below bw
      replace hsz:w.heap.size+1≤(w1.drewN nq).heap.size:=hsz
      generalize w1.drewN nq=UC at *
      go_wp2_with fail
      refine wp_region_held_drew (S:=(fun w'=>w'.cell? ⟨w.heap.size,0,none⟩=some (.int .i64 x0)∧w'.cell? ⟨w.heap.size,1,none⟩=some (.int .i64 y1)∧w'.cell? ⟨w.heap.size,2,none⟩=some (.int .i64 y2))) (by kernel_rfl) ⟨c0,c1,c2⟩ (fun hS0=>?_)
      refine tkm 1 36 (.slice (some ⟨b,off,none⟩) n cap) ?_
      refine tkm 2 37 (.int .i64 (k:Int)) ?_
      refine tkm 3 38 (.slice (some ⟨b,off,none⟩) k cap) ?_
      refine tkm 5 40 (.agg #[.int .i64 x0,.int .i64 y1,.int .i64 y2]) ?_
      refine tkm 8 43 (.slice (some ⟨b,off,none⟩) n cap) ?_
      refine tkm 9 44 (.int .i64 (k:Int)) ?_
      refine tkm 10 45 (.slice (some ⟨b,o2,none⟩) (n - k) (cap - k)) ?_
      refine wpAnyH_ready (rs:=[0,6]) (by kernel_rfl) (by simp) ?_
      refine AllReadyH.cons (o:=⟨some 35,_,_,_,_,_⟩) rfl (fun K hK=>?_) (AllReadyH.cons (o:=⟨some 41,_,_,_,_,_⟩) rfl (fun K hK=>?_) AllReadyH.nil)
      ·have q:=(own_emptyB UC 142 3 (w.heap.size+1) hsz).drew
       have hal:Below UC.heap.size UC (UC.alloc (.cells #[] 142)).drew:=by go_grown
       replace c0:=cells_kept hal _ _ c0
       replace c1:=cells_kept hal _ _ c1
       replace c2:=cells_kept hal _ _ c2
       replace bw:=bel_trans bw hal
       replace hX:=hX.below hal
       replace hsz:w.heap.size+1≤(UC.alloc (.cells #[] 142)).drew.heap.size:=Nat.le_trans hsz hal.size
       go_simp
       refine hK.out _ _ ⟨c0,c1,c2⟩ (fun hS15=>?_)
       clear hK hal
       generalize UC.heap.size=V15 at *
       generalize (UC.alloc (.cells #[] 142)).drew=U15 at *
       try simp only [Act.put,tka,tkb,tkc]
       refine wpAnyH_ready (rs:=[4,6]) (by kernel_rfl) (by simp) ?_
       refine AllReadyH.cons (o:=⟨some 39,_,_,_,_,_⟩) rfl (fun K hK=>?_) (AllReadyH.cons (o:=⟨some 41,_,_,_,_,_⟩) rfl (fun K hK=>?_) AllReadyH.nil)
       ·refine step_append_atB rfl _ _ 127 rfl (w.heap.size+1) 142 i0 (.agg #[.int .i64 0,.int .i64 0,.int .i64 0]) 3 24 Tryd.underlying127 hi hz0 hz1 hz2 rfl (by decide) (.slice (some ⟨V15,0,none⟩) 0 0) 0 [] rfl q ⟨b,off,none⟩ k cap (flat (xs.take k)) rfl (by rw [flat_length,List.length_take];omega) (instrs_news (slice_h3 hX hkn).2) (flat_one _) (by unfold maxLen;omega) (by omega) hsz ?_
        intro v16 U16 q2 gr hob
        replace c0:=cell_grownB gr c0 (fun e=>Nat.not_succ_le_self _ (q.lt _ e.symm).1)
        replace c1:=cell_grownB gr c1 (fun e=>Nat.not_succ_le_self _ (q.lt _ e.symm).1)
        replace c2:=cell_grownB gr c2 (fun e=>Nat.not_succ_le_self _ (q.lt _ e.symm).1)
        replace bw:=bw.grown gr bw.size (fun g hg=>by have:=(q.lt g hg).1;omega)
        replace hX:=h.below bw
        replace hsz:w.heap.size+1≤U16.heap.size:=Nat.le_trans hsz gr.size
        refine hK.out _ _ ⟨c0,c1,c2⟩ (fun hS16=>?_)
        clear hK q gr hob
        have q:=q2
        clear q2
        try simp only [Act.put,tka,tkb,tkc]
        refine tkr 6 41 (fun K hK=>?_)
        obtain ⟨G,hG⟩:∃ G,G=U16.heap.size:=⟨_,rfl⟩
        have e0:(U16.alloc (.cells #[.int .i64 x0,.int .i64 y1,.int .i64 y2] 142)).cell? ⟨G,0,none⟩=some (.int .i64 x0):=by subst hG;simp [go_sem]
        have e1:(U16.alloc (.cells #[.int .i64 x0,.int .i64 y1,.int .i64 y2] 142)).cell? ⟨G,1,none⟩=some (.int .i64 y1):=by subst hG;simp [go_sem]
        have e2:(U16.alloc (.cells #[.int .i64 x0,.int .i64 y1,.int .i64 y2] 142)).cell? ⟨G,2,none⟩=some (.int .i64 y2):=by subst hG;simp [go_sem]
        have hal:Below U16.heap.size U16 (U16.alloc (.cells #[.int .i64 x0,.int .i64 y1,.int .i64 y2] 142)):=by go_grown
        have hap:∀ g,Value.ownBlock v16=some g→g≠G:=fun g hg e=>by have:=(q.lt g hg).2;omega
        replace q:=owns_below q hal
        replace c0:=cells_kept hal _ _ c0
        replace c1:=cells_kept hal _ _ c1
        replace c2:=cells_kept hal _ _ c2
        replace bw:=bel_trans bw hal
        replace hX:=hX.below hal
        replace hsz:w.heap.size+1≤(U16.alloc (.cells #[.int .i64 x0,.int .i64 y1,.int .i64 y2] 142)).heap.size:=Nat.le_trans hsz hal.size
        go_simp
        rw [← hG]
        refine hK.out _ _ ⟨c0,c1,c2⟩ (fun hS17=>?_)
        clear hK hal
        clear hG
        generalize (U16.alloc (.cells #[.int .i64 x0,.int .i64 y1,.int .i64 y2] 142))=U17 at *
        try simp only [Act.put,tka,tkb,tkc]
        refine tkr 7 42 (fun K hK=>?_)
        refine step_append_atB rfl _ _ 127 rfl (w.heap.size+1) 142 i0 (.agg #[.int .i64 0,.int .i64 0,.int .i64 0]) 3 24 Tryd.underlying127 hi hz0 hz1 hz2 rfl (by decide) v16 (0+k) ([]++flat (xs.take k)) rfl q ⟨G,0,none⟩ 1 1 [.int .i64 x0,.int .i64 y1,.int .i64 y2] rfl rfl (three_at e0 e1 e2) (three_one _ _ _) (by unfold maxLen;omega) (by omega) hsz ?_
        intro v18 U18 q2 gr hob
        replace c0:=cell_grownB gr c0 (fun e=>Nat.not_succ_le_self _ (q.lt _ e.symm).1)
        replace c1:=cell_grownB gr c1 (fun e=>Nat.not_succ_le_self _ (q.lt _ e.symm).1)
        replace c2:=cell_grownB gr c2 (fun e=>Nat.not_succ_le_self _ (q.lt _ e.symm).1)
        replace bw:=bw.grown gr bw.size (fun g hg=>by have:=(q.lt g hg).1;omega)
        replace hX:=h.below bw
        replace hsz:w.heap.size+1≤U18.heap.size:=Nat.le_trans hsz gr.size
        refine hK.out _ _ ⟨c0,c1,c2⟩ (fun hS18=>?_)
        clear hK q gr hob
        have q:=q2
        clear q2
        clear e0 e1 e2 hap
        try simp only [Act.put,tka,tkb,tkc]
        refine tkr 11 46 (fun K hK=>?_)
        refine step_append_atB rfl _ _ 127 rfl (w.heap.size+1) 142 i0 (.agg #[.int .i64 0,.int .i64 0,.int .i64 0]) 3 24 Tryd.underlying127 hi hz0 hz1 hz2 rfl (by decide) v18 (0+k+1) (([]++flat (xs.take k))++[.int .i64 x0,.int .i64 y1,.int .i64 y2]) rfl q ⟨b,o2,none⟩ (n - k) (cap - k) (flat (xs.drop k)) rfl (by rw [flat_length,List.length_drop];omega) (instrs_news (hD.below bw)) (flat_one _) (by unfold maxLen;omega) (by omega) hsz ?_
        intro v19 U19 q2 gr hob
        replace c0:=cell_grownB gr c0 (fun e=>Nat.not_succ_le_self _ (q.lt _ e.symm).1)
        replace c1:=cell_grownB gr c1 (fun e=>Nat.not_succ_le_self _ (q.lt _ e.symm).1)
        replace c2:=cell_grownB gr c2 (fun e=>Nat.not_succ_le_self _ (q.lt _ e.symm).1)
        replace bw:=bw.grown gr bw.size (fun g hg=>by have:=(q.lt g hg).1;omega)
        replace hX:=h.below bw
        replace hsz:w.heap.size+1≤U19.heap.size:=Nat.le_trans hsz gr.size
        refine hK.out _ _ ⟨c0,c1,c2⟩ (fun hS19=>?_)
        clear hK q gr hob
        have q:=q2
        clear q2
        try simp only [Act.put,tka,tkb,tkc]
        refine tkm 12 4 v19 ?_
        refine wpAnyH_done (by kernel_rfl) ?_ _
        have hQ:=HP.out _ _ q
        obtain ⟨g,c,rfl⟩:=own_someB q (by omega)
        clear q c0 c1 c2 rT rD
        go_wp2
        go_ret
        exact ⟨⟨_,rfl,hQ⟩,bw⟩
       ·obtain ⟨G,hG⟩:∃ G,G=U15.heap.size:=⟨_,rfl⟩
        have e0:(U15.alloc (.cells #[.int .i64 x0,.int .i64 y1,.int .i64 y2] 142)).cell? ⟨G,0,none⟩=some (.int .i64 x0):=by subst hG;simp [go_sem]
        have e1:(U15.alloc (.cells #[.int .i64 x0,.int .i64 y1,.int .i64 y2] 142)).cell? ⟨G,1,none⟩=some (.int .i64 y1):=by subst hG;simp [go_sem]
        have e2:(U15.alloc (.cells #[.int .i64 x0,.int .i64 y1,.int .i64 y2] 142)).cell? ⟨G,2,none⟩=some (.int .i64 y2):=by subst hG;simp [go_sem]
        have hal:Below U15.heap.size U15 (U15.alloc (.cells #[.int .i64 x0,.int .i64 y1,.int .i64 y2] 142)):=by go_grown
        have hap:∀ g,Value.ownBlock (.slice (some ⟨V15,0,none⟩) 0 0)=some g→g≠G:=fun g hg e=>by have:=(q.lt g hg).2;omega
        replace q:=owns_below q hal
        replace c0:=cells_kept hal _ _ c0
        replace c1:=cells_kept hal _ _ c1
        replace c2:=cells_kept hal _ _ c2
        replace bw:=bel_trans bw hal
        replace hX:=hX.below hal
        replace hsz:w.heap.size+1≤(U15.alloc (.cells #[.int .i64 x0,.int .i64 y1,.int .i64 y2] 142)).heap.size:=Nat.le_trans hsz hal.size
        go_simp
        rw [← hG]
        refine hK.out _ _ ⟨c0,c1,c2⟩ (fun hS20=>?_)
        clear hK hal
        clear hG
        generalize (U15.alloc (.cells #[.int .i64 x0,.int .i64 y1,.int .i64 y2] 142))=U20 at *
        try simp only [Act.put,tka,tkb,tkc]
        refine tkr 4 39 (fun K hK=>?_)
        have hGl:=World.block_lt_of_cell? _ _ e0
        refine step_append_atB rfl _ _ 127 rfl (w.heap.size+1) 142 i0 (.agg #[.int .i64 0,.int .i64 0,.int .i64 0]) 3 24 Tryd.underlying127 hi hz0 hz1 hz2 rfl (by decide) (.slice (some ⟨V15,0,none⟩) 0 0) 0 [] rfl q ⟨b,off,none⟩ k cap (flat (xs.take k)) rfl (by rw [flat_length,List.length_take];omega) (instrs_news (slice_h3 hX hkn).2) (flat_one _) (by unfold maxLen;omega) (by omega) hsz ?_
        intro v21 U21 q2 gr hob
        replace c0:=cell_grownB gr c0 (fun e=>Nat.not_succ_le_self _ (q.lt _ e.symm).1)
        replace c1:=cell_grownB gr c1 (fun e=>Nat.not_succ_le_self _ (q.lt _ e.symm).1)
        replace c2:=cell_grownB gr c2 (fun e=>Nat.not_succ_le_self _ (q.lt _ e.symm).1)
        replace e0:=cell_grownB gr e0 (fun e=>hap _ e.symm rfl)
        replace e1:=cell_grownB gr e1 (fun e=>hap _ e.symm rfl)
        replace e2:=cell_grownB gr e2 (fun e=>hap _ e.symm rfl)
        have hap2:∀ g,Value.ownBlock v21=some g→g≠G:=fun g hg e=>by
         rcases hob with hu | hu
         ·exact hap g (hu▸hg) e
         ·rw [hu] at hg
          simp at hg hGl
          omega
        clear hap hGl
        have hap:=hap2
        clear hap2
        replace bw:=bw.grown gr bw.size (fun g hg=>by have:=(q.lt g hg).1;omega)
        replace hX:=h.below bw
        replace hsz:w.heap.size+1≤U21.heap.size:=Nat.le_trans hsz gr.size
        refine hK.out _ _ ⟨c0,c1,c2⟩ (fun hS21=>?_)
        clear hK q gr hob
        have q:=q2
        clear q2
        try simp only [Act.put,tka,tkb,tkc]
        refine tkr 7 42 (fun K hK=>?_)
        refine step_append_atB rfl _ _ 127 rfl (w.heap.size+1) 142 i0 (.agg #[.int .i64 0,.int .i64 0,.int .i64 0]) 3 24 Tryd.underlying127 hi hz0 hz1 hz2 rfl (by decide) v21 (0+k) ([]++flat (xs.take k)) rfl q ⟨G,0,none⟩ 1 1 [.int .i64 x0,.int .i64 y1,.int .i64 y2] rfl rfl (three_at e0 e1 e2) (three_one _ _ _) (by unfold maxLen;omega) (by omega) hsz ?_
        intro v22 U22 q2 gr hob
        replace c0:=cell_grownB gr c0 (fun e=>Nat.not_succ_le_self _ (q.lt _ e.symm).1)
        replace c1:=cell_grownB gr c1 (fun e=>Nat.not_succ_le_self _ (q.lt _ e.symm).1)
        replace c2:=cell_grownB gr c2 (fun e=>Nat.not_succ_le_self _ (q.lt _ e.symm).1)
        replace bw:=bw.grown gr bw.size (fun g hg=>by have:=(q.lt g hg).1;omega)
        replace hX:=h.below bw
        replace hsz:w.heap.size+1≤U22.heap.size:=Nat.le_trans hsz gr.size
        refine hK.out _ _ ⟨c0,c1,c2⟩ (fun hS22=>?_)
        clear hK q gr hob
        have q:=q2
        clear q2
        clear e0 e1 e2 hap
        try simp only [Act.put,tka,tkb,tkc]
        refine tkr 11 46 (fun K hK=>?_)
        refine step_append_atB rfl _ _ 127 rfl (w.heap.size+1) 142 i0 (.agg #[.int .i64 0,.int .i64 0,.int .i64 0]) 3 24 Tryd.underlying127 hi hz0 hz1 hz2 rfl (by decide) v22 (0+k+1) (([]++flat (xs.take k))++[.int .i64 x0,.int .i64 y1,.int .i64 y2]) rfl q ⟨b,o2,none⟩ (n - k) (cap - k) (flat (xs.drop k)) rfl (by rw [flat_length,List.length_drop];omega) (instrs_news (hD.below bw)) (flat_one _) (by unfold maxLen;omega) (by omega) hsz ?_
        intro v23 U23 q2 gr hob
        replace c0:=cell_grownB gr c0 (fun e=>Nat.not_succ_le_self _ (q.lt _ e.symm).1)
        replace c1:=cell_grownB gr c1 (fun e=>Nat.not_succ_le_self _ (q.lt _ e.symm).1)
        replace c2:=cell_grownB gr c2 (fun e=>Nat.not_succ_le_self _ (q.lt _ e.symm).1)
        replace bw:=bw.grown gr bw.size (fun g hg=>by have:=(q.lt g hg).1;omega)
        replace hX:=h.below bw
        replace hsz:w.heap.size+1≤U23.heap.size:=Nat.le_trans hsz gr.size
        refine hK.out _ _ ⟨c0,c1,c2⟩ (fun hS23=>?_)
        clear hK q gr hob
        have q:=q2
        clear q2
        try simp only [Act.put,tka,tkb,tkc]
        refine tkm 12 4 v23 ?_
        refine wpAnyH_done (by kernel_rfl) ?_ _
        have hQ:=HP.out _ _ q
        obtain ⟨g,c,rfl⟩:=own_someB q (by omega)
        clear q c0 c1 c2 rT rD
        go_wp2
        go_ret
        exact ⟨⟨_,rfl,hQ⟩,bw⟩
      ·obtain ⟨G,hG⟩:∃ G,G=UC.heap.size:=⟨_,rfl⟩
       have e0:(UC.alloc (.cells #[.int .i64 x0,.int .i64 y1,.int .i64 y2] 142)).drew.cell? ⟨G,0,none⟩=some (.int .i64 x0):=by subst hG;simp [go_sem]
       have e1:(UC.alloc (.cells #[.int .i64 x0,.int .i64 y1,.int .i64 y2] 142)).drew.cell? ⟨G,1,none⟩=some (.int .i64 y1):=by subst hG;simp [go_sem]
       have e2:(UC.alloc (.cells #[.int .i64 x0,.int .i64 y1,.int .i64 y2] 142)).drew.cell? ⟨G,2,none⟩=some (.int .i64 y2):=by subst hG;simp [go_sem]
       have hal:Below UC.heap.size UC (UC.alloc (.cells #[.int .i64 x0,.int .i64 y1,.int .i64 y2] 142)).drew:=by go_grown
       replace c0:=cells_kept hal _ _ c0
       replace c1:=cells_kept hal _ _ c1
       replace c2:=cells_kept hal _ _ c2
       replace bw:=bel_trans bw hal
       replace hX:=hX.below hal
       replace hsz:w.heap.size+1≤(UC.alloc (.cells #[.int .i64 x0,.int .i64 y1,.int .i64 y2] 142)).drew.heap.size:=Nat.le_trans hsz hal.size
       go_simp
       rw [← hG]
       refine hK.out _ _ ⟨c0,c1,c2⟩ (fun hS24=>?_)
       clear hK hal
       clear hG
       generalize (UC.alloc (.cells #[.int .i64 x0,.int .i64 y1,.int .i64 y2] 142)).drew=U24 at *
       try simp only [Act.put,tka,tkb,tkc]
       refine tkr 0 35 (fun K hK=>?_)
       have q:=(own_emptyB U24 142 3 (w.heap.size+1) hsz)
       have hap:∀ g,(Value.slice (some ⟨U24.heap.size,0,none⟩) 0 0).ownBlock=some g→g≠G:=fun g hg e=>by have hGl:=World.block_lt_of_cell? _ _ e0;simp [Value.ownBlock] at hg;simp at hGl;omega
       have hal:Below U24.heap.size U24 (U24.alloc (.cells #[] 142)):=by go_grown
       replace e0:=cells_kept hal _ _ e0
       replace e1:=cells_kept hal _ _ e1
       replace e2:=cells_kept hal _ _ e2
       replace c0:=cells_kept hal _ _ c0
       replace c1:=cells_kept hal _ _ c1
       replace c2:=cells_kept hal _ _ c2
       replace bw:=bel_trans bw hal
       replace hX:=hX.below hal
       replace hsz:w.heap.size+1≤(U24.alloc (.cells #[] 142)).heap.size:=Nat.le_trans hsz hal.size
       go_simp
       refine hK.out _ _ ⟨c0,c1,c2⟩ (fun hS25=>?_)
       clear hK hal
       generalize U24.heap.size=V25 at *
       generalize (U24.alloc (.cells #[] 142))=U25 at *
       try simp only [Act.put,tka,tkb,tkc]
       refine tkr 4 39 (fun K hK=>?_)
       have hGl:=World.block_lt_of_cell? _ _ e0
       refine step_append_atB rfl _ _ 127 rfl (w.heap.size+1) 142 i0 (.agg #[.int .i64 0,.int .i64 0,.int .i64 0]) 3 24 Tryd.underlying127 hi hz0 hz1 hz2 rfl (by decide) (.slice (some ⟨V25,0,none⟩) 0 0) 0 [] rfl q ⟨b,off,none⟩ k cap (flat (xs.take k)) rfl (by rw [flat_length,List.length_take];omega) (instrs_news (slice_h3 hX hkn).2) (flat_one _) (by unfold maxLen;omega) (by omega) hsz ?_
       intro v26 U26 q2 gr hob
       replace c0:=cell_grownB gr c0 (fun e=>Nat.not_succ_le_self _ (q.lt _ e.symm).1)
       replace c1:=cell_grownB gr c1 (fun e=>Nat.not_succ_le_self _ (q.lt _ e.symm).1)
       replace c2:=cell_grownB gr c2 (fun e=>Nat.not_succ_le_self _ (q.lt _ e.symm).1)
       replace e0:=cell_grownB gr e0 (fun e=>hap _ e.symm rfl)
       replace e1:=cell_grownB gr e1 (fun e=>hap _ e.symm rfl)
       replace e2:=cell_grownB gr e2 (fun e=>hap _ e.symm rfl)
       have hap2:∀ g,Value.ownBlock v26=some g→g≠G:=fun g hg e=>by
        rcases hob with hu | hu
        ·exact hap g (hu▸hg) e
        ·rw [hu] at hg
         simp at hg hGl
         omega
       clear hap hGl
       have hap:=hap2
       clear hap2
       replace bw:=bw.grown gr bw.size (fun g hg=>by have:=(q.lt g hg).1;omega)
       replace hX:=h.below bw
       replace hsz:w.heap.size+1≤U26.heap.size:=Nat.le_trans hsz gr.size
       refine hK.out _ _ ⟨c0,c1,c2⟩ (fun hS26=>?_)
       clear hK q gr hob
       have q:=q2
       clear q2
       try simp only [Act.put,tka,tkb,tkc]
       refine tkr 7 42 (fun K hK=>?_)
       refine step_append_atB rfl _ _ 127 rfl (w.heap.size+1) 142 i0 (.agg #[.int .i64 0,.int .i64 0,.int .i64 0]) 3 24 Tryd.underlying127 hi hz0 hz1 hz2 rfl (by decide) v26 (0+k) ([]++flat (xs.take k)) rfl q ⟨G,0,none⟩ 1 1 [.int .i64 x0,.int .i64 y1,.int .i64 y2] rfl rfl (three_at e0 e1 e2) (three_one _ _ _) (by unfold maxLen;omega) (by omega) hsz ?_
       intro v27 U27 q2 gr hob
       replace c0:=cell_grownB gr c0 (fun e=>Nat.not_succ_le_self _ (q.lt _ e.symm).1)
       replace c1:=cell_grownB gr c1 (fun e=>Nat.not_succ_le_self _ (q.lt _ e.symm).1)
       replace c2:=cell_grownB gr c2 (fun e=>Nat.not_succ_le_self _ (q.lt _ e.symm).1)
       replace bw:=bw.grown gr bw.size (fun g hg=>by have:=(q.lt g hg).1;omega)
       replace hX:=h.below bw
       replace hsz:w.heap.size+1≤U27.heap.size:=Nat.le_trans hsz gr.size
       refine hK.out _ _ ⟨c0,c1,c2⟩ (fun hS27=>?_)
       clear hK q gr hob
       have q:=q2
       clear q2
       clear e0 e1 e2 hap
       try simp only [Act.put,tka,tkb,tkc]
       refine tkr 11 46 (fun K hK=>?_)
       refine step_append_atB rfl _ _ 127 rfl (w.heap.size+1) 142 i0 (.agg #[.int .i64 0,.int .i64 0,.int .i64 0]) 3 24 Tryd.underlying127 hi hz0 hz1 hz2 rfl (by decide) v27 (0+k+1) (([]++flat (xs.take k))++[.int .i64 x0,.int .i64 y1,.int .i64 y2]) rfl q ⟨b,o2,none⟩ (n - k) (cap - k) (flat (xs.drop k)) rfl (by rw [flat_length,List.length_drop];omega) (instrs_news (hD.below bw)) (flat_one _) (by unfold maxLen;omega) (by omega) hsz ?_
       intro v28 U28 q2 gr hob
       replace c0:=cell_grownB gr c0 (fun e=>Nat.not_succ_le_self _ (q.lt _ e.symm).1)
       replace c1:=cell_grownB gr c1 (fun e=>Nat.not_succ_le_self _ (q.lt _ e.symm).1)
       replace c2:=cell_grownB gr c2 (fun e=>Nat.not_succ_le_self _ (q.lt _ e.symm).1)
       replace bw:=bw.grown gr bw.size (fun g hg=>by have:=(q.lt g hg).1;omega)
       replace hX:=h.below bw
       replace hsz:w.heap.size+1≤U28.heap.size:=Nat.le_trans hsz gr.size
       refine hK.out _ _ ⟨c0,c1,c2⟩ (fun hS28=>?_)
       clear hK q gr hob
       have q:=q2
       clear q2
       try simp only [Act.put,tka,tkb,tkc]
       refine tkm 12 4 v28 ?_
       refine wpAnyH_done (by kernel_rfl) ?_ _
       have hQ:=HP.out _ _ q
       obtain ⟨g,c,rfl⟩:=own_someB q (by omega)
       clear q c0 c1 c2 rT rD
       go_wp2
       go_ret
       exact ⟨⟨_,rfl,hQ⟩,bw⟩
     ·have t0':(x0 == x0)=true:=by simp
      have t1':(x1 == x1)=true:=by simp
      have t2':(x2 == y2)=false:=by simp [t2]
      go_quiet (fail)
      replace c0:(w1.drewN nq).cell? ⟨w.heap.size,0,none⟩=some (.int .i64 x0):=c0
      replace c1:(w1.drewN nq).cell? ⟨w.heap.size,1,none⟩=some (.int .i64 x1):=c1
      replace c2:(w1.drewN nq).cell? ⟨w.heap.size,2,none⟩=some (.int .i64 y2):=c2
      replace bw:=below_drewN bw nq
      replace hX:=h.below bw
      replace hsz:w.heap.size+1≤(w1.drewN nq).heap.size:=hsz
      generalize w1.drewN nq=UD at *
      go_wp2_with fail
      refine wp_region_held_drew (S:=(fun w'=>w'.cell? ⟨w.heap.size,0,none⟩=some (.int .i64 x0)∧w'.cell? ⟨w.heap.size,1,none⟩=some (.int .i64 x1)∧w'.cell? ⟨w.heap.size,2,none⟩=some (.int .i64 y2))) (by kernel_rfl) ⟨c0,c1,c2⟩ (fun hS0=>?_)
      refine tkm 1 36 (.slice (some ⟨b,off,none⟩) n cap) ?_
      refine tkm 2 37 (.int .i64 (k:Int)) ?_
      refine tkm 3 38 (.slice (some ⟨b,off,none⟩) k cap) ?_
      refine tkm 5 40 (.agg #[.int .i64 x0,.int .i64 x1,.int .i64 y2]) ?_
      refine tkm 8 43 (.slice (some ⟨b,off,none⟩) n cap) ?_
      refine tkm 9 44 (.int .i64 (k:Int)) ?_
      refine tkm 10 45 (.slice (some ⟨b,o2,none⟩) (n - k) (cap - k)) ?_
      refine wpAnyH_ready (rs:=[0,6]) (by kernel_rfl) (by simp) ?_
      refine AllReadyH.cons (o:=⟨some 35,_,_,_,_,_⟩) rfl (fun K hK=>?_) (AllReadyH.cons (o:=⟨some 41,_,_,_,_,_⟩) rfl (fun K hK=>?_) AllReadyH.nil)
      ·have q:=(own_emptyB UD 142 3 (w.heap.size+1) hsz).drew
       have hal:Below UD.heap.size UD (UD.alloc (.cells #[] 142)).drew:=by go_grown
       replace c0:=cells_kept hal _ _ c0
       replace c1:=cells_kept hal _ _ c1
       replace c2:=cells_kept hal _ _ c2
       replace bw:=bel_trans bw hal
       replace hX:=hX.below hal
       replace hsz:w.heap.size+1≤(UD.alloc (.cells #[] 142)).drew.heap.size:=Nat.le_trans hsz hal.size
       go_simp
       refine hK.out _ _ ⟨c0,c1,c2⟩ (fun hS29=>?_)
       clear hK hal
       generalize UD.heap.size=V29 at *
       generalize (UD.alloc (.cells #[] 142)).drew=U29 at *
       try simp only [Act.put,tka,tkb,tkc]
       refine wpAnyH_ready (rs:=[4,6]) (by kernel_rfl) (by simp) ?_
       refine AllReadyH.cons (o:=⟨some 39,_,_,_,_,_⟩) rfl (fun K hK=>?_) (AllReadyH.cons (o:=⟨some 41,_,_,_,_,_⟩) rfl (fun K hK=>?_) AllReadyH.nil)
       ·refine step_append_atB rfl _ _ 127 rfl (w.heap.size+1) 142 i0 (.agg #[.int .i64 0,.int .i64 0,.int .i64 0]) 3 24 Tryd.underlying127 hi hz0 hz1 hz2 rfl (by decide) (.slice (some ⟨V29,0,none⟩) 0 0) 0 [] rfl q ⟨b,off,none⟩ k cap (flat (xs.take k)) rfl (by rw [flat_length,List.length_take];omega) (instrs_news (slice_h3 hX hkn).2) (flat_one _) (by unfold maxLen;omega) (by omega) hsz ?_
        intro v30 U30 q2 gr hob
        replace c0:=cell_grownB gr c0 (fun e=>Nat.not_succ_le_self _ (q.lt _ e.symm).1)
        replace c1:=cell_grownB gr c1 (fun e=>Nat.not_succ_le_self _ (q.lt _ e.symm).1)
        replace c2:=cell_grownB gr c2 (fun e=>Nat.not_succ_le_self _ (q.lt _ e.symm).1)
        replace bw:=bw.grown gr bw.size (fun g hg=>by have:=(q.lt g hg).1;omega)
        replace hX:=h.below bw
        replace hsz:w.heap.size+1≤U30.heap.size:=Nat.le_trans hsz gr.size
        refine hK.out _ _ ⟨c0,c1,c2⟩ (fun hS30=>?_)
        clear hK q gr hob
        have q:=q2
        clear q2
        try simp only [Act.put,tka,tkb,tkc]
        refine tkr 6 41 (fun K hK=>?_)
        obtain ⟨G,hG⟩:∃ G,G=U30.heap.size:=⟨_,rfl⟩
        have e0:(U30.alloc (.cells #[.int .i64 x0,.int .i64 x1,.int .i64 y2] 142)).cell? ⟨G,0,none⟩=some (.int .i64 x0):=by subst hG;simp [go_sem]
        have e1:(U30.alloc (.cells #[.int .i64 x0,.int .i64 x1,.int .i64 y2] 142)).cell? ⟨G,1,none⟩=some (.int .i64 x1):=by subst hG;simp [go_sem]
        have e2:(U30.alloc (.cells #[.int .i64 x0,.int .i64 x1,.int .i64 y2] 142)).cell? ⟨G,2,none⟩=some (.int .i64 y2):=by subst hG;simp [go_sem]
        have hal:Below U30.heap.size U30 (U30.alloc (.cells #[.int .i64 x0,.int .i64 x1,.int .i64 y2] 142)):=by go_grown
        have hap:∀ g,Value.ownBlock v30=some g→g≠G:=fun g hg e=>by have:=(q.lt g hg).2;omega
        replace q:=owns_below q hal
        replace c0:=cells_kept hal _ _ c0
        replace c1:=cells_kept hal _ _ c1
        replace c2:=cells_kept hal _ _ c2
        replace bw:=bel_trans bw hal
        replace hX:=hX.below hal
        replace hsz:w.heap.size+1≤(U30.alloc (.cells #[.int .i64 x0,.int .i64 x1,.int .i64 y2] 142)).heap.size:=Nat.le_trans hsz hal.size
        go_simp
        rw [← hG]
        refine hK.out _ _ ⟨c0,c1,c2⟩ (fun hS31=>?_)
        clear hK hal
        clear hG
        generalize (U30.alloc (.cells #[.int .i64 x0,.int .i64 x1,.int .i64 y2] 142))=U31 at *
        try simp only [Act.put,tka,tkb,tkc]
        refine tkr 7 42 (fun K hK=>?_)
        refine step_append_atB rfl _ _ 127 rfl (w.heap.size+1) 142 i0 (.agg #[.int .i64 0,.int .i64 0,.int .i64 0]) 3 24 Tryd.underlying127 hi hz0 hz1 hz2 rfl (by decide) v30 (0+k) ([]++flat (xs.take k)) rfl q ⟨G,0,none⟩ 1 1 [.int .i64 x0,.int .i64 x1,.int .i64 y2] rfl rfl (three_at e0 e1 e2) (three_one _ _ _) (by unfold maxLen;omega) (by omega) hsz ?_
        intro v32 U32 q2 gr hob
        replace c0:=cell_grownB gr c0 (fun e=>Nat.not_succ_le_self _ (q.lt _ e.symm).1)
        replace c1:=cell_grownB gr c1 (fun e=>Nat.not_succ_le_self _ (q.lt _ e.symm).1)
        replace c2:=cell_grownB gr c2 (fun e=>Nat.not_succ_le_self _ (q.lt _ e.symm).1)
        replace bw:=bw.grown gr bw.size (fun g hg=>by have:=(q.lt g hg).1;omega)
        replace hX:=h.below bw
        replace hsz:w.heap.size+1≤U32.heap.size:=Nat.le_trans hsz gr.size
        refine hK.out _ _ ⟨c0,c1,c2⟩ (fun hS32=>?_)
        clear hK q gr hob
        have q:=q2
        clear q2
        clear e0 e1 e2 hap
        try simp only [Act.put,tka,tkb,tkc]
        refine tkr 11 46 (fun K hK=>?_)
        refine step_append_atB rfl _ _ 127 rfl (w.heap.size+1) 142 i0 (.agg #[.int .i64 0,.int .i64 0,.int .i64 0]) 3 24 Tryd.underlying127 hi hz0 hz1 hz2 rfl (by decide) v32 (0+k+1) (([]++flat (xs.take k))++[.int .i64 x0,.int .i64 x1,.int .i64 y2]) rfl q ⟨b,o2,none⟩ (n - k) (cap - k) (flat (xs.drop k)) rfl (by rw [flat_length,List.length_drop];omega) (instrs_news (hD.below bw)) (flat_one _) (by unfold maxLen;omega) (by omega) hsz ?_
        intro v33 U33 q2 gr hob
        replace c0:=cell_grownB gr c0 (fun e=>Nat.not_succ_le_self _ (q.lt _ e.symm).1)
        replace c1:=cell_grownB gr c1 (fun e=>Nat.not_succ_le_self _ (q.lt _ e.symm).1)
        replace c2:=cell_grownB gr c2 (fun e=>Nat.not_succ_le_self _ (q.lt _ e.symm).1)
        replace bw:=bw.grown gr bw.size (fun g hg=>by have:=(q.lt g hg).1;omega)
        replace hX:=h.below bw
        replace hsz:w.heap.size+1≤U33.heap.size:=Nat.le_trans hsz gr.size
        refine hK.out _ _ ⟨c0,c1,c2⟩ (fun hS33=>?_)
        clear hK q gr hob
        have q:=q2
        clear q2
        try simp only [Act.put,tka,tkb,tkc]
        refine tkm 12 4 v33 ?_
        refine wpAnyH_done (by kernel_rfl) ?_ _
        have hQ:=HP.out _ _ q
        obtain ⟨g,c,rfl⟩:=own_someB q (by omega)
        clear q c0 c1 c2 rT rD
        go_wp2
        go_ret
        exact ⟨⟨_,rfl,hQ⟩,bw⟩
       ·obtain ⟨G,hG⟩:∃ G,G=U29.heap.size:=⟨_,rfl⟩
        have e0:(U29.alloc (.cells #[.int .i64 x0,.int .i64 x1,.int .i64 y2] 142)).cell? ⟨G,0,none⟩=some (.int .i64 x0):=by subst hG;simp [go_sem]
        have e1:(U29.alloc (.cells #[.int .i64 x0,.int .i64 x1,.int .i64 y2] 142)).cell? ⟨G,1,none⟩=some (.int .i64 x1):=by subst hG;simp [go_sem]
        have e2:(U29.alloc (.cells #[.int .i64 x0,.int .i64 x1,.int .i64 y2] 142)).cell? ⟨G,2,none⟩=some (.int .i64 y2):=by subst hG;simp [go_sem]
        have hal:Below U29.heap.size U29 (U29.alloc (.cells #[.int .i64 x0,.int .i64 x1,.int .i64 y2] 142)):=by go_grown
        have hap:∀ g,Value.ownBlock (.slice (some ⟨V29,0,none⟩) 0 0)=some g→g≠G:=fun g hg e=>by have:=(q.lt g hg).2;omega
        replace q:=owns_below q hal
        replace c0:=cells_kept hal _ _ c0
        replace c1:=cells_kept hal _ _ c1
        replace c2:=cells_kept hal _ _ c2
        replace bw:=bel_trans bw hal
        replace hX:=hX.below hal
        replace hsz:w.heap.size+1≤(U29.alloc (.cells #[.int .i64 x0,.int .i64 x1,.int .i64 y2] 142)).heap.size:=Nat.le_trans hsz hal.size
        go_simp
        rw [← hG]
        refine hK.out _ _ ⟨c0,c1,c2⟩ (fun hS34=>?_)
        clear hK hal
        clear hG
        generalize (U29.alloc (.cells #[.int .i64 x0,.int .i64 x1,.int .i64 y2] 142))=U34 at *
        try simp only [Act.put,tka,tkb,tkc]
        refine tkr 4 39 (fun K hK=>?_)
        have hGl:=World.block_lt_of_cell? _ _ e0
        refine step_append_atB rfl _ _ 127 rfl (w.heap.size+1) 142 i0 (.agg #[.int .i64 0,.int .i64 0,.int .i64 0]) 3 24 Tryd.underlying127 hi hz0 hz1 hz2 rfl (by decide) (.slice (some ⟨V29,0,none⟩) 0 0) 0 [] rfl q ⟨b,off,none⟩ k cap (flat (xs.take k)) rfl (by rw [flat_length,List.length_take];omega) (instrs_news (slice_h3 hX hkn).2) (flat_one _) (by unfold maxLen;omega) (by omega) hsz ?_
        intro v35 U35 q2 gr hob
        replace c0:=cell_grownB gr c0 (fun e=>Nat.not_succ_le_self _ (q.lt _ e.symm).1)
        replace c1:=cell_grownB gr c1 (fun e=>Nat.not_succ_le_self _ (q.lt _ e.symm).1)
        replace c2:=cell_grownB gr c2 (fun e=>Nat.not_succ_le_self _ (q.lt _ e.symm).1)
        replace e0:=cell_grownB gr e0 (fun e=>hap _ e.symm rfl)
        replace e1:=cell_grownB gr e1 (fun e=>hap _ e.symm rfl)
        replace e2:=cell_grownB gr e2 (fun e=>hap _ e.symm rfl)
        have hap2:∀ g,Value.ownBlock v35=some g→g≠G:=fun g hg e=>by
         rcases hob with hu | hu
         ·exact hap g (hu▸hg) e
         ·rw [hu] at hg
          simp at hg hGl
          omega
        clear hap hGl
        have hap:=hap2
        clear hap2
        replace bw:=bw.grown gr bw.size (fun g hg=>by have:=(q.lt g hg).1;omega)
        replace hX:=h.below bw
        replace hsz:w.heap.size+1≤U35.heap.size:=Nat.le_trans hsz gr.size
        refine hK.out _ _ ⟨c0,c1,c2⟩ (fun hS35=>?_)
        clear hK q gr hob
        have q:=q2
        clear q2
        try simp only [Act.put,tka,tkb,tkc]
        refine tkr 7 42 (fun K hK=>?_)
        refine step_append_atB rfl _ _ 127 rfl (w.heap.size+1) 142 i0 (.agg #[.int .i64 0,.int .i64 0,.int .i64 0]) 3 24 Tryd.underlying127 hi hz0 hz1 hz2 rfl (by decide) v35 (0+k) ([]++flat (xs.take k)) rfl q ⟨G,0,none⟩ 1 1 [.int .i64 x0,.int .i64 x1,.int .i64 y2] rfl rfl (three_at e0 e1 e2) (three_one _ _ _) (by unfold maxLen;omega) (by omega) hsz ?_
        intro v36 U36 q2 gr hob
        replace c0:=cell_grownB gr c0 (fun e=>Nat.not_succ_le_self _ (q.lt _ e.symm).1)
        replace c1:=cell_grownB gr c1 (fun e=>Nat.not_succ_le_self _ (q.lt _ e.symm).1)
        replace c2:=cell_grownB gr c2 (fun e=>Nat.not_succ_le_self _ (q.lt _ e.symm).1)
        replace bw:=bw.grown gr bw.size (fun g hg=>by have:=(q.lt g hg).1;omega)
        replace hX:=h.below bw
        replace hsz:w.heap.size+1≤U36.heap.size:=Nat.le_trans hsz gr.size
        refine hK.out _ _ ⟨c0,c1,c2⟩ (fun hS36=>?_)
        clear hK q gr hob
        have q:=q2
        clear q2
        clear e0 e1 e2 hap
        try simp only [Act.put,tka,tkb,tkc]
        refine tkr 11 46 (fun K hK=>?_)
        refine step_append_atB rfl _ _ 127 rfl (w.heap.size+1) 142 i0 (.agg #[.int .i64 0,.int .i64 0,.int .i64 0]) 3 24 Tryd.underlying127 hi hz0 hz1 hz2 rfl (by decide) v36 (0+k+1) (([]++flat (xs.take k))++[.int .i64 x0,.int .i64 x1,.int .i64 y2]) rfl q ⟨b,o2,none⟩ (n - k) (cap - k) (flat (xs.drop k)) rfl (by rw [flat_length,List.length_drop];omega) (instrs_news (hD.below bw)) (flat_one _) (by unfold maxLen;omega) (by omega) hsz ?_
        intro v37 U37 q2 gr hob
        replace c0:=cell_grownB gr c0 (fun e=>Nat.not_succ_le_self _ (q.lt _ e.symm).1)
        replace c1:=cell_grownB gr c1 (fun e=>Nat.not_succ_le_self _ (q.lt _ e.symm).1)
        replace c2:=cell_grownB gr c2 (fun e=>Nat.not_succ_le_self _ (q.lt _ e.symm).1)
        replace bw:=bw.grown gr bw.size (fun g hg=>by have:=(q.lt g hg).1;omega)
        replace hX:=h.below bw
        replace hsz:w.heap.size+1≤U37.heap.size:=Nat.le_trans hsz gr.size
        refine hK.out _ _ ⟨c0,c1,c2⟩ (fun hS37=>?_)
        clear hK q gr hob
        have q:=q2
        clear q2
        try simp only [Act.put,tka,tkb,tkc]
        refine tkm 12 4 v37 ?_
        refine wpAnyH_done (by kernel_rfl) ?_ _
        have hQ:=HP.out _ _ q
        obtain ⟨g,c,rfl⟩:=own_someB q (by omega)
        clear q c0 c1 c2 rT rD
        go_wp2
        go_ret
        exact ⟨⟨_,rfl,hQ⟩,bw⟩
      ·obtain ⟨G,hG⟩:∃ G,G=UD.heap.size:=⟨_,rfl⟩
       have e0:(UD.alloc (.cells #[.int .i64 x0,.int .i64 x1,.int .i64 y2] 142)).drew.cell? ⟨G,0,none⟩=some (.int .i64 x0):=by subst hG;simp [go_sem]
       have e1:(UD.alloc (.cells #[.int .i64 x0,.int .i64 x1,.int .i64 y2] 142)).drew.cell? ⟨G,1,none⟩=some (.int .i64 x1):=by subst hG;simp [go_sem]
       have e2:(UD.alloc (.cells #[.int .i64 x0,.int .i64 x1,.int .i64 y2] 142)).drew.cell? ⟨G,2,none⟩=some (.int .i64 y2):=by subst hG;simp [go_sem]
       have hal:Below UD.heap.size UD (UD.alloc (.cells #[.int .i64 x0,.int .i64 x1,.int .i64 y2] 142)).drew:=by go_grown
       replace c0:=cells_kept hal _ _ c0
       replace c1:=cells_kept hal _ _ c1
       replace c2:=cells_kept hal _ _ c2
       replace bw:=bel_trans bw hal
       replace hX:=hX.below hal
       replace hsz:w.heap.size+1≤(UD.alloc (.cells #[.int .i64 x0,.int .i64 x1,.int .i64 y2] 142)).drew.heap.size:=Nat.le_trans hsz hal.size
       go_simp
       rw [← hG]
       refine hK.out _ _ ⟨c0,c1,c2⟩ (fun hS38=>?_)
       clear hK hal
       clear hG
       generalize (UD.alloc (.cells #[.int .i64 x0,.int .i64 x1,.int .i64 y2] 142)).drew=U38 at *
       try simp only [Act.put,tka,tkb,tkc]
       refine tkr 0 35 (fun K hK=>?_)
       have q:=(own_emptyB U38 142 3 (w.heap.size+1) hsz)
       have hap:∀ g,(Value.slice (some ⟨U38.heap.size,0,none⟩) 0 0).ownBlock=some g→g≠G:=fun g hg e=>by have hGl:=World.block_lt_of_cell? _ _ e0;simp [Value.ownBlock] at hg;simp at hGl;omega
       have hal:Below U38.heap.size U38 (U38.alloc (.cells #[] 142)):=by go_grown
       replace e0:=cells_kept hal _ _ e0
       replace e1:=cells_kept hal _ _ e1
       replace e2:=cells_kept hal _ _ e2
       replace c0:=cells_kept hal _ _ c0
       replace c1:=cells_kept hal _ _ c1
       replace c2:=cells_kept hal _ _ c2
       replace bw:=bel_trans bw hal
       replace hX:=hX.below hal
       replace hsz:w.heap.size+1≤(U38.alloc (.cells #[] 142)).heap.size:=Nat.le_trans hsz hal.size
       go_simp
       refine hK.out _ _ ⟨c0,c1,c2⟩ (fun hS39=>?_)
       clear hK hal
       generalize U38.heap.size=V39 at *
       generalize (U38.alloc (.cells #[] 142))=U39 at *
       try simp only [Act.put,tka,tkb,tkc]
       refine tkr 4 39 (fun K hK=>?_)
       have hGl:=World.block_lt_of_cell? _ _ e0
       refine step_append_atB rfl _ _ 127 rfl (w.heap.size+1) 142 i0 (.agg #[.int .i64 0,.int .i64 0,.int .i64 0]) 3 24 Tryd.underlying127 hi hz0 hz1 hz2 rfl (by decide) (.slice (some ⟨V39,0,none⟩) 0 0) 0 [] rfl q ⟨b,off,none⟩ k cap (flat (xs.take k)) rfl (by rw [flat_length,List.length_take];omega) (instrs_news (slice_h3 hX hkn).2) (flat_one _) (by unfold maxLen;omega) (by omega) hsz ?_
       intro v40 U40 q2 gr hob
       replace c0:=cell_grownB gr c0 (fun e=>Nat.not_succ_le_self _ (q.lt _ e.symm).1)
       replace c1:=cell_grownB gr c1 (fun e=>Nat.not_succ_le_self _ (q.lt _ e.symm).1)
       replace c2:=cell_grownB gr c2 (fun e=>Nat.not_succ_le_self _ (q.lt _ e.symm).1)
       replace e0:=cell_grownB gr e0 (fun e=>hap _ e.symm rfl)
       replace e1:=cell_grownB gr e1 (fun e=>hap _ e.symm rfl)
       replace e2:=cell_grownB gr e2 (fun e=>hap _ e.symm rfl)
       have hap2:∀ g,Value.ownBlock v40=some g→g≠G:=fun g hg e=>by
        rcases hob with hu | hu
        ·exact hap g (hu▸hg) e
        ·rw [hu] at hg
         simp at hg hGl
         omega
       clear hap hGl
       have hap:=hap2
       clear hap2
       replace bw:=bw.grown gr bw.size (fun g hg=>by have:=(q.lt g hg).1;omega)
       replace hX:=h.below bw
       replace hsz:w.heap.size+1≤U40.heap.size:=Nat.le_trans hsz gr.size
       refine hK.out _ _ ⟨c0,c1,c2⟩ (fun hS40=>?_)
       clear hK q gr hob
       have q:=q2
       clear q2
       try simp only [Act.put,tka,tkb,tkc]
       refine tkr 7 42 (fun K hK=>?_)
       refine step_append_atB rfl _ _ 127 rfl (w.heap.size+1) 142 i0 (.agg #[.int .i64 0,.int .i64 0,.int .i64 0]) 3 24 Tryd.underlying127 hi hz0 hz1 hz2 rfl (by decide) v40 (0+k) ([]++flat (xs.take k)) rfl q ⟨G,0,none⟩ 1 1 [.int .i64 x0,.int .i64 x1,.int .i64 y2] rfl rfl (three_at e0 e1 e2) (three_one _ _ _) (by unfold maxLen;omega) (by omega) hsz ?_
       intro v41 U41 q2 gr hob
       replace c0:=cell_grownB gr c0 (fun e=>Nat.not_succ_le_self _ (q.lt _ e.symm).1)
       replace c1:=cell_grownB gr c1 (fun e=>Nat.not_succ_le_self _ (q.lt _ e.symm).1)
       replace c2:=cell_grownB gr c2 (fun e=>Nat.not_succ_le_self _ (q.lt _ e.symm).1)
       replace bw:=bw.grown gr bw.size (fun g hg=>by have:=(q.lt g hg).1;omega)
       replace hX:=h.below bw
       replace hsz:w.heap.size+1≤U41.heap.size:=Nat.le_trans hsz gr.size
       refine hK.out _ _ ⟨c0,c1,c2⟩ (fun hS41=>?_)
       clear hK q gr hob
       have q:=q2
       clear q2
       clear e0 e1 e2 hap
       try simp only [Act.put,tka,tkb,tkc]
       refine tkr 11 46 (fun K hK=>?_)
       refine step_append_atB rfl _ _ 127 rfl (w.heap.size+1) 142 i0 (.agg #[.int .i64 0,.int .i64 0,.int .i64 0]) 3 24 Tryd.underlying127 hi hz0 hz1 hz2 rfl (by decide) v41 (0+k+1) (([]++flat (xs.take k))++[.int .i64 x0,.int .i64 x1,.int .i64 y2]) rfl q ⟨b,o2,none⟩ (n - k) (cap - k) (flat (xs.drop k)) rfl (by rw [flat_length,List.length_drop];omega) (instrs_news (hD.below bw)) (flat_one _) (by unfold maxLen;omega) (by omega) hsz ?_
       intro v42 U42 q2 gr hob
       replace c0:=cell_grownB gr c0 (fun e=>Nat.not_succ_le_self _ (q.lt _ e.symm).1)
       replace c1:=cell_grownB gr c1 (fun e=>Nat.not_succ_le_self _ (q.lt _ e.symm).1)
       replace c2:=cell_grownB gr c2 (fun e=>Nat.not_succ_le_self _ (q.lt _ e.symm).1)
       replace bw:=bw.grown gr bw.size (fun g hg=>by have:=(q.lt g hg).1;omega)
       replace hX:=h.below bw
       replace hsz:w.heap.size+1≤U42.heap.size:=Nat.le_trans hsz gr.size
       refine hK.out _ _ ⟨c0,c1,c2⟩ (fun hS42=>?_)
       clear hK q gr hob
       have q:=q2
       clear q2
       try simp only [Act.put,tka,tkb,tkc]
       refine tkm 12 4 v42 ?_
       refine wpAnyH_done (by kernel_rfl) ?_ _
       have hQ:=HP.out _ _ q
       obtain ⟨g,c,rfl⟩:=own_someB q (by omega)
       clear q c0 c1 c2 rT rD
       go_wp2
       go_ret
       exact ⟨⟨_,rfl,hQ⟩,bw⟩
  ·obtain rfl:k=n:=by omega
   obtain rfl:k=L:=by omega
   have hkk:¬ ((k:Int)<(k:Int)):=by omega
   have hkb:decide ((k:Int)<(k:Int))=false:=by simp
   have HP:Hid (∀ (v:Value) (W:World),W.ownsRow (w.heap.size+1) 142 3 v (0+k+1+0) (([]++flat (xs.take k)++[.int .i64 y0,.int .i64 y1,.int .i64 y2])++flat (xs.drop k))→W.ownsRow w.heap.size 142 3 v (putB xs (y0,y1,y2)).length (flat (putB xs (y0,y1,y2)))):=by
    intro v W q
    have h9:=HPut.out
    rw [if_neg (by omega)] at h9
    have hlen:(putB xs (y0,y1,y2)).length=0+k+1+0:=by rw [h9];simp;omega
    rw [hlen,h9,flat_append,flat_append]
    simpa [flat,I3.cells] using own_lowerB q (by omega)
   clear HPut HN HY kL
   go_wp2_with fail
   go_quiet (fail)
   replace c0:(wr.drewN nq).cell? ⟨w.heap.size,0,none⟩=some (.int .i64 y0):=c0
   replace c1:(wr.drewN nq).cell? ⟨w.heap.size,1,none⟩=some (.int .i64 y1):=c1
   replace c2:(wr.drewN nq).cell? ⟨w.heap.size,2,none⟩=some (.int .i64 y2):=c2
   replace bw:=below_drewN bw nq
   replace hX:=h.below bw
   replace hsz:w.heap.size+1≤(wr.drewN nq).heap.size:=hsz
   generalize wr.drewN nq=UV at *
   go_wp2_with fail
   go_quiet (fail)
   replace c0:(UV.drewN nq).cell? ⟨w.heap.size,0,none⟩=some (.int .i64 y0):=c0
   replace c1:(UV.drewN nq).cell? ⟨w.heap.size,1,none⟩=some (.int .i64 y1):=c1
   replace c2:(UV.drewN nq).cell? ⟨w.heap.size,2,none⟩=some (.int .i64 y2):=c2
   replace bw:=below_drewN bw nq
   replace hX:=h.below bw
   replace hsz:w.heap.size+1≤(UV.drewN nq).heap.size:=hsz
   generalize UV.drewN nq=UW at *
   go_wp2_with fail
   refine wp_region_held_drew (S:=(fun w'=>w'.cell? ⟨w.heap.size,0,none⟩=some (.int .i64 y0)∧w'.cell? ⟨w.heap.size,1,none⟩=some (.int .i64 y1)∧w'.cell? ⟨w.heap.size,2,none⟩=some (.int .i64 y2))) (by kernel_rfl) ⟨c0,c1,c2⟩ (fun hS0=>?_)
   refine tkm 1 36 (.slice (some ⟨b,off,none⟩) k cap) ?_
   refine tkm 2 37 (.int .i64 (k:Int)) ?_
   refine tkm 3 38 (.slice (some ⟨b,off,none⟩) k cap) ?_
   refine tkm 5 40 (.agg #[.int .i64 y0,.int .i64 y1,.int .i64 y2]) ?_
   refine tkm 8 43 (.slice (some ⟨b,off,none⟩) k cap) ?_
   refine tkm 9 44 (.int .i64 (k:Int)) ?_
   refine tkm 10 45 (.slice (some ⟨b,o2,none⟩) 0 (cap - k)) ?_
   refine wpAnyH_ready (rs:=[0,6]) (by kernel_rfl) (by simp) ?_
   refine AllReadyH.cons (o:=⟨some 35,_,_,_,_,_⟩) rfl (fun K hK=>?_) (AllReadyH.cons (o:=⟨some 41,_,_,_,_,_⟩) rfl (fun K hK=>?_) AllReadyH.nil)
   ·have q:=(own_emptyB UW 142 3 (w.heap.size+1) hsz).drew
    have hal:Below UW.heap.size UW (UW.alloc (.cells #[] 142)).drew:=by go_grown
    replace c0:=cells_kept hal _ _ c0
    replace c1:=cells_kept hal _ _ c1
    replace c2:=cells_kept hal _ _ c2
    replace bw:=bel_trans bw hal
    replace hX:=hX.below hal
    replace hsz:w.heap.size+1≤(UW.alloc (.cells #[] 142)).drew.heap.size:=Nat.le_trans hsz hal.size
    go_simp
    refine hK.out _ _ ⟨c0,c1,c2⟩ (fun hS43=>?_)
    clear hK hal
    generalize UW.heap.size=V43 at *
    generalize (UW.alloc (.cells #[] 142)).drew=U43 at *
    try simp only [Act.put,tka,tkb,tkc]
    refine wpAnyH_ready (rs:=[4,6]) (by kernel_rfl) (by simp) ?_
    refine AllReadyH.cons (o:=⟨some 39,_,_,_,_,_⟩) rfl (fun K hK=>?_) (AllReadyH.cons (o:=⟨some 41,_,_,_,_,_⟩) rfl (fun K hK=>?_) AllReadyH.nil)
    ·refine step_append_atB rfl _ _ 127 rfl (w.heap.size+1) 142 i0 (.agg #[.int .i64 0,.int .i64 0,.int .i64 0]) 3 24 Tryd.underlying127 hi hz0 hz1 hz2 rfl (by decide) (.slice (some ⟨V43,0,none⟩) 0 0) 0 [] rfl q ⟨b,off,none⟩ k cap (flat (xs.take k)) rfl (by rw [flat_length,List.length_take];omega) (instrs_news (slice_h3 hX hkn).2) (flat_one _) (by unfold maxLen;omega) (by omega) hsz ?_
     intro v44 U44 q2 gr hob
     replace c0:=cell_grownB gr c0 (fun e=>Nat.not_succ_le_self _ (q.lt _ e.symm).1)
     replace c1:=cell_grownB gr c1 (fun e=>Nat.not_succ_le_self _ (q.lt _ e.symm).1)
     replace c2:=cell_grownB gr c2 (fun e=>Nat.not_succ_le_self _ (q.lt _ e.symm).1)
     replace bw:=bw.grown gr bw.size (fun g hg=>by have:=(q.lt g hg).1;omega)
     replace hX:=h.below bw
     replace hsz:w.heap.size+1≤U44.heap.size:=Nat.le_trans hsz gr.size
     refine hK.out _ _ ⟨c0,c1,c2⟩ (fun hS44=>?_)
     clear hK q gr hob
     have q:=q2
     clear q2
     try simp only [Act.put,tka,tkb,tkc]
     refine tkr 6 41 (fun K hK=>?_)
     obtain ⟨G,hG⟩:∃ G,G=U44.heap.size:=⟨_,rfl⟩
     have e0:(U44.alloc (.cells #[.int .i64 y0,.int .i64 y1,.int .i64 y2] 142)).cell? ⟨G,0,none⟩=some (.int .i64 y0):=by subst hG;simp [go_sem]
     have e1:(U44.alloc (.cells #[.int .i64 y0,.int .i64 y1,.int .i64 y2] 142)).cell? ⟨G,1,none⟩=some (.int .i64 y1):=by subst hG;simp [go_sem]
     have e2:(U44.alloc (.cells #[.int .i64 y0,.int .i64 y1,.int .i64 y2] 142)).cell? ⟨G,2,none⟩=some (.int .i64 y2):=by subst hG;simp [go_sem]
     have hal:Below U44.heap.size U44 (U44.alloc (.cells #[.int .i64 y0,.int .i64 y1,.int .i64 y2] 142)):=by go_grown
     have hap:∀ g,Value.ownBlock v44=some g→g≠G:=fun g hg e=>by have:=(q.lt g hg).2;omega
     replace q:=owns_below q hal
     replace c0:=cells_kept hal _ _ c0
     replace c1:=cells_kept hal _ _ c1
     replace c2:=cells_kept hal _ _ c2
     replace bw:=bel_trans bw hal
     replace hX:=hX.below hal
     replace hsz:w.heap.size+1≤(U44.alloc (.cells #[.int .i64 y0,.int .i64 y1,.int .i64 y2] 142)).heap.size:=Nat.le_trans hsz hal.size
     go_simp
     rw [← hG]
     refine hK.out _ _ ⟨c0,c1,c2⟩ (fun hS45=>?_)
     clear hK hal
     clear hG
     generalize (U44.alloc (.cells #[.int .i64 y0,.int .i64 y1,.int .i64 y2] 142))=U45 at *
     try simp only [Act.put,tka,tkb,tkc]
     refine tkr 7 42 (fun K hK=>?_)
     refine step_append_atB rfl _ _ 127 rfl (w.heap.size+1) 142 i0 (.agg #[.int .i64 0,.int .i64 0,.int .i64 0]) 3 24 Tryd.underlying127 hi hz0 hz1 hz2 rfl (by decide) v44 (0+k) ([]++flat (xs.take k)) rfl q ⟨G,0,none⟩ 1 1 [.int .i64 y0,.int .i64 y1,.int .i64 y2] rfl rfl (three_at e0 e1 e2) (three_one _ _ _) (by unfold maxLen;omega) (by omega) hsz ?_
     intro v46 U46 q2 gr hob
     replace c0:=cell_grownB gr c0 (fun e=>Nat.not_succ_le_self _ (q.lt _ e.symm).1)
     replace c1:=cell_grownB gr c1 (fun e=>Nat.not_succ_le_self _ (q.lt _ e.symm).1)
     replace c2:=cell_grownB gr c2 (fun e=>Nat.not_succ_le_self _ (q.lt _ e.symm).1)
     replace bw:=bw.grown gr bw.size (fun g hg=>by have:=(q.lt g hg).1;omega)
     replace hX:=h.below bw
     replace hsz:w.heap.size+1≤U46.heap.size:=Nat.le_trans hsz gr.size
     refine hK.out _ _ ⟨c0,c1,c2⟩ (fun hS46=>?_)
     clear hK q gr hob
     have q:=q2
     clear q2
     clear e0 e1 e2 hap
     try simp only [Act.put,tka,tkb,tkc]
     refine tkr 11 46 (fun K hK=>?_)
     refine step_append_atB rfl _ _ 127 rfl (w.heap.size+1) 142 i0 (.agg #[.int .i64 0,.int .i64 0,.int .i64 0]) 3 24 Tryd.underlying127 hi hz0 hz1 hz2 rfl (by decide) v46 (0+k+1) (([]++flat (xs.take k))++[.int .i64 y0,.int .i64 y1,.int .i64 y2]) rfl q ⟨b,o2,none⟩ 0 (cap - k) (flat (xs.drop k)) rfl (by rw [flat_length,List.length_drop];omega) (instrs_news (hD.below bw)) (flat_one _) (by unfold maxLen;omega) (by omega) hsz ?_
     intro v47 U47 q2 gr hob
     replace c0:=cell_grownB gr c0 (fun e=>Nat.not_succ_le_self _ (q.lt _ e.symm).1)
     replace c1:=cell_grownB gr c1 (fun e=>Nat.not_succ_le_self _ (q.lt _ e.symm).1)
     replace c2:=cell_grownB gr c2 (fun e=>Nat.not_succ_le_self _ (q.lt _ e.symm).1)
     replace bw:=bw.grown gr bw.size (fun g hg=>by have:=(q.lt g hg).1;omega)
     replace hX:=h.below bw
     replace hsz:w.heap.size+1≤U47.heap.size:=Nat.le_trans hsz gr.size
     refine hK.out _ _ ⟨c0,c1,c2⟩ (fun hS47=>?_)
     clear hK q gr hob
     have q:=q2
     clear q2
     try simp only [Act.put,tka,tkb,tkc]
     refine tkm 12 4 v47 ?_
     refine wpAnyH_done (by kernel_rfl) ?_ _
     have hQ:=HP.out _ _ q
     obtain ⟨g,c,rfl⟩:=own_someB q (by omega)
     clear q c0 c1 c2 rT rD
     go_wp2
     go_ret
     exact ⟨⟨_,rfl,hQ⟩,bw⟩
    ·obtain ⟨G,hG⟩:∃ G,G=U43.heap.size:=⟨_,rfl⟩
     have e0:(U43.alloc (.cells #[.int .i64 y0,.int .i64 y1,.int .i64 y2] 142)).cell? ⟨G,0,none⟩=some (.int .i64 y0):=by subst hG;simp [go_sem]
     have e1:(U43.alloc (.cells #[.int .i64 y0,.int .i64 y1,.int .i64 y2] 142)).cell? ⟨G,1,none⟩=some (.int .i64 y1):=by subst hG;simp [go_sem]
     have e2:(U43.alloc (.cells #[.int .i64 y0,.int .i64 y1,.int .i64 y2] 142)).cell? ⟨G,2,none⟩=some (.int .i64 y2):=by subst hG;simp [go_sem]
     have hal:Below U43.heap.size U43 (U43.alloc (.cells #[.int .i64 y0,.int .i64 y1,.int .i64 y2] 142)):=by go_grown
     have hap:∀ g,Value.ownBlock (.slice (some ⟨V43,0,none⟩) 0 0)=some g→g≠G:=fun g hg e=>by have:=(q.lt g hg).2;omega
     replace q:=owns_below q hal
     replace c0:=cells_kept hal _ _ c0
     replace c1:=cells_kept hal _ _ c1
     replace c2:=cells_kept hal _ _ c2
     replace bw:=bel_trans bw hal
     replace hX:=hX.below hal
     replace hsz:w.heap.size+1≤(U43.alloc (.cells #[.int .i64 y0,.int .i64 y1,.int .i64 y2] 142)).heap.size:=Nat.le_trans hsz hal.size
     go_simp
     rw [← hG]
     refine hK.out _ _ ⟨c0,c1,c2⟩ (fun hS48=>?_)
     clear hK hal
     clear hG
     generalize (U43.alloc (.cells #[.int .i64 y0,.int .i64 y1,.int .i64 y2] 142))=U48 at *
     try simp only [Act.put,tka,tkb,tkc]
     refine tkr 4 39 (fun K hK=>?_)
     have hGl:=World.block_lt_of_cell? _ _ e0
     refine step_append_atB rfl _ _ 127 rfl (w.heap.size+1) 142 i0 (.agg #[.int .i64 0,.int .i64 0,.int .i64 0]) 3 24 Tryd.underlying127 hi hz0 hz1 hz2 rfl (by decide) (.slice (some ⟨V43,0,none⟩) 0 0) 0 [] rfl q ⟨b,off,none⟩ k cap (flat (xs.take k)) rfl (by rw [flat_length,List.length_take];omega) (instrs_news (slice_h3 hX hkn).2) (flat_one _) (by unfold maxLen;omega) (by omega) hsz ?_
     intro v49 U49 q2 gr hob
     replace c0:=cell_grownB gr c0 (fun e=>Nat.not_succ_le_self _ (q.lt _ e.symm).1)
     replace c1:=cell_grownB gr c1 (fun e=>Nat.not_succ_le_self _ (q.lt _ e.symm).1)
     replace c2:=cell_grownB gr c2 (fun e=>Nat.not_succ_le_self _ (q.lt _ e.symm).1)
     replace e0:=cell_grownB gr e0 (fun e=>hap _ e.symm rfl)
     replace e1:=cell_grownB gr e1 (fun e=>hap _ e.symm rfl)
     replace e2:=cell_grownB gr e2 (fun e=>hap _ e.symm rfl)
     have hap2:∀ g,Value.ownBlock v49=some g→g≠G:=fun g hg e=>by
      rcases hob with hu | hu
      ·exact hap g (hu▸hg) e
      ·rw [hu] at hg
       simp at hg hGl
       omega
     clear hap hGl
     have hap:=hap2
     clear hap2
     replace bw:=bw.grown gr bw.size (fun g hg=>by have:=(q.lt g hg).1;omega)
     replace hX:=h.below bw
     replace hsz:w.heap.size+1≤U49.heap.size:=Nat.le_trans hsz gr.size
     refine hK.out _ _ ⟨c0,c1,c2⟩ (fun hS49=>?_)
     clear hK q gr hob
     have q:=q2
     clear q2
     try simp only [Act.put,tka,tkb,tkc]
     refine tkr 7 42 (fun K hK=>?_)
     refine step_append_atB rfl _ _ 127 rfl (w.heap.size+1) 142 i0 (.agg #[.int .i64 0,.int .i64 0,.int .i64 0]) 3 24 Tryd.underlying127 hi hz0 hz1 hz2 rfl (by decide) v49 (0+k) ([]++flat (xs.take k)) rfl q ⟨G,0,none⟩ 1 1 [.int .i64 y0,.int .i64 y1,.int .i64 y2] rfl rfl (three_at e0 e1 e2) (three_one _ _ _) (by unfold maxLen;omega) (by omega) hsz ?_
     intro v50 U50 q2 gr hob
     replace c0:=cell_grownB gr c0 (fun e=>Nat.not_succ_le_self _ (q.lt _ e.symm).1)
     replace c1:=cell_grownB gr c1 (fun e=>Nat.not_succ_le_self _ (q.lt _ e.symm).1)
     replace c2:=cell_grownB gr c2 (fun e=>Nat.not_succ_le_self _ (q.lt _ e.symm).1)
     replace bw:=bw.grown gr bw.size (fun g hg=>by have:=(q.lt g hg).1;omega)
     replace hX:=h.below bw
     replace hsz:w.heap.size+1≤U50.heap.size:=Nat.le_trans hsz gr.size
     refine hK.out _ _ ⟨c0,c1,c2⟩ (fun hS50=>?_)
     clear hK q gr hob
     have q:=q2
     clear q2
     clear e0 e1 e2 hap
     try simp only [Act.put,tka,tkb,tkc]
     refine tkr 11 46 (fun K hK=>?_)
     refine step_append_atB rfl _ _ 127 rfl (w.heap.size+1) 142 i0 (.agg #[.int .i64 0,.int .i64 0,.int .i64 0]) 3 24 Tryd.underlying127 hi hz0 hz1 hz2 rfl (by decide) v50 (0+k+1) (([]++flat (xs.take k))++[.int .i64 y0,.int .i64 y1,.int .i64 y2]) rfl q ⟨b,o2,none⟩ 0 (cap - k) (flat (xs.drop k)) rfl (by rw [flat_length,List.length_drop];omega) (instrs_news (hD.below bw)) (flat_one _) (by unfold maxLen;omega) (by omega) hsz ?_
     intro v51 U51 q2 gr hob
     replace c0:=cell_grownB gr c0 (fun e=>Nat.not_succ_le_self _ (q.lt _ e.symm).1)
     replace c1:=cell_grownB gr c1 (fun e=>Nat.not_succ_le_self _ (q.lt _ e.symm).1)
     replace c2:=cell_grownB gr c2 (fun e=>Nat.not_succ_le_self _ (q.lt _ e.symm).1)
     replace bw:=bw.grown gr bw.size (fun g hg=>by have:=(q.lt g hg).1;omega)
     replace hX:=h.below bw
     replace hsz:w.heap.size+1≤U51.heap.size:=Nat.le_trans hsz gr.size
     refine hK.out _ _ ⟨c0,c1,c2⟩ (fun hS51=>?_)
     clear hK q gr hob
     have q:=q2
     clear q2
     try simp only [Act.put,tka,tkb,tkc]
     refine tkm 12 4 v51 ?_
     refine wpAnyH_done (by kernel_rfl) ?_ _
     have hQ:=HP.out _ _ q
     obtain ⟨g,c,rfl⟩:=own_someB q (by omega)
     clear q c0 c1 c2 rT rD
     go_wp2
     go_ret
     exact ⟨⟨_,rfl,hQ⟩,bw⟩
   ·obtain ⟨G,hG⟩:∃ G,G=UW.heap.size:=⟨_,rfl⟩
    have e0:(UW.alloc (.cells #[.int .i64 y0,.int .i64 y1,.int .i64 y2] 142)).drew.cell? ⟨G,0,none⟩=some (.int .i64 y0):=by subst hG;simp [go_sem]
    have e1:(UW.alloc (.cells #[.int .i64 y0,.int .i64 y1,.int .i64 y2] 142)).drew.cell? ⟨G,1,none⟩=some (.int .i64 y1):=by subst hG;simp [go_sem]
    have e2:(UW.alloc (.cells #[.int .i64 y0,.int .i64 y1,.int .i64 y2] 142)).drew.cell? ⟨G,2,none⟩=some (.int .i64 y2):=by subst hG;simp [go_sem]
    have hal:Below UW.heap.size UW (UW.alloc (.cells #[.int .i64 y0,.int .i64 y1,.int .i64 y2] 142)).drew:=by go_grown
    replace c0:=cells_kept hal _ _ c0
    replace c1:=cells_kept hal _ _ c1
    replace c2:=cells_kept hal _ _ c2
    replace bw:=bel_trans bw hal
    replace hX:=hX.below hal
    replace hsz:w.heap.size+1≤(UW.alloc (.cells #[.int .i64 y0,.int .i64 y1,.int .i64 y2] 142)).drew.heap.size:=Nat.le_trans hsz hal.size
    go_simp
    rw [← hG]
    refine hK.out _ _ ⟨c0,c1,c2⟩ (fun hS52=>?_)
    clear hK hal
    clear hG
    generalize (UW.alloc (.cells #[.int .i64 y0,.int .i64 y1,.int .i64 y2] 142)).drew=U52 at *
    try simp only [Act.put,tka,tkb,tkc]
    refine tkr 0 35 (fun K hK=>?_)
    have q:=(own_emptyB U52 142 3 (w.heap.size+1) hsz)
    have hap:∀ g,(Value.slice (some ⟨U52.heap.size,0,none⟩) 0 0).ownBlock=some g→g≠G:=fun g hg e=>by have hGl:=World.block_lt_of_cell? _ _ e0;simp [Value.ownBlock] at hg;simp at hGl;omega
    have hal:Below U52.heap.size U52 (U52.alloc (.cells #[] 142)):=by go_grown
    replace e0:=cells_kept hal _ _ e0
    replace e1:=cells_kept hal _ _ e1
    replace e2:=cells_kept hal _ _ e2
    replace c0:=cells_kept hal _ _ c0
    replace c1:=cells_kept hal _ _ c1
    replace c2:=cells_kept hal _ _ c2
    replace bw:=bel_trans bw hal
    replace hX:=hX.below hal
    replace hsz:w.heap.size+1≤(U52.alloc (.cells #[] 142)).heap.size:=Nat.le_trans hsz hal.size
    go_simp
    refine hK.out _ _ ⟨c0,c1,c2⟩ (fun hS53=>?_)
    clear hK hal
    generalize U52.heap.size=V53 at *
    generalize (U52.alloc (.cells #[] 142))=U53 at *
    try simp only [Act.put,tka,tkb,tkc]
    refine tkr 4 39 (fun K hK=>?_)
    have hGl:=World.block_lt_of_cell? _ _ e0
    refine step_append_atB rfl _ _ 127 rfl (w.heap.size+1) 142 i0 (.agg #[.int .i64 0,.int .i64 0,.int .i64 0]) 3 24 Tryd.underlying127 hi hz0 hz1 hz2 rfl (by decide) (.slice (some ⟨V53,0,none⟩) 0 0) 0 [] rfl q ⟨b,off,none⟩ k cap (flat (xs.take k)) rfl (by rw [flat_length,List.length_take];omega) (instrs_news (slice_h3 hX hkn).2) (flat_one _) (by unfold maxLen;omega) (by omega) hsz ?_
    intro v54 U54 q2 gr hob
    replace c0:=cell_grownB gr c0 (fun e=>Nat.not_succ_le_self _ (q.lt _ e.symm).1)
    replace c1:=cell_grownB gr c1 (fun e=>Nat.not_succ_le_self _ (q.lt _ e.symm).1)
    replace c2:=cell_grownB gr c2 (fun e=>Nat.not_succ_le_self _ (q.lt _ e.symm).1)
    replace e0:=cell_grownB gr e0 (fun e=>hap _ e.symm rfl)
    replace e1:=cell_grownB gr e1 (fun e=>hap _ e.symm rfl)
    replace e2:=cell_grownB gr e2 (fun e=>hap _ e.symm rfl)
    have hap2:∀ g,Value.ownBlock v54=some g→g≠G:=fun g hg e=>by
     rcases hob with hu | hu
     ·exact hap g (hu▸hg) e
     ·rw [hu] at hg
      simp at hg hGl
      omega
    clear hap hGl
    have hap:=hap2
    clear hap2
    replace bw:=bw.grown gr bw.size (fun g hg=>by have:=(q.lt g hg).1;omega)
    replace hX:=h.below bw
    replace hsz:w.heap.size+1≤U54.heap.size:=Nat.le_trans hsz gr.size
    refine hK.out _ _ ⟨c0,c1,c2⟩ (fun hS54=>?_)
    clear hK q gr hob
    have q:=q2
    clear q2
    try simp only [Act.put,tka,tkb,tkc]
    refine tkr 7 42 (fun K hK=>?_)
    refine step_append_atB rfl _ _ 127 rfl (w.heap.size+1) 142 i0 (.agg #[.int .i64 0,.int .i64 0,.int .i64 0]) 3 24 Tryd.underlying127 hi hz0 hz1 hz2 rfl (by decide) v54 (0+k) ([]++flat (xs.take k)) rfl q ⟨G,0,none⟩ 1 1 [.int .i64 y0,.int .i64 y1,.int .i64 y2] rfl rfl (three_at e0 e1 e2) (three_one _ _ _) (by unfold maxLen;omega) (by omega) hsz ?_
    intro v55 U55 q2 gr hob
    replace c0:=cell_grownB gr c0 (fun e=>Nat.not_succ_le_self _ (q.lt _ e.symm).1)
    replace c1:=cell_grownB gr c1 (fun e=>Nat.not_succ_le_self _ (q.lt _ e.symm).1)
    replace c2:=cell_grownB gr c2 (fun e=>Nat.not_succ_le_self _ (q.lt _ e.symm).1)
    replace bw:=bw.grown gr bw.size (fun g hg=>by have:=(q.lt g hg).1;omega)
    replace hX:=h.below bw
    replace hsz:w.heap.size+1≤U55.heap.size:=Nat.le_trans hsz gr.size
    refine hK.out _ _ ⟨c0,c1,c2⟩ (fun hS55=>?_)
    clear hK q gr hob
    have q:=q2
    clear q2
    clear e0 e1 e2 hap
    try simp only [Act.put,tka,tkb,tkc]
    refine tkr 11 46 (fun K hK=>?_)
    refine step_append_atB rfl _ _ 127 rfl (w.heap.size+1) 142 i0 (.agg #[.int .i64 0,.int .i64 0,.int .i64 0]) 3 24 Tryd.underlying127 hi hz0 hz1 hz2 rfl (by decide) v55 (0+k+1) (([]++flat (xs.take k))++[.int .i64 y0,.int .i64 y1,.int .i64 y2]) rfl q ⟨b,o2,none⟩ 0 (cap - k) (flat (xs.drop k)) rfl (by rw [flat_length,List.length_drop];omega) (instrs_news (hD.below bw)) (flat_one _) (by unfold maxLen;omega) (by omega) hsz ?_
    intro v56 U56 q2 gr hob
    replace c0:=cell_grownB gr c0 (fun e=>Nat.not_succ_le_self _ (q.lt _ e.symm).1)
    replace c1:=cell_grownB gr c1 (fun e=>Nat.not_succ_le_self _ (q.lt _ e.symm).1)
    replace c2:=cell_grownB gr c2 (fun e=>Nat.not_succ_le_self _ (q.lt _ e.symm).1)
    replace bw:=bw.grown gr bw.size (fun g hg=>by have:=(q.lt g hg).1;omega)
    replace hX:=h.below bw
    replace hsz:w.heap.size+1≤U56.heap.size:=Nat.le_trans hsz gr.size
    refine hK.out _ _ ⟨c0,c1,c2⟩ (fun hS56=>?_)
    clear hK q gr hob
    have q:=q2
    clear q2
    try simp only [Act.put,tka,tkb,tkc]
    refine tkm 12 4 v56 ?_
    refine wpAnyH_done (by kernel_rfl) ?_ _
    have hQ:=HP.out _ _ q
    obtain ⟨g,c,rfl⟩:=own_someB q (by omega)
    clear q c0 c1 c2 rT rD
    go_wp2
    go_ret
    exact ⟨⟨_,rfl,hQ⟩,bw⟩
end Go.Proofs.YtojcgajjnmjjpaaDoor
