/-
  Joined: VrsW.
-/
import Derived.Deep.CutBlock
import Derived.Test.YtgmhhegckcionaaGreatDoorP04
import Derived.Test.YtgmhhegckcionaaGreatDoorP41

namespace Go.Proofs.YtgmhhegckcionaaGreatDoor
set_option maxRecDepth 100000
set_option maxHeartbeats 16000000
open Go.RowKit
set_option linter.unusedVariables false
set_option linter.unusedSimpArgs false

theorem went_of14 {p:Nat} {w W:World} (hb:Below w.heap.size w W):Went p w W:=⟨hb.os,hb.tape,hb.output,hb.size,fun k hk _=>hb.block k hk⟩

theorem version_go (p:Nat) (a:Option Addr) (n cap:Nat) (w:World) (hS:Src w p (.slice a n cap) 0) (hC:Code w p a n cap) (B0 g0 c0:Nat) (vs0:List Value) (rows0:List (List I3)) (hP:ProgAt w B0 g0 c0 vs0 rows0) (hs:ProgS rows0) :
  Calls Tryz.prog 25 #[.pointer (some ⟨p,0,none⟩),.agg #[.slice (some ⟨g0,0,none⟩) 3 c0]] w fun e w'=>(∃ (v:Value) (rows:List (List I3)),progOk rows=true∧e=.returned (.agg #[v])∧OwnProg w' w.heap.size v rows)∧Below p w w':=by
 obtain ⟨i0,hi,hz0,hz1,hz2⟩:=info_parts info_instr
 have hp:p<w.heap.size:=hS.lt
 have hp3:=hP.2.2
 have hl6:∀ r ∈ rows0,r.length≤6:=fun r hr=>((progOk_parts hs.1).2 r hr).1
 have hl3:Hid (∀ k,k<3→(rows0.getD k []).length≤3):=fun k hk=>by
  obtain ⟨h0,h1,h2⟩:=hs.2
  unfold codeM at h0 h1 h2
  rcases (by omega:k=0∨k=1∨k=2) with rfl | rfl | rfl<;>omega
 have hfit:∀ r ∈ rows0,∀ x ∈ r,I3.fits x:=fun r hr x hx=>okI_fits (((progOk_parts hs.1).2 r hr).2 x hx)
 have pX:=(Blk.new w 25 [.slice (some ⟨g0,0,none⟩) 3 c0]).below (bel_new _ (.cells #[.slice none 0 0] 25))
 have pR:=Blk.new (w.alloc (.cells #[.slice (some ⟨g0,0,none⟩) 3 c0] 25)) 25 [.slice none 0 0]
 have bw:=belD (bel_new w (.cells #[.slice (some ⟨g0,0,none⟩) 3 c0] 25)) (bel_new _ (.cells #[.slice none 0 0] 25))
 have hs1:(w.alloc (.cells #[.slice (some ⟨g0,0,none⟩) 3 c0] 25)).heap.size=w.heap.size+1:=by simp
 have hs2:((w.alloc (.cells #[.slice (some ⟨g0,0,none⟩) 3 c0] 25)).alloc (.cells #[.slice none 0 0] 25)).heap.size=w.heap.size+2:=by simp
 rw [hs1] at pR
 replace hP:=hP.below bw
 have c0X:=pX.cell 0
 simp only [List.toArray,List.getElem?_cons_zero] at pX pR bw hP hs2 c0X
 clear hs hs1
 go_enter Tryz.func25,Tryz.ntmps25
 go_wp2_with fail
 generalize (w.alloc (.cells #[.slice (some ⟨g0,0,none⟩) 3 c0] 25)).alloc (.cells #[.slice none 0 0] 25)=W1 at *
 refine (l02Own_is B0 g0 c0 vs0 rows0 W1 hP hl6).mono ?_
 rintro e w1 ⟨⟨v,rfl,oP⟩,hb⟩
 rw [hs2] at oP
 obtain ⟨g,c,vs,rfl,hQ⟩:=ProgAt.of oP hp3
 replace pX:=pX.below hb
 replace pR:=pR.below hb
 replace bw:=belD bw hb
 clear hP hb oP hl6 hs2 c0X
 have gX:w1.grownBy (w1.setCell ⟨w.heap.size,0,none⟩ (.slice (some ⟨g,0,none⟩) 3 c)) (some w.heap.size):=grownBy_set _ _ _ _
 have hQ2:=hQ.low gX (by omega)
 have pX2:=pX.set 0 (.slice (some ⟨g,0,none⟩) 3 c)
 have pR2:=pR.kept gX (fun e=>by injection e with e;omega)
 have hW2:Went p w (w1.setCell ⟨w.heap.size,0,none⟩ (.slice (some ⟨g,0,none⟩) 3 c)):=(went_of14 bw).grown gX (fun k e=>by cases e;exact Nat.le_refl _)
 have hS2:=(hS.grown (row:=none) ⟨bw.os,bw.tape,bw.output,bw.size,fun k hk _=>bw.block k hk⟩ (fun k e=>by cases e)).grown gX (fun k e=>by cases e;omega)
 have hC2:=hC.went hW2 (Nat.le_of_lt hp)
 have H:VSt p a n cap w (w1.setCell ⟨w.heap.size,0,none⟩ (.slice (some ⟨g,0,none⟩) 3 c)) 0 g c vs rows0:=⟨⟨hQ2,hfit⟩,⟨pX2,pR2⟩,⟨hS2,hC2⟩,hW2⟩
 have x0:=pX.cell 0
 have fx0:=pX.frozen 0
 simp only [List.getElem?_cons_zero] at x0
 clear hQ hQ2 pX pX2 pR pR2 hW2 hS2 hC2 gX bw hS hC hfit
 go_wp2_with fail
 clear x0 fx0
 generalize w1.setCell ⟨w.heap.size,0,none⟩ (.slice (some ⟨g,0,none⟩) 3 c)=W2 at *
 refine (next_any p 0 a n cap 3 _ H.2.2.1.1 H.2.2.1.2 (by omega) (by omega)).mono ?_
 rintro e w3 ⟨⟨k,hk,rfl⟩,hS3,hW⟩
 replace H:=H.src hp hW hS3
 have hk3:k<3:=by omega
 have hk3':(k:Int)<3:=by omega
 have hk0:(0:Int)≤(k:Int):=by omega
 have hrl:=hl3.out k hk3
 clear hS3 hW hk hl3
 generalize rows0=rows at *
 have hrk:=H.row hk3
 obtain ⟨ak,ck,hvk⟩:=slice8 hrk
 obtain ⟨nk,hnk⟩:∃ nk,nk=(rows.getD k []).length:=⟨_,rfl⟩
 rw [← hnk] at hvk hrl
 have HN:Hid (nk=(rows.getD k []).length):=hnk
 obtain ⟨cX,cK⟩:=H.cells hk3
 rw [hvk] at cK
 clear hrk hnk
 go_upto_block 0 with fail
 go_cut [] from 7 to 113 (fun W=>VCut p a n cap w W)
 case first =>
  by_cases hn0:0<nk
  ·have hn0i:(0:Int)<(nk:Int):=by omega
   obtain ⟨b,hnc,rfl⟩:∃ b,nk≤ck∧ak=some ⟨b,0,none⟩:=by
    have hr:=H.row hk3
    rw [hvk] at hr
    rcases hr.2 with ⟨q,q0⟩ | ⟨b,cc,cur,q,_,_,h9,_⟩
    ·have:=HN.out;omega
    ·injection q with q1 q2 q3
     exact ⟨b,by omega,q1⟩
   clear cX cK
   go_wp2_with fail
   refine (chance_any p _ a n cap 3 _ H.2.2.1.1 H.2.2.1.2 (by omega) (by omega) (by omega)).mono ?_
   rintro e w4 ⟨⟨bb,_,rfl⟩,hS4,hW4⟩
   replace H:=H.src hp hW4 hS4
   clear hS4 hW4
   cases bb
   ·go_wp2_with fail
    refine (chance_any p _ a n cap 2 _ H.2.2.1.1 H.2.2.1.2 (by omega) (by omega) (by omega)).mono ?_
    rintro e w5 ⟨⟨bb,_,rfl⟩,hS4,hW4⟩
    replace H:=H.src hp hW4 hS4
    clear hS4 hW4
    cases bb
    ·by_cases h3n:nk<3
     ·have hz3:(nk:Int)<3:=by omega
      obtain ⟨cX,cK⟩:=H.cells hk3
      rw [hvk] at cK
      have hwn:IntKind.i64.wrap ((nk:Int)+1)=((nk+1:Nat):Int):=(IntWalk.i64_in _ ⟨by omega,by omega⟩).trans (by omega)
      go_wp2_with fail
      replace H:=H.drew hp
      clear cX cK
      refine wp_region_held_drew (S:=(fun w'=>w'.cell? ⟨w.heap.size,0,none⟩=some (.slice (some ⟨g,0,none⟩) 3 c))) (by kernel_rfl) (H.cells hk3).1 (fun hS0=>?_)
      refine tky 0 98 (.pointer (some ⟨w.heap.size,0,none⟩)) ?_
      try simp only [Act.put,tka,tkb,tkc]
      refine tky 1 99 (.slice (some ⟨g,0,none⟩) 3 c) ?_
      try simp only [Act.put,tka,tkb,tkc]
      refine tky 2 100 (.int .i64 (k:Int)) ?_
      try simp only [Act.put,tka,tkb,tkc]
      refine tky 3 101 (.pointer (some ⟨w.heap.size,0,none⟩)) ?_
      try simp only [Act.put,tka,tkb,tkc]
      refine tky 4 102 (.slice (some ⟨g,0,none⟩) 3 c) ?_
      try simp only [Act.put,tka,tkb,tkc]
      refine tky 5 103 (.int .i64 (k:Int)) ?_
      try simp only [Act.put,tka,tkb,tkc]
      refine tky 6 104 (.pointer (some ⟨g,k,none⟩)) ?_
      try simp only [Act.put,tka,tkb,tkc]
      refine tky 8 106 (.pointer (some ⟨p,0,none⟩)) ?_
      try simp only [Act.put,tka,tkb,tkc]
      refine tky 9 107 (.int .i64 (nk:Int)) ?_
      try simp only [Act.put,tka,tkb,tkc]
      refine tky 10 108 (.int .i64 (nk:Int)) ?_
      try simp only [Act.put,tka,tkb,tkc]
      refine tkx 11 109 (.int .i64 ((nk+1:Nat):Int)) ?_ ?_
      ·(intro w' hSw;(try dsimp only at hSw);go_simp;first | done | rfl | (rw [hwn];done) | (simp [hwn];done))
      try simp only [Act.put,tka,tkb,tkc]
      clear hS0
      refine wpAnyH_ready (rs:=[7,12]) (by kernel_rfl) (by simp) ?_
      refine AllReadyH.cons (o:=⟨some 105,_,_,_,_,_⟩) rfl (fun K hK=>?_) (AllReadyH.cons (o:=⟨some 110,_,_,_,_,_⟩) rfl (fun K hK=>?_) AllReadyH.nil)
      focus
       have cKl:=(H.cells hk3).2
       rw [hvk] at cKl
       go_simp
       refine hK.out _ _ (H.cells hk3).1 (fun hSl=>?_)
       clear hK cKl hSl
       try simp only [Act.put,tka,tkb,tkc]
       refine tkr 12 110 (fun K hK=>?_)
       go_simp
       refine (instr_any p _ a n cap nk (nk+1) _ H.2.2.1.1 H.2.2.1.2 (by omega) (by omega) (by omega)).mono ?_
       rintro e V1 ⟨⟨⟨x1,x2,x3⟩,⟨hx,_⟩,rfl⟩,hS5,hW5⟩
       replace H:=H.src hp hW5 hS5
       clear hS5 hW5
       have hxf:=okI_fits hx
       clear hx
       unfold I3.val
       simp only at hxf ⊢
       go_wp2_with fail
       refine hK.out _ _ (H.cells hk3).1 (fun hSc=>?_)
       clear hK hSc
       try simp only [Act.put,tka,tkb,tkc]
       refine tkr 13 111 (fun K hK=>?_)
       have hnew:=three_new14 V1 (.int .i64 x1) (.int .i64 x2) (.int .i64 x3) 122
       replace H:=H.alloc hp (.cells #[.int .i64 x1,.int .i64 x2,.int .i64 x3] 122)
       go_simp
       refine hK.out _ _ (H.cells hk3).1 (fun hSb=>?_)
       clear hK hSb
       try simp only [Act.put,tka,tkb,tkc]
       have hVlt:w.heap.size+2≤V1.heap.size:=by have:=H.lt;simp at this;omega
       generalize V1.heap.size=Vb at *
       generalize V1.alloc (.cells #[.int .i64 x1,.int .i64 x2,.int .i64 x3] 122)=V2 at *
       refine tkr 14 112 (fun K hK=>?_)
       have hrow:=H.row hk3
       rw [hvk,← HN.out] at hrow
       have hV2:=H.lt
       refine step_app9 rfl _ _ 91 rfl (w.heap.size+2) 122 i0 (.agg #[.int .i64 0,.int .i64 0,.int .i64 0]) 3 24 Tryz.underlying91 hi hz0 hz1 hz2 rfl (by decide) _ _ _ rfl hrow (some ⟨Vb,0,none⟩) 1 1 rfl (fun e=>by cases e) [.int .i64 x1,.int .i64 x2,.int .i64 x3] rfl hnew (three_int14 x1 x2 x3) (by unfold maxLen;omega) (by omega) (by omega) ?_
       intro v3 V3 hown3 hg3 hb3
       obtain ⟨a3,c3,rfl⟩:=slice8 hown3
       have hap:V3.ownsRow (w.heap.size+2) 122 3 (.slice a3 (nk+1) c3) (rows.getD k []++[(x1,x2,x3)]).length (flat (rows.getD k []++[(x1,x2,x3)])):=by
        have e1:(rows.getD k []++[(x1,x2,x3)]).length=nk+1:=by rw [List.length_append,← HN.out];rfl
        have e2:flat (rows.getD k []++[(x1,x2,x3)])=flat (rows.getD k [])++[.int .i64 x1,.int .i64 x2,.int .i64 x3]:=by simp [flat,I3.cells]
        rw [e1,e2]
        exact hown3
       have ho3:∀ y,(vs.getD k undef).ownBlock=some y→w.heap.size+2≤y:=fun y e=>((H.row hk3).lt y e).1
       rw [← hvk] at hg3 hb3
       obtain ⟨h1W,hP4,g4⟩:=H.1.1.beside14 hk3 hg3 hap hb3
       have H4:=H.rest hp hg3 ho3 g4 (fun y e=>by cases e;exact H.lt.2.1) hP4 (fits_set14 H.1.2 (fun x hx=>by rcases List.mem_append.1 hx with h9 | h9;exact fits_row14 H.1.2 k x h9;rw [List.mem_singleton.1 h9];exact hxf))
       have cX3:=(H.2.1.1.kept hg3 (fun e=>by have:=ho3 _ e;omega)).cell 0
       simp only [List.getElem?_cons_zero] at cX3
       have cK3:=h1W.cellAt k (by omega)
       have fK3:=h1W.frozenAt k
       have hvl:∃ u,V3.cell? ⟨g,k,none⟩=some u:=⟨_,cK3.trans (List.getElem?_eq_getElem (by rw [H.1.1.2.1.1,H.1.1.2.2];exact hk3))⟩
       obtain ⟨u3,cK9⟩:=hvl
       clear cK3 hown3 hap hg3 hb3 ho3 hrow hnew h1W hP4 g4
       refine hK.out _ _ cX3 (fun hSa=>?_)
       clear hK
       try simp only [Act.put,tka,tkb,tkc]
       refine tky 15 113 (.pointer (some ⟨g,k,none⟩)) ?_
       try simp only [Act.put,tka,tkb,tkc]
       clear hSa
       refine tkz 16 (fun K hK=>?_)
       have cX4:=H4.2.1.1.cell 0
       simp only [List.getElem?_cons_zero] at cX4
       go_simp
       refine hK.out _ _ cX4 (fun hSs=>?_)
       clear hK hSs
       try simp only [Act.put,tka,tkb,tkc]
       refine wpAnyH_done (by kernel_rfl) ?_ _
       clear cX4 cX3 cK9 fK3 H
       go_wp2_with fail
       go_meet
       case rel=>exact ⟨_,_,_,_,_,by omega,H4⟩
      focus
       go_simp
       refine (instr_any p _ a n cap nk (nk+1) _ H.2.2.1.1 H.2.2.1.2 (by omega) (by omega) (by omega)).mono ?_
       rintro e V1 ⟨⟨⟨x1,x2,x3⟩,⟨hx,_⟩,rfl⟩,hS5,hW5⟩
       replace H:=H.src hp hW5 hS5
       clear hS5 hW5
       have hxf:=okI_fits hx
       clear hx
       unfold I3.val
       simp only at hxf ⊢
       go_wp2_with fail
       refine hK.out _ _ (H.cells hk3).1 (fun hSc=>?_)
       clear hK hSc
       try simp only [Act.put,tka,tkb,tkc]
       refine wpAnyH_ready (rs:=[7,13]) (by kernel_rfl) (by simp) ?_
       refine AllReadyH.cons (o:=⟨some 105,_,_,_,_,_⟩) rfl (fun K hK=>?_) (AllReadyH.cons (o:=⟨some 111,_,_,_,_,_⟩) rfl (fun K hK=>?_) AllReadyH.nil)
       focus
        have cKl:=(H.cells hk3).2
        rw [hvk] at cKl
        go_simp
        refine hK.out _ _ (H.cells hk3).1 (fun hSl=>?_)
        clear hK cKl hSl
        try simp only [Act.put,tka,tkb,tkc]
        refine tkr 13 111 (fun K hK=>?_)
        have hnew:=three_new14 V1 (.int .i64 x1) (.int .i64 x2) (.int .i64 x3) 122
        replace H:=H.alloc hp (.cells #[.int .i64 x1,.int .i64 x2,.int .i64 x3] 122)
        go_simp
        refine hK.out _ _ (H.cells hk3).1 (fun hSb=>?_)
        clear hK hSb
        try simp only [Act.put,tka,tkb,tkc]
        have hVlt:w.heap.size+2≤V1.heap.size:=by have:=H.lt;simp at this;omega
        generalize V1.heap.size=Vb at *
        generalize V1.alloc (.cells #[.int .i64 x1,.int .i64 x2,.int .i64 x3] 122)=V2 at *
        refine tkr 14 112 (fun K hK=>?_)
        have hrow:=H.row hk3
        rw [hvk,← HN.out] at hrow
        have hV2:=H.lt
        refine step_app9 rfl _ _ 91 rfl (w.heap.size+2) 122 i0 (.agg #[.int .i64 0,.int .i64 0,.int .i64 0]) 3 24 Tryz.underlying91 hi hz0 hz1 hz2 rfl (by decide) _ _ _ rfl hrow (some ⟨Vb,0,none⟩) 1 1 rfl (fun e=>by cases e) [.int .i64 x1,.int .i64 x2,.int .i64 x3] rfl hnew (three_int14 x1 x2 x3) (by unfold maxLen;omega) (by omega) (by omega) ?_
        intro v3 V3 hown3 hg3 hb3
        obtain ⟨a3,c3,rfl⟩:=slice8 hown3
        have hap:V3.ownsRow (w.heap.size+2) 122 3 (.slice a3 (nk+1) c3) (rows.getD k []++[(x1,x2,x3)]).length (flat (rows.getD k []++[(x1,x2,x3)])):=by
         have e1:(rows.getD k []++[(x1,x2,x3)]).length=nk+1:=by rw [List.length_append,← HN.out];rfl
         have e2:flat (rows.getD k []++[(x1,x2,x3)])=flat (rows.getD k [])++[.int .i64 x1,.int .i64 x2,.int .i64 x3]:=by simp [flat,I3.cells]
         rw [e1,e2]
         exact hown3
        have ho3:∀ y,(vs.getD k undef).ownBlock=some y→w.heap.size+2≤y:=fun y e=>((H.row hk3).lt y e).1
        rw [← hvk] at hg3 hb3
        obtain ⟨h1W,hP4,g4⟩:=H.1.1.beside14 hk3 hg3 hap hb3
        have H4:=H.rest hp hg3 ho3 g4 (fun y e=>by cases e;exact H.lt.2.1) hP4 (fits_set14 H.1.2 (fun x hx=>by rcases List.mem_append.1 hx with h9 | h9;exact fits_row14 H.1.2 k x h9;rw [List.mem_singleton.1 h9];exact hxf))
        have cX3:=(H.2.1.1.kept hg3 (fun e=>by have:=ho3 _ e;omega)).cell 0
        simp only [List.getElem?_cons_zero] at cX3
        have cK3:=h1W.cellAt k (by omega)
        have fK3:=h1W.frozenAt k
        have hvl:∃ u,V3.cell? ⟨g,k,none⟩=some u:=⟨_,cK3.trans (List.getElem?_eq_getElem (by rw [H.1.1.2.1.1,H.1.1.2.2];exact hk3))⟩
        obtain ⟨u3,cK9⟩:=hvl
        clear cK3 hown3 hap hg3 hb3 ho3 hrow hnew h1W hP4 g4
        refine hK.out _ _ cX3 (fun hSa=>?_)
        clear hK
        try simp only [Act.put,tka,tkb,tkc]
        refine tky 15 113 (.pointer (some ⟨g,k,none⟩)) ?_
        try simp only [Act.put,tka,tkb,tkc]
        clear hSa
        refine tkz 16 (fun K hK=>?_)
        have cX4:=H4.2.1.1.cell 0
        simp only [List.getElem?_cons_zero] at cX4
        go_simp
        refine hK.out _ _ cX4 (fun hSs=>?_)
        clear hK hSs
        try simp only [Act.put,tka,tkb,tkc]
        refine wpAnyH_done (by kernel_rfl) ?_ _
        clear cX4 cX3 cK9 fK3 H
        go_wp2_with fail
        go_meet
        case rel=>exact ⟨_,_,_,_,_,by omega,H4⟩
       focus
        have hnew:=three_new14 V1 (.int .i64 x1) (.int .i64 x2) (.int .i64 x3) 122
        replace H:=H.alloc hp (.cells #[.int .i64 x1,.int .i64 x2,.int .i64 x3] 122)
        go_simp
        refine hK.out _ _ (H.cells hk3).1 (fun hSb=>?_)
        clear hK hSb
        try simp only [Act.put,tka,tkb,tkc]
        have hVlt:w.heap.size+2≤V1.heap.size:=by have:=H.lt;simp at this;omega
        generalize V1.heap.size=Vb at *
        generalize V1.alloc (.cells #[.int .i64 x1,.int .i64 x2,.int .i64 x3] 122)=V2 at *
        refine tkr 7 105 (fun K hK=>?_)
        have cKl:=(H.cells hk3).2
        rw [hvk] at cKl
        go_simp
        refine hK.out _ _ (H.cells hk3).1 (fun hSl=>?_)
        clear hK cKl hSl
        try simp only [Act.put,tka,tkb,tkc]
        refine tkr 14 112 (fun K hK=>?_)
        have hrow:=H.row hk3
        rw [hvk,← HN.out] at hrow
        have hV2:=H.lt
        refine step_app9 rfl _ _ 91 rfl (w.heap.size+2) 122 i0 (.agg #[.int .i64 0,.int .i64 0,.int .i64 0]) 3 24 Tryz.underlying91 hi hz0 hz1 hz2 rfl (by decide) _ _ _ rfl hrow (some ⟨Vb,0,none⟩) 1 1 rfl (fun e=>by cases e) [.int .i64 x1,.int .i64 x2,.int .i64 x3] rfl hnew (three_int14 x1 x2 x3) (by unfold maxLen;omega) (by omega) (by omega) ?_
        intro v3 V3 hown3 hg3 hb3
        obtain ⟨a3,c3,rfl⟩:=slice8 hown3
        have hap:V3.ownsRow (w.heap.size+2) 122 3 (.slice a3 (nk+1) c3) (rows.getD k []++[(x1,x2,x3)]).length (flat (rows.getD k []++[(x1,x2,x3)])):=by
         have e1:(rows.getD k []++[(x1,x2,x3)]).length=nk+1:=by rw [List.length_append,← HN.out];rfl
         have e2:flat (rows.getD k []++[(x1,x2,x3)])=flat (rows.getD k [])++[.int .i64 x1,.int .i64 x2,.int .i64 x3]:=by simp [flat,I3.cells]
         rw [e1,e2]
         exact hown3
        have ho3:∀ y,(vs.getD k undef).ownBlock=some y→w.heap.size+2≤y:=fun y e=>((H.row hk3).lt y e).1
        rw [← hvk] at hg3 hb3
        obtain ⟨h1W,hP4,g4⟩:=H.1.1.beside14 hk3 hg3 hap hb3
        have H4:=H.rest hp hg3 ho3 g4 (fun y e=>by cases e;exact H.lt.2.1) hP4 (fits_set14 H.1.2 (fun x hx=>by rcases List.mem_append.1 hx with h9 | h9;exact fits_row14 H.1.2 k x h9;rw [List.mem_singleton.1 h9];exact hxf))
        have cX3:=(H.2.1.1.kept hg3 (fun e=>by have:=ho3 _ e;omega)).cell 0
        simp only [List.getElem?_cons_zero] at cX3
        have cK3:=h1W.cellAt k (by omega)
        have fK3:=h1W.frozenAt k
        have hvl:∃ u,V3.cell? ⟨g,k,none⟩=some u:=⟨_,cK3.trans (List.getElem?_eq_getElem (by rw [H.1.1.2.1.1,H.1.1.2.2];exact hk3))⟩
        obtain ⟨u3,cK9⟩:=hvl
        clear cK3 hown3 hap hg3 hb3 ho3 hrow hnew h1W hP4 g4
        refine hK.out _ _ cX3 (fun hSa=>?_)
        clear hK
        try simp only [Act.put,tka,tkb,tkc]
        refine tky 15 113 (.pointer (some ⟨g,k,none⟩)) ?_
        try simp only [Act.put,tka,tkb,tkc]
        clear hSa
        refine tkz 16 (fun K hK=>?_)
        have cX4:=H4.2.1.1.cell 0
        simp only [List.getElem?_cons_zero] at cX4
        go_simp
        refine hK.out _ _ cX4 (fun hSs=>?_)
        clear hK hSs
        try simp only [Act.put,tka,tkb,tkc]
        refine wpAnyH_done (by kernel_rfl) ?_ _
        clear cX4 cX3 cK9 fK3 H
        go_wp2_with fail
        go_meet
        case rel=>exact ⟨_,_,_,_,_,by omega,H4⟩
     ·have hz3:¬ (nk:Int)<3:=by omega
      go_wp2_with fail
      go_meet
      case rel=>exact ⟨_,g,c,vs,rows,by omega,H⟩
    ·go_wp2_with fail
     refine (next_any p _ a n cap nk _ H.2.2.1.1 H.2.2.1.2 (by omega) (by omega)).mono ?_
     rintro e w6 ⟨⟨i,hi2,rfl⟩,hS4,hW4⟩
     replace H:=H.src hp hW4 hS4
     clear hS4 hW4
     have hik:i<nk:=by omega
     clear hi2
     have hin:(i:Int)<(nk:Int):=by omega
     have hi0:(0:Int)≤(i:Int):=by omega
     go_wp2_with fail
     replace H:=H.drew hp
     refine wp_region_held_drew (S:=(fun w'=>w'.cell? ⟨w.heap.size,0,none⟩=some (.slice (some ⟨g,0,none⟩) 3 c)∧w'.cell? ⟨g,k,none⟩=some (.slice (some ⟨b,0,none⟩) nk ck))) (by kernel_rfl) ⟨(H.cells hk3).1,by rw [(H.cells hk3).2,hvk]⟩ (fun hS0=>?_)
     refine tky 0 84 (.pointer (some ⟨w.heap.size,0,none⟩)) ?_
     try simp only [Act.put,tka,tkb,tkc]
     refine tky 1 85 (.slice (some ⟨g,0,none⟩) 3 c) ?_
     try simp only [Act.put,tka,tkb,tkc]
     refine tky 2 86 (.int .i64 (k:Int)) ?_
     try simp only [Act.put,tka,tkb,tkc]
     refine tky 3 87 (.pointer (some ⟨g,k,none⟩)) ?_
     try simp only [Act.put,tka,tkb,tkc]
     refine tky 4 88 (.slice (some ⟨b,0,none⟩) nk ck) ?_
     try simp only [Act.put,tka,tkb,tkc]
     refine tky 5 89 (.int .i64 (i:Int)) ?_
     try simp only [Act.put,tka,tkb,tkc]
     refine tky 6 90 (.pointer (some ⟨p,0,none⟩)) ?_
     try simp only [Act.put,tka,tkb,tkc]
     refine tky 7 91 (.int .i64 (i:Int)) ?_
     try simp only [Act.put,tka,tkb,tkc]
     refine tky 8 92 (.int .i64 (nk:Int)) ?_
     try simp only [Act.put,tka,tkb,tkc]
     refine tkr 9 93 (fun K hK=>?_)
     go_simp
     refine (instr_any p _ a n cap i nk _ H.2.2.1.1 H.2.2.1.2 (by omega) (by omega) (by omega)).mono ?_
     rintro e V1 ⟨⟨⟨x1,x2,x3⟩,⟨hx,_⟩,rfl⟩,hS5,hW5⟩
     replace H:=H.src hp hW5 hS5
     clear hS5 hW5
     have hxf:=okI_fits hx
     clear hx
     unfold I3.val
     simp only at hxf ⊢
     go_wp2_with fail
     refine hK.out _ _ ⟨(H.cells hk3).1,by rw [(H.cells hk3).2,hvk]⟩ (fun hSc=>?_)
     clear hK
     try simp only [Act.put,tka,tkb,tkc]
     refine tky 10 94 (.pointer (some ⟨b,i*3,none⟩)) ?_
     try simp only [Act.put,tka,tkb,tkc]
     have hrow:=H.row hk3
     rw [hvk] at hrow
     obtain ⟨hpk,g4⟩:=own_poke14 hrow (show i<(rows.getD k []).length by have:=HN.out;omega) (x1,x2,x3)
     simp only at hpk g4
     have hP4:=H.1.1.rowset hk3 hvk hpk g4
     have H4:=H.grown hp g4 (fun y e=>by cases e;exact (hrow.lt b rfl).1) hP4 (fits_set14 H.1.2 (fits_set15 (fits_row14 H.1.2 k) hxf))
     have hlf:(flat (rows.getD k [])).length=nk*3:=by rw [flat_length,← HN.out]
     have hrow9:=hrow
     rw [← HN.out] at hrow9
     have e0:=hrow9.cellAt (i*3) (show i*3<nk*3 by omega)
     have e1:=hrow9.cellAt (i*3+1) (show i*3+1<nk*3 by omega)
     have e2:=hrow9.cellAt (i*3+2) (show i*3+2<nk*3 by omega)
     rw [List.getElem?_eq_getElem (show i*3<(flat (rows.getD k [])).length by omega)] at e0
     rw [List.getElem?_eq_getElem (show i*3+1<(flat (rows.getD k [])).length by omega)] at e1
     rw [List.getElem?_eq_getElem (show i*3+2<(flat (rows.getD k [])).length by omega)] at e2
     have f0:=hrow9.frozenAt (i*3)
     have f1:=hrow9.frozenAt (i*3+1)
     have f2:=hrow9.frozenAt (i*3+2)
     generalize (flat (rows.getD k []))[i*3]=q0 at e0
     generalize (flat (rows.getD k []))[i*3+1]=q1 at e1
     generalize (flat (rows.getD k []))[i*3+2]=q2 at e2
     have hc4:=H4.cells hk3
     rw [hvk] at hc4
     refine tkz 11 (fun K hK=>?_)
     go_simp
     refine hK.out _ _ hc4 (fun hSs=>?_)
     clear hK hSs hSc
     try simp only [Act.put,tka,tkb,tkc]
     refine wpAnyH_done (by kernel_rfl) ?_ _
     clear hc4 e0 e1 e2 f0 f1 f2 hpk g4 hP4 hrow hrow9 H hS0
     go_wp2_with fail
     go_meet
     case rel=>exact ⟨_,_,_,_,_,by omega,H4⟩
   ·skip
    have hsl:=slice_hI14 b nk ck (nk - 1) (by omega) hnc
    have hwn:IntKind.i64.wrap ((nk:Int) - 1)=((nk - 1:Nat):Int):=(IntWalk.i64_in _ ⟨by omega,by omega⟩).trans (by omega)
    go_wp2_with fail
    replace H:=H.drew hp
    refine wp_region_held_drew (S:=(fun w'=>w'.cell? ⟨w.heap.size,0,none⟩=some (.slice (some ⟨g,0,none⟩) 3 c))) (by kernel_rfl) (H.cells hk3).1 (fun hS0=>?_)
    refine tky 0 26 (.pointer (some ⟨w.heap.size,0,none⟩)) ?_
    try simp only [Act.put,tka,tkb,tkc]
    refine tky 1 27 (.slice (some ⟨g,0,none⟩) 3 c) ?_
    try simp only [Act.put,tka,tkb,tkc]
    refine tky 2 28 (.int .i64 (k:Int)) ?_
    try simp only [Act.put,tka,tkb,tkc]
    refine tky 3 29 (.pointer (some ⟨w.heap.size,0,none⟩)) ?_
    try simp only [Act.put,tka,tkb,tkc]
    refine tky 4 30 (.slice (some ⟨g,0,none⟩) 3 c) ?_
    try simp only [Act.put,tka,tkb,tkc]
    refine tky 5 31 (.int .i64 (k:Int)) ?_
    try simp only [Act.put,tka,tkb,tkc]
    refine tky 6 32 (.pointer (some ⟨g,k,none⟩)) ?_
    try simp only [Act.put,tka,tkb,tkc]
    refine tky 8 34 (.int .i64 (nk:Int)) ?_
    try simp only [Act.put,tka,tkb,tkc]
    refine tkx 9 35 (.int .i64 ((nk - 1:Nat):Int)) ?_ ?_
    ·(intro w' hSw;(try dsimp only at hSw);go_simp;first | done | rfl | (rw [hwn];done) | (simp [hwn];done))
    try simp only [Act.put,tka,tkb,tkc]
    refine tkr 7 33 (fun K hK=>?_)
    have cKl:=(H.cells hk3).2
    rw [hvk] at cKl
    go_simp
    refine hK.out _ _ (H.cells hk3).1 (fun hSl=>?_)
    clear hK
    try simp only [Act.put,tka,tkb,tkc]
    refine tkx 10 36 (.slice (some ⟨b,0,none⟩) (nk - 1) ck) ?_ ?_
    ·(intro w' hSw;(try dsimp only at hSw);first | exact hsl _ | (go_simp;first | done | rfl | exact hsl _) | (simp [hsl];done))
    try simp only [Act.put,tka,tkb,tkc]
    refine tky 11 37 (.pointer (some ⟨g,k,none⟩)) ?_
    try simp only [Act.put,tka,tkb,tkc]
    have hrd:=H.row hk3
    rw [hvk] at hrd
    have hcut:=own_cut14 (b:=b) (nk:=nk) (ck:=ck) (m:=nk - 1) hrd (by have:=HN.out;omega)
    obtain ⟨hP4,g4⟩:=H.1.1.lay14 hk3 hcut (fun t ht hne=>by have:=H.1.1.2.1.2.2 k t (by rw [H.1.1.2.2];exact hk3) (by rw [H.1.1.2.2];exact ht) (fun e=>hne e.symm);rw [hvk] at this;exact this)
    have H3:=H.grown hp g4 (fun y e=>by cases e;exact H.lt.2.1) hP4 (fits_set14 H.1.2 (fun x hx=>fits_row14 H.1.2 k x (List.mem_of_mem_take hx)))
    have hv4:(vs.set k (.slice (some ⟨b,0,none⟩) (nk - 1) ck)).getD k undef=.slice (some ⟨b,0,none⟩) (nk - 1) ck:=by rw [getD_set6,if_pos ⟨rfl,by rw [H.1.1.2.1.1,H.1.1.2.2];exact hk3⟩]
    have hl4:((rows.set k ((rows.getD k []).take (nk - 1))).getD k []).length=nk - 1:=by rw [getD_set6,if_pos ⟨rfl,by rw [H.1.1.2.2];exact hk3⟩,List.length_take];have:=HN.out;omega
    have fK:=H.1.1.1.frozenAt k
    have cX4:=(H3.cells hk3).1
    refine tkz 12 (fun K hK=>?_)
    go_simp
    refine hK.out _ _ cX4 (fun hSs=>?_)
    clear hK hSs hSl
    try simp only [Act.put,tka,tkb,tkc]
    refine wpAnyH_done (by kernel_rfl) ?_ _
    clear cX4 cKl fK hrd hcut hP4 g4 hS0 H hsl
    generalize rows.set k ((rows.getD k []).take (nk - 1))=rows4 at *
    generalize vs.set k (.slice (some ⟨b,0,none⟩) (nk - 1) ck)=vs4 at *
    try clear hvk HN
    go_wp2
    go_loopw [7] (fun s7 wr=>∃ (i:Nat) (rws:List (List I3)),i≤nk - 1∧s7=.int .i64 i∧VSt p a n cap w wr _ g c vs4 rws∧(rws.getD k []).length=nk - 1) (fun s7 _=>nk - 1 - (intOf s7).toNat)
    case atStart=>exact ⟨0,rows4,by omega,rfl,H3,hl4⟩
    case round =>
     clear H3 hl4
     obtain ⟨i,rws,hi2,rfl,H,hlr⟩:=hrel
     by_cases hlt:i<nk - 1
     ·have hlt2:(i:Int)<((nk - 1:Nat):Int):=by omega
      have hi0:(0:Int)≤(i:Int):=by omega
      have hrow:=H.row hk3
      rw [hv4,hlr] at hrow
      obtain ⟨cX,cK⟩:=H.cells hk3
      rw [hv4] at cK
      have cI:=hrow.cellAt (i*3) (by omega)
      rw [flat_get7 _ _ (by omega)] at cI
      have cB:=hrow.cellAt (i*3+2) (by omega)
      rw [flat_getB14 _ _ (by omega)] at cB
      by_cases h7:((rws.getD k []).getD i (0,0,0)).1=7
      ·rw [h7] at cI
       have hz:=fits_elt14 (fits_row14 H.1.2 k) (show i<(rws.getD k []).length by omega)
       go_wp2_with fail
       replace H:=H.drew hp
       clear cI
       refine wp_region_held_drew (S:=(fun w'=>w'.cell? ⟨w.heap.size,0,none⟩=some (.slice (some ⟨g,0,none⟩) 3 c)∧w'.cell? ⟨g,k,none⟩=some (.slice (some ⟨b,0,none⟩) (nk - 1) ck))) (by kernel_rfl) ⟨(H.cells hk3).1,by rw [(H.cells hk3).2,hv4]⟩ (fun hS0=>?_)
       refine tky 0 54 (.pointer (some ⟨w.heap.size,0,none⟩)) ?_
       try simp only [Act.put,tka,tkb,tkc]
       refine tky 1 55 (.slice (some ⟨g,0,none⟩) 3 c) ?_
       try simp only [Act.put,tka,tkb,tkc]
       refine tky 2 56 (.int .i64 (k:Int)) ?_
       try simp only [Act.put,tka,tkb,tkc]
       refine tky 3 57 (.pointer (some ⟨g,k,none⟩)) ?_
       try simp only [Act.put,tka,tkb,tkc]
       refine tky 4 58 (.slice (some ⟨b,0,none⟩) (nk - 1) ck) ?_
       try simp only [Act.put,tka,tkb,tkc]
       refine tky 5 59 (.int .i64 (i:Int)) ?_
       try simp only [Act.put,tka,tkb,tkc]
       refine tky 6 60 (.pointer (some ⟨w.heap.size,0,none⟩)) ?_
       try simp only [Act.put,tka,tkb,tkc]
       refine tky 7 61 (.slice (some ⟨g,0,none⟩) 3 c) ?_
       try simp only [Act.put,tka,tkb,tkc]
       refine tky 8 62 (.int .i64 (k:Int)) ?_
       try simp only [Act.put,tka,tkb,tkc]
       refine tky 9 63 (.pointer (some ⟨g,k,none⟩)) ?_
       try simp only [Act.put,tka,tkb,tkc]
       refine tky 10 64 (.slice (some ⟨b,0,none⟩) (nk - 1) ck) ?_
       try simp only [Act.put,tka,tkb,tkc]
       refine tky 11 65 (.int .i64 (i:Int)) ?_
       try simp only [Act.put,tka,tkb,tkc]
       refine tky 12 66 (.pointer (some ⟨b,i*3,none⟩)) ?_
       try simp only [Act.put,tka,tkb,tkc]
       refine tky 13 67 (.pointer (some ⟨b,i*3+2,none⟩)) ?_
       try simp only [Act.put,tka,tkb,tkc]
       refine tky 15 69 (.int .i64 (nk:Int)) ?_
       try simp only [Act.put,tka,tkb,tkc]
       refine tkx 16 70 (.int .i64 ((nk - 1:Nat):Int)) ?_ ?_
       ·(intro w' hSw;(try dsimp only at hSw);go_simp;first | done | rfl | (rw [hwn];done) | (simp [hwn];done))
       try simp only [Act.put,tka,tkb,tkc]
       refine tkr 14 68 (fun K hK=>?_)
       have hrow2:=H.row hk3
       rw [hv4,hlr] at hrow2
       have cB2:=hrow2.cellAt (i*3+2) (by omega)
       rw [flat_getB14 _ _ (by omega)] at cB2
       go_simp
       refine hK.out _ _ hS0 (fun hSl=>?_)
       clear hK
       try simp only [Act.put,tka,tkb,tkc]
       refine tkx 17 71 (.int .i64 (min ((rws.getD k []).getD i (0,0,0)).2.2 ((nk - 1:Nat):Int))) ?_ ?_
       ·(intro w' hSw;(try dsimp only at hSw);go_simp;first | done | rfl | (simp [Int.min_def];done) | (simp only [Int.min_def];split<;>rfl))
       try simp only [Act.put,tka,tkb,tkc]
       refine tky 18 72 (.pointer (some ⟨b,i*3,none⟩)) ?_
       try simp only [Act.put,tka,tkb,tkc]
       refine tky 19 73 (.pointer (some ⟨b,i*3+2,none⟩)) ?_
       try simp only [Act.put,tka,tkb,tkc]
       generalize hz9:min ((rws.getD k []).getD i (0,0,0)).2.2 ((nk - 1:Nat):Int)=z at *
       have hzf:(Lit.int .i64 z).wf=true:=by rw [← hz9];exact fits_min14 hz.2.2 (wf_small14 ⟨by omega,by omega⟩)
       have hlr2:i<(rws.getD k []).length:=by omega
       have hP4:=H.1.1.turn hk3 hv4 hlr2 z
       have g4:=(hrow2.stored (i*3+2) (.int .i64 z)).2
       have H3:=H.grown hp g4 (fun y e=>by cases e;exact (hrow2.lt b rfl).1) hP4 (fits_set14 H.1.2 (fits_turn14 (fits_row14 H.1.2 k) hlr2 hzf))
       have hl5:((rws.set k ((rws.getD k []).set i (((rws.getD k []).getD i (0,0,0)).1,((rws.getD k []).getD i (0,0,0)).2.1,z))).getD k []).length=nk - 1:=by rw [getD_set6,if_pos ⟨rfl,by rw [H.1.1.2.2];exact hk3⟩,List.length_set];exact hlr
       have hc4:=H3.cells hk3
       rw [hv4] at hc4
       have fB:=hrow2.frozenAt (i*3+2)
       refine tkz 20 (fun K hK=>?_)
       go_simp
       refine hK.out _ _ hc4 (fun hSs=>?_)
       clear hK hSs hSl
       try simp only [Act.put,tka,tkb,tkc]
       refine wpAnyH_done (by kernel_rfl) ?_ _
       clear hc4 fB cB2 hrow2 hP4 g4 hS0 cB cX cK hrow H
       go_wp2
       go_roundw
       case rel=>exact ⟨i+1,_,by omega,by go_num,H3,hl5⟩
       case measure=>simp [intOf];omega
      ·have h7b:(((rws.getD k []).getD i (0,0,0)).1 == 7)=false:=by simpa using h7
       generalize ((rws.getD k []).getD i (0,0,0)).1=z7 at *
       clear hrow cB
       go_wp2
       go_roundw
       case rel=>exact ⟨i+1,rws,by omega,by go_num,H,hlr⟩
       case measure=>simp [intOf];omega
     ·obtain rfl:i=nk - 1:=by omega
      have hnl:¬ (((nk - 1:Nat):Int)<((nk - 1:Nat):Int)):=by omega
      go_wp2_with fail
      go_meet
      case rel=>exact ⟨_,g,c,vs4,rws,by omega,H⟩
  ·have hz0n:¬ (0:Int)<(nk:Int):=by omega
   have hz3:(nk:Int)<3:=by omega
   obtain ⟨cX,cK⟩:=H.cells hk3
   rw [hvk] at cK
   have hwn:IntKind.i64.wrap ((nk:Int)+1)=((nk+1:Nat):Int):=(IntWalk.i64_in _ ⟨by omega,by omega⟩).trans (by omega)
   go_wp2_with fail
   replace H:=H.drew hp
   clear cX cK
   refine wp_region_held_drew (S:=(fun w'=>w'.cell? ⟨w.heap.size,0,none⟩=some (.slice (some ⟨g,0,none⟩) 3 c))) (by kernel_rfl) (H.cells hk3).1 (fun hS0=>?_)
   refine tky 0 98 (.pointer (some ⟨w.heap.size,0,none⟩)) ?_
   try simp only [Act.put,tka,tkb,tkc]
   refine tky 1 99 (.slice (some ⟨g,0,none⟩) 3 c) ?_
   try simp only [Act.put,tka,tkb,tkc]
   refine tky 2 100 (.int .i64 (k:Int)) ?_
   try simp only [Act.put,tka,tkb,tkc]
   refine tky 3 101 (.pointer (some ⟨w.heap.size,0,none⟩)) ?_
   try simp only [Act.put,tka,tkb,tkc]
   refine tky 4 102 (.slice (some ⟨g,0,none⟩) 3 c) ?_
   try simp only [Act.put,tka,tkb,tkc]
   refine tky 5 103 (.int .i64 (k:Int)) ?_
   try simp only [Act.put,tka,tkb,tkc]
   refine tky 6 104 (.pointer (some ⟨g,k,none⟩)) ?_
   try simp only [Act.put,tka,tkb,tkc]
   refine tky 8 106 (.pointer (some ⟨p,0,none⟩)) ?_
   try simp only [Act.put,tka,tkb,tkc]
   refine tky 9 107 (.int .i64 (nk:Int)) ?_
   try simp only [Act.put,tka,tkb,tkc]
   refine tky 10 108 (.int .i64 (nk:Int)) ?_
   try simp only [Act.put,tka,tkb,tkc]
   refine tkx 11 109 (.int .i64 ((nk+1:Nat):Int)) ?_ ?_
   ·(intro w' hSw;(try dsimp only at hSw);go_simp;first | done | rfl | (rw [hwn];done) | (simp [hwn];done))
   try simp only [Act.put,tka,tkb,tkc]
   clear hS0
   refine wpAnyH_ready (rs:=[7,12]) (by kernel_rfl) (by simp) ?_
   refine AllReadyH.cons (o:=⟨some 105,_,_,_,_,_⟩) rfl (fun K hK=>?_) (AllReadyH.cons (o:=⟨some 110,_,_,_,_,_⟩) rfl (fun K hK=>?_) AllReadyH.nil)
   focus
    have cKl:=(H.cells hk3).2
    rw [hvk] at cKl
    go_simp
    refine hK.out _ _ (H.cells hk3).1 (fun hSl=>?_)
    clear hK cKl hSl
    try simp only [Act.put,tka,tkb,tkc]
    refine tkr 12 110 (fun K hK=>?_)
    go_simp
    refine (instr_any p _ a n cap nk (nk+1) _ H.2.2.1.1 H.2.2.1.2 (by omega) (by omega) (by omega)).mono ?_
    rintro e V1 ⟨⟨⟨x1,x2,x3⟩,⟨hx,_⟩,rfl⟩,hS5,hW5⟩
    replace H:=H.src hp hW5 hS5
    clear hS5 hW5
    have hxf:=okI_fits hx
    clear hx
    unfold I3.val
    simp only at hxf ⊢
    go_wp2_with fail
    refine hK.out _ _ (H.cells hk3).1 (fun hSc=>?_)
    clear hK hSc
    try simp only [Act.put,tka,tkb,tkc]
    refine tkr 13 111 (fun K hK=>?_)
    have hnew:=three_new14 V1 (.int .i64 x1) (.int .i64 x2) (.int .i64 x3) 122
    replace H:=H.alloc hp (.cells #[.int .i64 x1,.int .i64 x2,.int .i64 x3] 122)
    go_simp
    refine hK.out _ _ (H.cells hk3).1 (fun hSb=>?_)
    clear hK hSb
    try simp only [Act.put,tka,tkb,tkc]
    have hVlt:w.heap.size+2≤V1.heap.size:=by have:=H.lt;simp at this;omega
    generalize V1.heap.size=Vb at *
    generalize V1.alloc (.cells #[.int .i64 x1,.int .i64 x2,.int .i64 x3] 122)=V2 at *
    refine tkr 14 112 (fun K hK=>?_)
    have hrow:=H.row hk3
    rw [hvk,← HN.out] at hrow
    have hV2:=H.lt
    refine step_app9 rfl _ _ 91 rfl (w.heap.size+2) 122 i0 (.agg #[.int .i64 0,.int .i64 0,.int .i64 0]) 3 24 Tryz.underlying91 hi hz0 hz1 hz2 rfl (by decide) _ _ _ rfl hrow (some ⟨Vb,0,none⟩) 1 1 rfl (fun e=>by cases e) [.int .i64 x1,.int .i64 x2,.int .i64 x3] rfl hnew (three_int14 x1 x2 x3) (by unfold maxLen;omega) (by omega) (by omega) ?_
    intro v3 V3 hown3 hg3 hb3
    obtain ⟨a3,c3,rfl⟩:=slice8 hown3
    have hap:V3.ownsRow (w.heap.size+2) 122 3 (.slice a3 (nk+1) c3) (rows.getD k []++[(x1,x2,x3)]).length (flat (rows.getD k []++[(x1,x2,x3)])):=by
     have e1:(rows.getD k []++[(x1,x2,x3)]).length=nk+1:=by rw [List.length_append,← HN.out];rfl
     have e2:flat (rows.getD k []++[(x1,x2,x3)])=flat (rows.getD k [])++[.int .i64 x1,.int .i64 x2,.int .i64 x3]:=by simp [flat,I3.cells]
     rw [e1,e2]
     exact hown3
    have ho3:∀ y,(vs.getD k undef).ownBlock=some y→w.heap.size+2≤y:=fun y e=>((H.row hk3).lt y e).1
    rw [← hvk] at hg3 hb3
    obtain ⟨h1W,hP4,g4⟩:=H.1.1.beside14 hk3 hg3 hap hb3
    have H4:=H.rest hp hg3 ho3 g4 (fun y e=>by cases e;exact H.lt.2.1) hP4 (fits_set14 H.1.2 (fun x hx=>by rcases List.mem_append.1 hx with h9 | h9;exact fits_row14 H.1.2 k x h9;rw [List.mem_singleton.1 h9];exact hxf))
    have cX3:=(H.2.1.1.kept hg3 (fun e=>by have:=ho3 _ e;omega)).cell 0
    simp only [List.getElem?_cons_zero] at cX3
    have cK3:=h1W.cellAt k (by omega)
    have fK3:=h1W.frozenAt k
    have hvl:∃ u,V3.cell? ⟨g,k,none⟩=some u:=⟨_,cK3.trans (List.getElem?_eq_getElem (by rw [H.1.1.2.1.1,H.1.1.2.2];exact hk3))⟩
    obtain ⟨u3,cK9⟩:=hvl
    clear cK3 hown3 hap hg3 hb3 ho3 hrow hnew h1W hP4 g4
    refine hK.out _ _ cX3 (fun hSa=>?_)
    clear hK
    try simp only [Act.put,tka,tkb,tkc]
    refine tky 15 113 (.pointer (some ⟨g,k,none⟩)) ?_
    try simp only [Act.put,tka,tkb,tkc]
    clear hSa
    refine tkz 16 (fun K hK=>?_)
    have cX4:=H4.2.1.1.cell 0
    simp only [List.getElem?_cons_zero] at cX4
    go_simp
    refine hK.out _ _ cX4 (fun hSs=>?_)
    clear hK hSs
    try simp only [Act.put,tka,tkb,tkc]
    refine wpAnyH_done (by kernel_rfl) ?_ _
    clear cX4 cX3 cK9 fK3 H
    go_wp2_with fail
    go_meet
    case rel=>exact ⟨_,_,_,_,_,by omega,H4⟩
   focus
    go_simp
    refine (instr_any p _ a n cap nk (nk+1) _ H.2.2.1.1 H.2.2.1.2 (by omega) (by omega) (by omega)).mono ?_
    rintro e V1 ⟨⟨⟨x1,x2,x3⟩,⟨hx,_⟩,rfl⟩,hS5,hW5⟩
    replace H:=H.src hp hW5 hS5
    clear hS5 hW5
    have hxf:=okI_fits hx
    clear hx
    unfold I3.val
    simp only at hxf ⊢
    go_wp2_with fail
    refine hK.out _ _ (H.cells hk3).1 (fun hSc=>?_)
    clear hK hSc
    try simp only [Act.put,tka,tkb,tkc]
    refine wpAnyH_ready (rs:=[7,13]) (by kernel_rfl) (by simp) ?_
    refine AllReadyH.cons (o:=⟨some 105,_,_,_,_,_⟩) rfl (fun K hK=>?_) (AllReadyH.cons (o:=⟨some 111,_,_,_,_,_⟩) rfl (fun K hK=>?_) AllReadyH.nil)
    focus
     have cKl:=(H.cells hk3).2
     rw [hvk] at cKl
     go_simp
     refine hK.out _ _ (H.cells hk3).1 (fun hSl=>?_)
     clear hK cKl hSl
     try simp only [Act.put,tka,tkb,tkc]
     refine tkr 13 111 (fun K hK=>?_)
     have hnew:=three_new14 V1 (.int .i64 x1) (.int .i64 x2) (.int .i64 x3) 122
     replace H:=H.alloc hp (.cells #[.int .i64 x1,.int .i64 x2,.int .i64 x3] 122)
     go_simp
     refine hK.out _ _ (H.cells hk3).1 (fun hSb=>?_)
     clear hK hSb
     try simp only [Act.put,tka,tkb,tkc]
     have hVlt:w.heap.size+2≤V1.heap.size:=by have:=H.lt;simp at this;omega
     generalize V1.heap.size=Vb at *
     generalize V1.alloc (.cells #[.int .i64 x1,.int .i64 x2,.int .i64 x3] 122)=V2 at *
     refine tkr 14 112 (fun K hK=>?_)
     have hrow:=H.row hk3
     rw [hvk,← HN.out] at hrow
     have hV2:=H.lt
     refine step_app9 rfl _ _ 91 rfl (w.heap.size+2) 122 i0 (.agg #[.int .i64 0,.int .i64 0,.int .i64 0]) 3 24 Tryz.underlying91 hi hz0 hz1 hz2 rfl (by decide) _ _ _ rfl hrow (some ⟨Vb,0,none⟩) 1 1 rfl (fun e=>by cases e) [.int .i64 x1,.int .i64 x2,.int .i64 x3] rfl hnew (three_int14 x1 x2 x3) (by unfold maxLen;omega) (by omega) (by omega) ?_
     intro v3 V3 hown3 hg3 hb3
     obtain ⟨a3,c3,rfl⟩:=slice8 hown3
     have hap:V3.ownsRow (w.heap.size+2) 122 3 (.slice a3 (nk+1) c3) (rows.getD k []++[(x1,x2,x3)]).length (flat (rows.getD k []++[(x1,x2,x3)])):=by
      have e1:(rows.getD k []++[(x1,x2,x3)]).length=nk+1:=by rw [List.length_append,← HN.out];rfl
      have e2:flat (rows.getD k []++[(x1,x2,x3)])=flat (rows.getD k [])++[.int .i64 x1,.int .i64 x2,.int .i64 x3]:=by simp [flat,I3.cells]
      rw [e1,e2]
      exact hown3
     have ho3:∀ y,(vs.getD k undef).ownBlock=some y→w.heap.size+2≤y:=fun y e=>((H.row hk3).lt y e).1
     rw [← hvk] at hg3 hb3
     obtain ⟨h1W,hP4,g4⟩:=H.1.1.beside14 hk3 hg3 hap hb3
     have H4:=H.rest hp hg3 ho3 g4 (fun y e=>by cases e;exact H.lt.2.1) hP4 (fits_set14 H.1.2 (fun x hx=>by rcases List.mem_append.1 hx with h9 | h9;exact fits_row14 H.1.2 k x h9;rw [List.mem_singleton.1 h9];exact hxf))
     have cX3:=(H.2.1.1.kept hg3 (fun e=>by have:=ho3 _ e;omega)).cell 0
     simp only [List.getElem?_cons_zero] at cX3
     have cK3:=h1W.cellAt k (by omega)
     have fK3:=h1W.frozenAt k
     have hvl:∃ u,V3.cell? ⟨g,k,none⟩=some u:=⟨_,cK3.trans (List.getElem?_eq_getElem (by rw [H.1.1.2.1.1,H.1.1.2.2];exact hk3))⟩
     obtain ⟨u3,cK9⟩:=hvl
     clear cK3 hown3 hap hg3 hb3 ho3 hrow hnew h1W hP4 g4
     refine hK.out _ _ cX3 (fun hSa=>?_)
     clear hK
     try simp only [Act.put,tka,tkb,tkc]
     refine tky 15 113 (.pointer (some ⟨g,k,none⟩)) ?_
     try simp only [Act.put,tka,tkb,tkc]
     clear hSa
     refine tkz 16 (fun K hK=>?_)
     have cX4:=H4.2.1.1.cell 0
     simp only [List.getElem?_cons_zero] at cX4
     go_simp
     refine hK.out _ _ cX4 (fun hSs=>?_)
     clear hK hSs
     try simp only [Act.put,tka,tkb,tkc]
     refine wpAnyH_done (by kernel_rfl) ?_ _
     clear cX4 cX3 cK9 fK3 H
     go_wp2_with fail
     go_meet
     case rel=>exact ⟨_,_,_,_,_,by omega,H4⟩
    focus
     have hnew:=three_new14 V1 (.int .i64 x1) (.int .i64 x2) (.int .i64 x3) 122
     replace H:=H.alloc hp (.cells #[.int .i64 x1,.int .i64 x2,.int .i64 x3] 122)
     go_simp
     refine hK.out _ _ (H.cells hk3).1 (fun hSb=>?_)
     clear hK hSb
     try simp only [Act.put,tka,tkb,tkc]
     have hVlt:w.heap.size+2≤V1.heap.size:=by have:=H.lt;simp at this;omega
     generalize V1.heap.size=Vb at *
     generalize V1.alloc (.cells #[.int .i64 x1,.int .i64 x2,.int .i64 x3] 122)=V2 at *
     refine tkr 7 105 (fun K hK=>?_)
     have cKl:=(H.cells hk3).2
     rw [hvk] at cKl
     go_simp
     refine hK.out _ _ (H.cells hk3).1 (fun hSl=>?_)
     clear hK cKl hSl
     try simp only [Act.put,tka,tkb,tkc]
     refine tkr 14 112 (fun K hK=>?_)
     have hrow:=H.row hk3
     rw [hvk,← HN.out] at hrow
     have hV2:=H.lt
     refine step_app9 rfl _ _ 91 rfl (w.heap.size+2) 122 i0 (.agg #[.int .i64 0,.int .i64 0,.int .i64 0]) 3 24 Tryz.underlying91 hi hz0 hz1 hz2 rfl (by decide) _ _ _ rfl hrow (some ⟨Vb,0,none⟩) 1 1 rfl (fun e=>by cases e) [.int .i64 x1,.int .i64 x2,.int .i64 x3] rfl hnew (three_int14 x1 x2 x3) (by unfold maxLen;omega) (by omega) (by omega) ?_
     intro v3 V3 hown3 hg3 hb3
     obtain ⟨a3,c3,rfl⟩:=slice8 hown3
     have hap:V3.ownsRow (w.heap.size+2) 122 3 (.slice a3 (nk+1) c3) (rows.getD k []++[(x1,x2,x3)]).length (flat (rows.getD k []++[(x1,x2,x3)])):=by
      have e1:(rows.getD k []++[(x1,x2,x3)]).length=nk+1:=by rw [List.length_append,← HN.out];rfl
      have e2:flat (rows.getD k []++[(x1,x2,x3)])=flat (rows.getD k [])++[.int .i64 x1,.int .i64 x2,.int .i64 x3]:=by simp [flat,I3.cells]
      rw [e1,e2]
      exact hown3
     have ho3:∀ y,(vs.getD k undef).ownBlock=some y→w.heap.size+2≤y:=fun y e=>((H.row hk3).lt y e).1
     rw [← hvk] at hg3 hb3
     obtain ⟨h1W,hP4,g4⟩:=H.1.1.beside14 hk3 hg3 hap hb3
     have H4:=H.rest hp hg3 ho3 g4 (fun y e=>by cases e;exact H.lt.2.1) hP4 (fits_set14 H.1.2 (fun x hx=>by rcases List.mem_append.1 hx with h9 | h9;exact fits_row14 H.1.2 k x h9;rw [List.mem_singleton.1 h9];exact hxf))
     have cX3:=(H.2.1.1.kept hg3 (fun e=>by have:=ho3 _ e;omega)).cell 0
     simp only [List.getElem?_cons_zero] at cX3
     have cK3:=h1W.cellAt k (by omega)
     have fK3:=h1W.frozenAt k
     have hvl:∃ u,V3.cell? ⟨g,k,none⟩=some u:=⟨_,cK3.trans (List.getElem?_eq_getElem (by rw [H.1.1.2.1.1,H.1.1.2.2];exact hk3))⟩
     obtain ⟨u3,cK9⟩:=hvl
     clear cK3 hown3 hap hg3 hb3 ho3 hrow hnew h1W hP4 g4
     refine hK.out _ _ cX3 (fun hSa=>?_)
     clear hK
     try simp only [Act.put,tka,tkb,tkc]
     refine tky 15 113 (.pointer (some ⟨g,k,none⟩)) ?_
     try simp only [Act.put,tka,tkb,tkc]
     clear hSa
     refine tkz 16 (fun K hK=>?_)
     have cX4:=H4.2.1.1.cell 0
     simp only [List.getElem?_cons_zero] at cX4
     go_simp
     refine hK.out _ _ cX4 (fun hSs=>?_)
     clear hK hSs
     try simp only [Act.put,tka,tkb,tkc]
     refine wpAnyH_done (by kernel_rfl) ?_ _
     clear cX4 cX3 cK9 fK3 H
     go_wp2_with fail
     go_meet
     case rel=>exact ⟨_,_,_,_,_,by omega,H4⟩
 case rest =>
  clear H cX cK hvk HN hrl
  obtain ⟨T,g,c,vs,rows,hT,H⟩:=hcut
  have hCd:=H.1.1.own.codes H.1.2
  have kO:=specProgramOK_is (some ⟨g,0,none⟩) 3 c rows wc hCd
  have cX:=(H.2.1.1.cell 0)
  simp only [List.getElem?_cons_zero] at cX
  clear hCd
  go_wp2_with fail
  refine kO.mono ?_
  clear kO cX
  rintro e w7 ⟨rfl,b7⟩
  replace H:=H.below hp b7
  clear b7
  have pR:=H.2.1.2
  have r0:=pR.cell 0
  have fr0:=pR.frozen 0
  have cX:=(H.2.1.1.cell 0)
  simp only [List.getElem?_cons_zero] at cX r0
  cases hok:progOk rows
  ·have hpw:=H.lt
   have kP:=program_go p T a n cap _ H.2.2.1.1 H.2.2.1.2 (by omega)
   have hW:=H.2.2.2
   clear H
   go_wp2_with fail
   refine kP.mono ?_
   rintro e w8 ⟨⟨v,rows8,hok8,rfl,oP⟩,_,hW8⟩
   replace pR:=pR.kept hW8 (fun e=>by cases e;omega)
   have hW9:=hW.trans hW8
   clear kP r0 fr0 cX hW hW8
   have r0:=pR.cell 0
   have fr0:=pR.frozen 0
   simp only [List.getElem?_cons_zero] at r0
   obtain ⟨av,cv,rfl⟩:=oP.slice
   have hp83:=(progOk_parts hok8).1
   rw [hp83] at oP ⊢
   have pZ:=pR.set 0 (.slice av 3 cv)
   simp only [List.set_cons_zero] at pZ
   have z0:=pZ.cell 0
   simp only [List.getElem?_cons_zero] at z0
   have bz:=(hW9.below (Nat.le_of_lt hp)).setCell (p:=⟨w.heap.size+1,0,none⟩) (show p≤w.heap.size+1 by omega) (.slice av 3 cv)
   have oZ:=(OwnProg.low oP (p:=⟨w.heap.size+1,0,none⟩) (show w.heap.size+1<w7.heap.size by omega) (.slice av 3 cv)).lower (B':=w.heap.size) (by omega)
   clear pZ pR hW9 oP
   go_wp2
   refine bodyPost_ret (by simp [results,Tryz.results25,go_sem,z0];try rfl) rfl ?_
   exact ⟨⟨_,rows8,hok8,rfl,oZ⟩,bz⟩
  ·have pZ:=pR.set 0 (.slice (some ⟨g,0,none⟩) 3 c)
   simp only [List.set_cons_zero] at pZ
   have z0:=pZ.cell 0
   simp only [List.getElem?_cons_zero] at z0
   have bz:=(H.2.2.2.below (Nat.le_of_lt hp)).setCell (p:=⟨w.heap.size+1,0,none⟩) (show p≤w.heap.size+1 by omega) (.slice (some ⟨g,0,none⟩) 3 c)
   have oZ:=(OwnProg.low H.1.1.own (p:=⟨w.heap.size+1,0,none⟩) (show w.heap.size+1<w.heap.size+2 by omega) (.slice (some ⟨g,0,none⟩) 3 c)).lower (B':=w.heap.size) (by omega)
   clear pZ pR H
   go_wp2
   refine bodyPost_ret (by simp [results,Tryz.results25,go_sem,z0];try rfl) rfl ?_
   exact ⟨⟨_,rows,hok,rfl,oZ⟩,bz⟩
theorem blk_low14 {w w':World} {g t p:Nat} {cs:List Value} (h:Blk w g t cs) (hb:Below p w w') (hg:g<p):Blk w' g t cs:=(hb.block g hg).trans h
theorem versionDrawn_any (a:Option Addr) (n cap:Nat) (zs:List Int) (B0:Nat) (v:Value) (rows:List (List I3)) (w:World) (hI:IsRow .u8 w a n cap zs) (hn:n≤1048576) (hP:OwnProg w B0 v rows) (hs:ProgS rows) :
  Calls Tryz.prog 7 #[.slice a n cap,.agg #[v]] w fun e w'=>(∃ (v':Value) (rows':List (List I3)),progOk rows'=true∧e=.returned (.agg #[v'])∧OwnProg w' w.heap.size v' rows')∧Below w.heap.size w w':=by
 obtain ⟨g,c,vs,rfl,hA⟩:=ProgAt.of hP ((progOk_parts hs.1).1)
 have pX:=(Blk.new w 25 [.slice (some ⟨g,0,none⟩) 3 c]).below (bel_new _ (.cells #[.slice none 0 0] 25))
 have pR:=Blk.new (w.alloc (.cells #[.slice (some ⟨g,0,none⟩) 3 c] 25)) 25 [.slice none 0 0]
 have bw:=belD (bel_new w (.cells #[.slice (some ⟨g,0,none⟩) 3 c] 25)) (bel_new _ (.cells #[.slice none 0 0] 25))
 have hs1:(w.alloc (.cells #[.slice (some ⟨g,0,none⟩) 3 c] 25)).heap.size=w.heap.size+1:=by simp
 rw [hs1] at pR
 replace hA:=hA.below bw
 replace hI:=hI.below bw
 simp only [List.toArray] at pX pR bw hA hI
 have pR0:=hs1
 clear hs1 hP
 go_enter Tryz.func7,Tryz.ntmps7
 go_wp2_with fail
 generalize (w.alloc (.cells #[.slice (some ⟨g,0,none⟩) 3 c] 25)).alloc (.cells #[.slice none 0 0] 25)=W at *
 refine wp_region_held_drew (S:=(fun w'=>w'.cell? ⟨w.heap.size,0,none⟩=some (.slice (some ⟨g,0,none⟩) 3 c))) (by kernel_rfl) (by simpa using pX.cell 0) (fun hS0=>?_)
 refine tky 0 5 (.slice a n cap) ?_
 try simp only [Act.put,tka,tkb,tkc]
 refine tky 2 7 (.agg #[.slice (some ⟨g,0,none⟩) 3 c]) ?_
 try simp only [Act.put,tka,tkb,tkc]
 have hdr:Below W.heap.size W W.drew:=by go_grown
 replace hA:=hA.below hdr
 replace pX:=pX.below hdr
 replace pR:=pR.below hdr
 replace bw:=belD bw hdr
 replace hI:=hI.below hdr
 clear hdr
 generalize W.drew=V at *
 have hVl:=pR.lt
 refine tkr 1 6 (fun K hK=>?_)
 have hC:=code_of hI hn
 go_simp
 refine (l00Source_any a n cap V hn).mono ?_
 rintro e V1 ⟨rfl,hS1,hb1⟩
 have hC1:=hC.below hb1
 replace hA:=hA.below hb1
 replace pX:=pX.below hb1
 replace pR:=pR.below hb1
 replace bw:=belD bw hb1
 go_wp2_with fail
 refine hK.out _ _ (by simpa using pX.cell 0) (fun hSc=>?_)
 clear hK hS0 hb1 hC hI
 try simp only [Act.put,tka,tkb,tkc]
 refine tkr 3 8 (fun K hK=>?_)
 have hVp:=hS1.lt
 have hRlt:=pR.lt
 go_simp
 refine (version_go _ a n cap V1 hS1 hC1 _ g c vs rows hA hs).mono ?_
 rintro e V2 ⟨⟨v2,rows2,hok2,rfl,oP⟩,hb2⟩
 have hpp:=pR0
 have bz1:=bw.trans (hb2.mono (by omega))
 replace pX:=blk_low14 pX hb2 (by omega)
 replace pR:=blk_low14 pR hb2 (by omega)
 go_wp2_with fail
 refine hK.out _ _ (by simpa using pX.cell 0) (fun hSd=>?_)
 clear hK hSc
 try simp only [Act.put,tka,tkb,tkc]
 obtain ⟨av,cv,rfl⟩:=oP.slice
 have hp83:=(progOk_parts hok2).1
 rw [hp83] at oP ⊢
 have r0:=pR.cell 0
 have fr0:=pR.frozen 0
 have pZ:=pR.set 0 (.slice av 3 cv)
 simp only [List.set_cons_zero,List.getElem?_cons_zero] at pZ r0
 have z0:=pZ.cell 0
 simp only [List.getElem?_cons_zero] at z0
 have bz:=bz1.setCell (p:=⟨w.heap.size+1,0,none⟩) (show w.heap.size≤w.heap.size+1 by omega) (.slice av 3 cv)
 have oZ:=(OwnProg.low oP (p:=⟨w.heap.size+1,0,none⟩) (show w.heap.size+1<V1.heap.size by omega) (.slice av 3 cv)).lower (B':=w.heap.size) (by omega)
 have hX9:(V2.setCell ⟨w.heap.size+1,0,none⟩ (.slice av 3 cv)).cell? ⟨w.heap.size,0,none⟩=some (.slice (some ⟨g,0,none⟩) 3 c):=by have:=(pX.kept (grownBy_set V2 (w.heap.size+1) 0 (.slice av 3 cv)) (fun e=>by injection e with e;omega)).cell 0;simpa using this
 refine tkz 4 (fun K hK=>?_)
 go_simp
 refine hK.out _ _ hX9 (fun hSs=>?_)
 clear hK hSs hSd
 try simp only [Act.put,tka,tkb,tkc]
 refine wpAnyH_done (by kernel_rfl) ?_ _
 clear hX9 pX pR pZ r0 fr0 oP hA bz1 hb2
 go_wp2
 refine bodyPost_ret (by simp [results,Tryz.results7,go_sem,z0];try rfl) rfl ?_
 exact ⟨⟨_,rows2,hok2,rfl,oZ⟩,bz⟩
end Go.Proofs.YtgmhhegckcionaaGreatDoor
