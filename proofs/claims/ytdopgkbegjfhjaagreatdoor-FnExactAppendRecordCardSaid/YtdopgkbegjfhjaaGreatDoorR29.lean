/-
  Joined: RdsI#2.
-/
import Derived.Test.YtdopgkbegjfhjaaGreatDoorR27
import Derived.Test.YtdopgkbegjfhjaaGreatDoorR28

namespace Go.Proofs.YtdopgkbegjfhjaaGreatDoor
set_option maxRecDepth 100000
set_option maxHeartbeats 16000000
open Go.RowKit
set_option linter.unusedVariables false
set_option linter.unusedSimpArgs false

theorem l10Read_is (t:ByteArray) (w:World) (ht:t.size≤65536) :
  Calls Tryz.prog 48 #[.string t] w fun x w'=>RdGB t x w' w.heap.size∧Below w.heap.size w w':=by
 obtain ⟨i0,hi0,hz00,hz01,hz02⟩:=info_bug9
 obtain ⟨i1,hi1,hz10,hz11,hz12⟩:=info_parts info_int
 have bw:Below w.heap.size w (w.alloc (.cells #[.string ⟨#[]⟩,.slice none 0 0,.slice none 0 0] 74)):=by go_grown
 have pR:Blk (w.alloc (.cells #[.string ⟨#[]⟩,.slice none 0 0,.slice none 0 0] 74)) w.heap.size 74 [.string ⟨#[]⟩,.slice none 0 0,.slice none 0 0]:=blkAt _ _ _ rfl
 have HN:Hid ((∀ e,¬ RdOk t e)→∀ W,RdGB t (.returned (.tuple #[.agg #[.string ⟨#[]⟩,.slice none 0 0,.slice none 0 0],.bool false])) W w.heap.size):=fun h W=>.inr ⟨h,rfl⟩
 by_cases hs:t.size<15
 ·have HN9:=HN.out (fun e he=>by have:=he.2.1;omega)
  replace HN:Hid (∀ W,RdGB t (.returned (.tuple #[.agg #[.string ⟨#[]⟩,.slice none 0 0,.slice none 0 0],.bool false])) W w.heap.size):=HN9
  clear HN9
  have hs2:(t.size:Int)<15:=by omega
  go_enter Tryz.func48,Tryz.ntmps48
  have r0:=pR.cell 0
  have r1:=pR.cell 1
  have r2:=pR.cell 2
  have fr0:=pR.frozen 0
  have fr1:=pR.frozen 1
  have fr2:=pR.frozen 2
  have pZ:=((pR.set 0 (.string ⟨#[]⟩)).set 1 (.slice none 0 0)).set 2 (.slice none 0 0)
  simp only [List.set_cons_zero,List.set_cons_succ] at pZ
  have z0:=pZ.cell 0
  have z1:=pZ.cell 1
  have z2:=pZ.cell 2
  simp only [List.getElem?_cons_zero,List.getElem?_cons_succ] at z0 z1 z2 r0 r1 r2
  have bz:=((bw.setCell (p:=⟨w.heap.size,0,none⟩) (Nat.le_refl _) (.string ⟨#[]⟩)).setCell (p:=⟨w.heap.size,1,none⟩) (Nat.le_refl _) (.slice none 0 0)).setCell (p:=⟨w.heap.size,2,none⟩) (Nat.le_refl _) (.slice none 0 0)
  clear pZ pR
  go_wp2
  refine bodyPost_ret (by simp [results,Tryz.results48,go_sem,z0,z1,z2];try rfl) rfl ?_
  first | exact ⟨HN.out _,bz⟩ | exact ⟨HN.out _,by go_grown⟩
 have hs2:¬ (t.size:Int)<15:=by omega
 have hs3:(15:Int)≤(t.size:Int):=by omega
 have hps:(t.extract 15 t.size).size≤65536:=by simp;omega
 have hks:(t.extract 0 15).size≤maxLen:=by unfold maxLen;simp;omega
 have kU1:=fun W=>l01Read_any (t.extract 15 t.size) W hps
 go_enter Tryz.func48,Tryz.ntmps48
 go_wp2_with fail
 generalize (w.alloc (.cells #[.string ⟨#[]⟩,.slice none 0 0,.slice none 0 0] 74))=w1 at *
 have hlo1:w.heap.size<w1.heap.size:=pR.lt
 refine (kU1 _).mono ?_
 rintro x w2 ⟨hun,hb⟩
 replace bw:=bel8 bw hb
 replace pR:=pR.below hb
 have hb12:w1.heap.size≤w2.heap.size:=hb.size
 clear kU1
 rcases hun with ⟨zs,v,hL,rfl,hOw⟩ | ⟨hNL,v,rfl⟩
 ·obtain ⟨m,hm⟩:∃ m,m=zs.getD 0 0:=⟨_,rfl⟩
  have hlen:zs.length≤4096:=hL.choose_spec.2.1
  have hmb:m≤999999999:=by
   rw [hm]
   rcases Nat.lt_or_ge 0 zs.length with h9 | h9
   ·have:=listed_small9 hL (zs.getD 0 0:Nat) (List.mem_map.2 ⟨_,by rw [getD_8 h9];exact List.getElem_mem _,rfl⟩)
    omega
   ·rw [List.getD,List.getElem?_eq_none (by omega)];simp
  have hfz:(entZ (t.extract 0 15) zs).fits:=entZ_fits hL hks
  have HR:Hid (1≤zs.length→1+3*m≤zs.length→entOk (entZ (t.extract 0 15) zs)=true→RdOk t (entZ (t.extract 0 15) zs)):=fun g1 g2 g3=>⟨ht,by omega,zs,hL,g1,by rw [← hm];exact g2,rfl,g3⟩
  have HQ:Hid (∀ e,RdOk t e→(1≤zs.length∧1+3*m≤zs.length)∧entOk (entZ (t.extract 0 15) zs)=true):=fun e he=>by
   have h9:=he.ok
   obtain ⟨_,_,ys,g1,g2,g3,g4,_⟩:=he
   have ey:=hL.only g1
   subst ey
   rw [g4] at h9
   exact ⟨⟨g2,by rw [hm];exact g3⟩,h9⟩
  by_cases h0:zs.length=0
  ·have HN9:=HN.out (fun e he=>by have:=(HQ.out e he).1.1;omega)
   replace HN:Hid (∀ W,RdGB t (.returned (.tuple #[.agg #[.string ⟨#[]⟩,.slice none 0 0,.slice none 0 0],.bool false])) W w.heap.size):=HN9
   obtain ⟨va,vc,rfl⟩:=slice8 hOw
   rw [h0]
   clear HN9 HR HQ hOw hL hfz hm h0 hlen
   have r0:=pR.cell 0
   have r1:=pR.cell 1
   have r2:=pR.cell 2
   have fr0:=pR.frozen 0
   have fr1:=pR.frozen 1
   have fr2:=pR.frozen 2
   have pZ:=((pR.set 0 (.string ⟨#[]⟩)).set 1 (.slice none 0 0)).set 2 (.slice none 0 0)
   simp only [List.set_cons_zero,List.set_cons_succ] at pZ
   have z0:=pZ.cell 0
   have z1:=pZ.cell 1
   have z2:=pZ.cell 2
   simp only [List.getElem?_cons_zero,List.getElem?_cons_succ] at z0 z1 z2 r0 r1 r2
   have bz:=((bw.setCell (p:=⟨w.heap.size,0,none⟩) (Nat.le_refl _) (.string ⟨#[]⟩)).setCell (p:=⟨w.heap.size,1,none⟩) (Nat.le_refl _) (.slice none 0 0)).setCell (p:=⟨w.heap.size,2,none⟩) (Nat.le_refl _) (.slice none 0 0)
   clear pZ pR
   go_wp2
   refine bodyPost_ret (by simp [results,Tryz.results48,go_sem,z0,z1,z2];try rfl) rfl ?_
   first | exact ⟨HN.out _,bz⟩ | exact ⟨HN.out _,by go_grown⟩
  have hIn:∃ g uc,v=.slice (some ⟨g,0,none⟩) zs.length uc∧Ints .i64 w2 (some ⟨g,0,none⟩) zs.length uc (ofNats zs):=by
   rcases hOw.2 with ⟨_,h9⟩ | ⟨g,cap,cur,hv,_⟩
   ·exact absurd h9 h0
   ·subst hv
    have q:w2.ownsRow w1.heap.size 3 1 (.slice (some ⟨g,0,none⟩) zs.length cap) zs.length ((ofNats zs).map (Value.int .i64)):=by
     have e9:(ofNats zs).map (Value.int .i64)=natCells zs:=by simp [ofNats,natCells]
     rw [e9];exact hOw
    exact ⟨g,cap,rfl,Ints.of_owns q⟩
  obtain ⟨g,uc,rfl,hI⟩:=hIn
  have hI0:=hI
  obtain ⟨e1,e2,e3,hcase⟩:=hI
  rcases hcase with h9 | ⟨g',off',he9,hbl,hc⟩
  ·exact absurd h9 h0
  cases he9
  have HC:Hid (∀ t,t<zs.length→w2.cell? ⟨g,0+t,none⟩=some (.int .i64 ((ofNats zs).getD t 0))):=hc
  have d0:=hc 0 (by omega)
  rw [ofNats_head (by omega),← hm] at d0
  simp only [Nat.add_zero] at d0
  clear hc
  obtain ⟨zl,hzl⟩:∃ k,k=zs.length:=⟨_,rfl⟩
  rw [← hzl] at HR HQ hI0 e2 hlen HC ⊢
  have hq0:0<zl:=by omega
  have hp0:(0:Int)<(zl:Int):=by omega
  have hnz:((zl:Int) == 0)=false:=by simp;omega
  have hw3:IntKind.i64.wrap (3*(m:Int))=3*(m:Int):=IntWalk.i64_in _ ⟨by omega,by omega⟩
  have hw4:IntKind.i64.wrap (1+3*(m:Int))=1+3*(m:Int):=IntWalk.i64_in _ ⟨by omega,by omega⟩
  by_cases h1:1+3*m≤zl
  ·have hgt:¬ (zl:Int)<1+3*(m:Int):=by omega
   obtain ⟨a2,hsl,hI2⟩:=slice_l hI0 (lo:=1+3*m) h1
   have hca:((1+3*m:Nat):Int)=1+3*(m:Int):=by omega
   rw [hca] at hsl
   obtain ⟨kk,hkk⟩:∃ k,k=t.extract 0 15:=⟨_,rfl⟩
   obtain ⟨fz,hfzz⟩:∃ l,l=(ofNats zs).drop (1+3*m):=⟨_,rfl⟩
   obtain ⟨r,hr9⟩:∃ l,l=triples (((ofNats zs).drop 1).take (3*m)):=⟨_,rfl⟩
   have hent:entZ (t.extract 0 15) zs=(kk,r,fz):=by unfold entZ;rw [← hm,← hkk,← hfzz,← hr9]
   rw [hent] at HR HQ hfz
   replace HR:Hid (entOk (kk,r,fz)=true→RdOk t (kk,r,fz)):=HR.out (by omega) h1
   replace HQ:Hid (∀ e,RdOk t e→entOk (kk,r,fz)=true):=fun e he=>(HQ.out e he).2
   have hrl:r.length=m:=by rw [hr9];exact triples_length m _ (by rw [List.length_take,List.length_drop,ofNats_len];omega)
   have HG:Hid (∀ i,i<m→w2.cell? ⟨g,3*i+1,none⟩=some (.int .i64 (r.getD i (0,0,0)).1)∧w2.cell? ⟨g,3*i+2,none⟩=some (.int .i64 (r.getD i (0,0,0)).2.1)∧w2.cell? ⟨g,3*i+3,none⟩=some (.int .i64 (r.getD i (0,0,0)).2.2)):=fun i hi=>by
    have c1:=HC.out (3*i+1) (by omega)
    have c2:=HC.out (3*i+2) (by omega)
    have c3:=HC.out (3*i+3) (by omega)
    rw [Nat.zero_add] at c1 c2 c3
    have hl9:(((ofNats zs).drop 1).take (3*m)).length=3*m:=by rw [List.length_take,List.length_drop,ofNats_len];omega
    rw [hr9,triples_get m _ i hl9 hi,c1,c2,c3]
    have t0:(((ofNats zs).drop 1).take (3*m)).getD (3*i) 0=(ofNats zs).getD (3*i+1) 0:=getD_cut1 (by omega)
    have t1:(((ofNats zs).drop 1).take (3*m)).getD (3*i+1) 0=(ofNats zs).getD (3*i+2) 0:=getD_cut1 (by omega)
    have t2:(((ofNats zs).drop 1).take (3*m)).getD (3*i+2) 0=(ofNats zs).getD (3*i+3) 0:=getD_cut1 (by omega)
    rw [t0,t1,t2]
    exact ⟨rfl,rfl,rfl⟩
   have hfl:fz.length=zl - (1+3*m):=by rw [hfzz,List.length_drop,ofNats_len,hzl]
   rw [← hfzz,← hfl] at hI2
   rw [← hfl] at hsl
   have hno:a2=none→fz.length=0∧uc - (1+3*m)=0:=by
    intro h9
    rcases hI2.2.2.2 with h8 | ⟨_,_,h8,_⟩
    ·obtain ⟨a9,hs9,hA9⟩:=slice_l9 (b:=g) (off:=0) (len:=zl) (cap:=uc) (lo:=1+3*m) h1 e2
     rw [hca] at hs9
     have:=(hsl w2).symm.trans (hs9 w2)
     injection this with this _
     injection this with this _ _
     rcases hA9 with ⟨_,h7⟩ | h7<;>(rw [this,h7] at h9;cases h9)
    ·rw [h8] at h9;cases h9
   have hsk:∀ W,(Instr.slice 9 (.string t) none (some (.int .i64 15)) none).run Tryz.prog W=.ok (.string kk) W:=fun W=>by rw [hkk];go_simp
   obtain ⟨fc9,hfc9⟩:∃ k,k=uc - (1+3*m):=⟨_,rfl⟩
   rw [← hfc9] at hsl hI2 hno
   have hfb:fz.length≤4096:=by omega
   clear hL hm hlen HC hI0 hkk hfzz hr9 hent hfl hca hfc9 hzl e3 hks hps hOw e1
   go_wp2_with fail
   have bd:Below w2.heap.size w2 w2.drew:=by go_grown
   go_cut [7] from 9 (fun s7 W=>CutR w2 kk fz s7 W)
   case first =>
    refine wp_region_held_drew (S:=(fun w'=>w'.cell? ⟨g,0,none⟩=some (.int .i64 (m:Int)))) (by kernel_rfl) d0 (fun hS0=>?_)
    refine tkv 0 39 (.string t) ?_
    refine tkv 1 40 (.int .i64 15) ?_
    refine tkv 2 41 (.string kk) ?_
    refine tkv 5 44 (.slice (some ⟨g,0,none⟩) zl uc) ?_
    refine tkv 6 45 (.slice (some ⟨g,0,none⟩) zl uc) ?_
    refine tkv 7 46 (.pointer (some ⟨g,0,none⟩)) ?_
    refine tkv 8 47 (.int .i64 (m:Int)) ?_
    refine tkv 9 48 (.int .i64 (3*(m:Int))) ?_
    refine tkv 10 49 (.int .i64 (1+3*(m:Int))) ?_
    refine tkv 11 50 (.slice a2 fz.length fc9) ?_
    have bq:Below w2.drew.heap.size w2.drew w2.drew:=Below.refl _ _
    refine wpAnyH_ready (rs:=[3,4,14]) (by kernel_rfl) (by simp) ?_
    refine AllReadyH.cons (o:=⟨some 42,_,_,_,_,_⟩) rfl (fun K hK=>?_) (AllReadyH.cons (o:=⟨some 43,_,_,_,_,_⟩) rfl (fun K hK=>?_) (AllReadyH.cons (o:=⟨some 7,_,_,_,_,_⟩) rfl (fun K hK=>?_) AllReadyH.nil))
    ·skip
     go_simp
     have hal:Below w2.drew.heap.size w2.drew (w2.drew.alloc (.cells #[] 112)):=by go_grown
     have hg9:w2.heap.size≤w2.drew.heap.size:=bq.size
     have qB:(w2.drew.alloc (.cells #[] 112)).ownsRow w2.heap.size 112 3 (.slice (some ⟨w2.drew.heap.size,0,none⟩) 0 0) 0 []:=by simpa using empty8 w2.drew 112 3 w2.heap.size hg9
     replace bq:=bel_trans bq hal
     refine hK.out _ (w2.drew.alloc (.cells #[] 112)) ?_ (fun hSa=>?_)
     ·exact cells_kept bq _ _ hS0
     clear hK hg9 hal
     try simp only [Act.put,tka,tkb,tkc]
     generalize (w2.drew.alloc (.cells #[] 112))=wn1 at *
     clear hSa
     refine wpAnyH_ready (rs:=[4,14]) (by kernel_rfl) (by simp) ?_
     refine AllReadyH.cons (o:=⟨some 43,_,_,_,_,_⟩) rfl (fun K hK=>?_) (AllReadyH.cons (o:=⟨some 7,_,_,_,_,_⟩) rfl (fun K hK=>?_) AllReadyH.nil)
     ·skip
      go_simp
      have hal:Below wn1.heap.size wn1 (wn1.alloc (.cells #[] 3)):=by go_grown
      have hg9:w2.heap.size≤wn1.heap.size:=bq.size
      have qI:(wn1.alloc (.cells #[] 3)).ownsRow w2.heap.size 3 1 (.slice (some ⟨wn1.heap.size,0,none⟩) 0 0) 0 []:=by simpa using empty8 wn1 3 1 w2.heap.size hg9
      replace qB:=owns8 qB hal
      replace bq:=bel_trans bq hal
      refine hK.out _ (wn1.alloc (.cells #[] 3)) ?_ (fun hSa=>?_)
      ·exact cells_kept bq _ _ hS0
      clear hK hg9 hal
      try simp only [Act.put,tka,tkb,tkc]
      generalize (wn1.alloc (.cells #[] 3))=wn2 at *
      clear hSa
      refine wpAnyH_ready (rs:=[12,14]) (by kernel_rfl) (by simp) ?_
      refine AllReadyH.cons (o:=⟨some 51,_,_,_,_,_⟩) rfl (fun K hK=>?_) (AllReadyH.cons (o:=⟨some 7,_,_,_,_,_⟩) rfl (fun K hK=>?_) AllReadyH.nil)
      ·skip
       refine step_app9 rfl _ _ 40 rfl w2.heap.size 3 i1 (.int .i64 0) 1 8 Tryz.underlying40 hi1 hz10 hz11 hz12 rfl (by decide) (.slice (some ⟨wn1.heap.size,0,none⟩) 0 0) 0 [] rfl qI a2 fz.length fc9 rfl hno (fz.map (Value.int .i64)) (by rw [List.length_map,Nat.mul_one]) (fun ad ha=>by subst ha;exact newsI9 (hI2.below (bel_trans bd bq))) (one8 fz) (by unfold maxLen;omega) (by omega) bq.size ?_
       intro v5 wn3 hown hgrow _
       have qF:wn3.ownsRow w2.heap.size 3 1 v5 fz.length (fz.map (Value.int .i64)):=by simpa using hown
       obtain ⟨fa,fcc,rfl⟩:=slice8 qF
       replace qB:=qB.kept hgrow (owns_ne qB qI (by decide))
       replace bq:=bq.grown hgrow bq.size (fun g9 hg9=>(qI.lt g9 hg9).1)
       go_simp
       refine hK.out _ _ ?_ (fun hSa=>?_)
       ·exact cells_kept bq _ _ hS0
       clear hK hown hgrow hSa qI
       try simp only [Act.put,tka,tkb,tkc]
       have hSq:=cells_kept bq _ _ hS0
       refine tkv 13 52 (.agg #[.string kk,.slice (some ⟨w2.drew.heap.size,0,none⟩) 0 0,.slice fa fz.length fcc]) ?_
       clear hSq
       refine tkr 14 7 (fun K hK=>?_)
       go_simp
       have hal:Below wn3.heap.size wn3 (wn3.alloc (.cells #[.string ⟨#[]⟩,.slice none 0 0,.slice none 0 0] 74)):=by go_grown
       have hg9:w2.heap.size≤wn3.heap.size:=bq.size
       have pX:Blk (wn3.alloc (.cells #[.string ⟨#[]⟩,.slice none 0 0,.slice none 0 0] 74)) wn3.heap.size 74 [.string ⟨#[]⟩,.slice none 0 0,.slice none 0 0]:=blkAt _ _ _ rfl
       have hgx:w2.heap.size≤wn3.heap.size:=hg9
       replace qB:=owns8 qB hal
       replace qF:=owns8 qF hal
       replace bq:=bel_trans bq hal
       refine hK.out _ (wn3.alloc (.cells #[.string ⟨#[]⟩,.slice none 0 0,.slice none 0 0] 74)) ?_ (fun hSa=>?_)
       ·exact cells_kept bq _ _ hS0
       clear hK hg9 hal
       try simp only [Act.put,tka,tkb,tkc]
       generalize (wn3.alloc (.cells #[.string ⟨#[]⟩,.slice none 0 0,.slice none 0 0] 74))=wn4 at *
       clear hSa
       refine tkz 15 (fun K hK=>?_)
       refine step_store_boxR rfl 74 _ _ rfl (wn3.heap.size) [.string kk,.slice (some ⟨w2.drew.heap.size,0,none⟩) 0 0,.slice fa fz.length fcc] rfl rfl pX (by kernel_rfl) rfl rfl ?_
       intro w8 pX9 g9
       replace bq:=bq.grown g9 bq.size (fun x hx=>by cases hx;exact hgx)
       have qB9:=qB.kept g9 (.inr (own_ne_blk9' qB pX (by decide)))
       have qF9:=qF.kept g9 (.inr (own_ne_blk9' qF pX (by decide)))
       refine hK.out _ _ ?_ (fun hSb=>?_)
       ·exact cells_kept bq _ _ hS0
       clear hK
       try simp only [Act.put,tka,tkb,tkc]
       refine wpAnyH_done (by kernel_rfl) ?_ _
       go_wp2_with fail
       go_meet
       case rel=>exact CutR.mk9 (wn3.heap.size) (w2.drew.heap.size) fa fcc rfl hgx pX9.out qB9 qF9 (bel_trans bd bq)
      ·skip
       go_simp
       have hal:Below wn2.heap.size wn2 (wn2.alloc (.cells #[.string ⟨#[]⟩,.slice none 0 0,.slice none 0 0] 74)):=by go_grown
       have hg9:w2.heap.size≤wn2.heap.size:=bq.size
       have pX:Blk (wn2.alloc (.cells #[.string ⟨#[]⟩,.slice none 0 0,.slice none 0 0] 74)) wn2.heap.size 74 [.string ⟨#[]⟩,.slice none 0 0,.slice none 0 0]:=blkAt _ _ _ rfl
       have hgx:w2.heap.size≤wn2.heap.size:=hg9
       replace qB:=owns8 qB hal
       replace qI:=owns8 qI hal
       replace bq:=bel_trans bq hal
       refine hK.out _ (wn2.alloc (.cells #[.string ⟨#[]⟩,.slice none 0 0,.slice none 0 0] 74)) ?_ (fun hSa=>?_)
       ·exact cells_kept bq _ _ hS0
       clear hK hg9 hal
       try simp only [Act.put,tka,tkb,tkc]
       generalize (wn2.alloc (.cells #[.string ⟨#[]⟩,.slice none 0 0,.slice none 0 0] 74))=wn5 at *
       clear hSa
       refine tkr 12 51 (fun K hK=>?_)
       refine step_app9 rfl _ _ 40 rfl w2.heap.size 3 i1 (.int .i64 0) 1 8 Tryz.underlying40 hi1 hz10 hz11 hz12 rfl (by decide) (.slice (some ⟨wn1.heap.size,0,none⟩) 0 0) 0 [] rfl qI a2 fz.length fc9 rfl hno (fz.map (Value.int .i64)) (by rw [List.length_map,Nat.mul_one]) (fun ad ha=>by subst ha;exact newsI9 (hI2.below (bel_trans bd bq))) (one8 fz) (by unfold maxLen;omega) (by omega) bq.size ?_
       intro v5 wn6 hown hgrow _
       have qF:wn6.ownsRow w2.heap.size 3 1 v5 fz.length (fz.map (Value.int .i64)):=by simpa using hown
       obtain ⟨fa,fcc,rfl⟩:=slice8 qF
       replace qB:=qB.kept hgrow (owns_ne qB qI (by decide))
       replace pX:=pX.kept hgrow (own_ne_blk9' qI pX (by decide))
       replace bq:=bq.grown hgrow bq.size (fun g9 hg9=>(qI.lt g9 hg9).1)
       go_simp
       refine hK.out _ _ ?_ (fun hSa=>?_)
       ·exact cells_kept bq _ _ hS0
       clear hK hown hgrow hSa qI
       try simp only [Act.put,tka,tkb,tkc]
       have hSq:=cells_kept bq _ _ hS0
       refine tkv 13 52 (.agg #[.string kk,.slice (some ⟨w2.drew.heap.size,0,none⟩) 0 0,.slice fa fz.length fcc]) ?_
       clear hSq
       refine tkz 15 (fun K hK=>?_)
       refine step_store_boxR rfl 74 _ _ rfl (wn2.heap.size) [.string kk,.slice (some ⟨w2.drew.heap.size,0,none⟩) 0 0,.slice fa fz.length fcc] rfl rfl pX (by kernel_rfl) rfl rfl ?_
       intro w8 pX9 g9
       replace bq:=bq.grown g9 bq.size (fun x hx=>by cases hx;exact hgx)
       have qB9:=qB.kept g9 (.inr (own_ne_blk9' qB pX (by decide)))
       have qF9:=qF.kept g9 (.inr (own_ne_blk9' qF pX (by decide)))
       refine hK.out _ _ ?_ (fun hSb=>?_)
       ·exact cells_kept bq _ _ hS0
       clear hK
       try simp only [Act.put,tka,tkb,tkc]
       refine wpAnyH_done (by kernel_rfl) ?_ _
       go_wp2_with fail
       go_meet
       case rel=>exact CutR.mk9 (wn2.heap.size) (w2.drew.heap.size) fa fcc rfl hgx pX9.out qB9 qF9 (bel_trans bd bq)
     ·skip
      go_simp
      have hal:Below wn1.heap.size wn1 (wn1.alloc (.cells #[.string ⟨#[]⟩,.slice none 0 0,.slice none 0 0] 74)):=by go_grown
      have hg9:w2.heap.size≤wn1.heap.size:=bq.size
      have pX:Blk (wn1.alloc (.cells #[.string ⟨#[]⟩,.slice none 0 0,.slice none 0 0] 74)) wn1.heap.size 74 [.string ⟨#[]⟩,.slice none 0 0,.slice none 0 0]:=blkAt _ _ _ rfl
      have hgx:w2.heap.size≤wn1.heap.size:=hg9
      replace qB:=owns8 qB hal
      replace bq:=bel_trans bq hal
      refine hK.out _ (wn1.alloc (.cells #[.string ⟨#[]⟩,.slice none 0 0,.slice none 0 0] 74)) ?_ (fun hSa=>?_)
      ·exact cells_kept bq _ _ hS0
      clear hK hg9 hal
      try simp only [Act.put,tka,tkb,tkc]
      generalize (wn1.alloc (.cells #[.string ⟨#[]⟩,.slice none 0 0,.slice none 0 0] 74))=wn7 at *
      clear hSa
      refine tkr 4 43 (fun K hK=>?_)
      go_simp
      have hal:Below wn7.heap.size wn7 (wn7.alloc (.cells #[] 3)):=by go_grown
      have hg9:w2.heap.size≤wn7.heap.size:=bq.size
      have qI:(wn7.alloc (.cells #[] 3)).ownsRow w2.heap.size 3 1 (.slice (some ⟨wn7.heap.size,0,none⟩) 0 0) 0 []:=by simpa using empty8 wn7 3 1 w2.heap.size hg9
      replace qB:=owns8 qB hal
      replace pX:=pX.below hal
      replace bq:=bel_trans bq hal
      refine hK.out _ (wn7.alloc (.cells #[] 3)) ?_ (fun hSa=>?_)
      ·exact cells_kept bq _ _ hS0
      clear hK hg9 hal
      try simp only [Act.put,tka,tkb,tkc]
      generalize (wn7.alloc (.cells #[] 3))=wn8 at *
      clear hSa
      refine tkr 12 51 (fun K hK=>?_)
      refine step_app9 rfl _ _ 40 rfl w2.heap.size 3 i1 (.int .i64 0) 1 8 Tryz.underlying40 hi1 hz10 hz11 hz12 rfl (by decide) (.slice (some ⟨wn7.heap.size,0,none⟩) 0 0) 0 [] rfl qI a2 fz.length fc9 rfl hno (fz.map (Value.int .i64)) (by rw [List.length_map,Nat.mul_one]) (fun ad ha=>by subst ha;exact newsI9 (hI2.below (bel_trans bd bq))) (one8 fz) (by unfold maxLen;omega) (by omega) bq.size ?_
      intro v5 wn9 hown hgrow _
      have qF:wn9.ownsRow w2.heap.size 3 1 v5 fz.length (fz.map (Value.int .i64)):=by simpa using hown
      obtain ⟨fa,fcc,rfl⟩:=slice8 qF
      replace qB:=qB.kept hgrow (owns_ne qB qI (by decide))
      replace pX:=pX.kept hgrow (own_ne_blk9' qI pX (by decide))
      replace bq:=bq.grown hgrow bq.size (fun g9 hg9=>(qI.lt g9 hg9).1)
      go_simp
      refine hK.out _ _ ?_ (fun hSa=>?_)
      ·exact cells_kept bq _ _ hS0
      clear hK hown hgrow hSa qI
      try simp only [Act.put,tka,tkb,tkc]
      have hSq:=cells_kept bq _ _ hS0
      refine tkv 13 52 (.agg #[.string kk,.slice (some ⟨w2.drew.heap.size,0,none⟩) 0 0,.slice fa fz.length fcc]) ?_
      clear hSq
      refine tkz 15 (fun K hK=>?_)
      refine step_store_boxR rfl 74 _ _ rfl (wn1.heap.size) [.string kk,.slice (some ⟨w2.drew.heap.size,0,none⟩) 0 0,.slice fa fz.length fcc] rfl rfl pX (by kernel_rfl) rfl rfl ?_
      intro w8 pX9 g9
      replace bq:=bq.grown g9 bq.size (fun x hx=>by cases hx;exact hgx)
      have qB9:=qB.kept g9 (.inr (own_ne_blk9' qB pX (by decide)))
      have qF9:=qF.kept g9 (.inr (own_ne_blk9' qF pX (by decide)))
      refine hK.out _ _ ?_ (fun hSb=>?_)
      ·exact cells_kept bq _ _ hS0
      clear hK
      try simp only [Act.put,tka,tkb,tkc]
      refine wpAnyH_done (by kernel_rfl) ?_ _
      go_wp2_with fail
      go_meet
      case rel=>exact CutR.mk9 (wn1.heap.size) (w2.drew.heap.size) fa fcc rfl hgx pX9.out qB9 qF9 (bel_trans bd bq)
    ·skip
     go_simp
     have hal:Below w2.drew.heap.size w2.drew (w2.drew.alloc (.cells #[] 3)):=by go_grown
     have hg9:w2.heap.size≤w2.drew.heap.size:=bq.size
     have qI:(w2.drew.alloc (.cells #[] 3)).ownsRow w2.heap.size 3 1 (.slice (some ⟨w2.drew.heap.size,0,none⟩) 0 0) 0 []:=by simpa using empty8 w2.drew 3 1 w2.heap.size hg9
     replace bq:=bel_trans bq hal
     refine hK.out _ (w2.drew.alloc (.cells #[] 3)) ?_ (fun hSa=>?_)
     ·exact cells_kept bq _ _ hS0
     clear hK hg9 hal
     try simp only [Act.put,tka,tkb,tkc]
     generalize (w2.drew.alloc (.cells #[] 3))=wn10 at *
     clear hSa
     refine wpAnyH_ready (rs:=[3,12,14]) (by kernel_rfl) (by simp) ?_
     refine AllReadyH.cons (o:=⟨some 42,_,_,_,_,_⟩) rfl (fun K hK=>?_) (AllReadyH.cons (o:=⟨some 51,_,_,_,_,_⟩) rfl (fun K hK=>?_) (AllReadyH.cons (o:=⟨some 7,_,_,_,_,_⟩) rfl (fun K hK=>?_) AllReadyH.nil))
     ·skip
      go_simp
      have hal:Below wn10.heap.size wn10 (wn10.alloc (.cells #[] 112)):=by go_grown
      have hg9:w2.heap.size≤wn10.heap.size:=bq.size
      have qB:(wn10.alloc (.cells #[] 112)).ownsRow w2.heap.size 112 3 (.slice (some ⟨wn10.heap.size,0,none⟩) 0 0) 0 []:=by simpa using empty8 wn10 112 3 w2.heap.size hg9
      replace qI:=owns8 qI hal
      replace bq:=bel_trans bq hal
      refine hK.out _ (wn10.alloc (.cells #[] 112)) ?_ (fun hSa=>?_)
      ·exact cells_kept bq _ _ hS0
      clear hK hg9 hal
      try simp only [Act.put,tka,tkb,tkc]
      generalize (wn10.alloc (.cells #[] 112))=wn11 at *
      clear hSa
      refine wpAnyH_ready (rs:=[12,14]) (by kernel_rfl) (by simp) ?_
      refine AllReadyH.cons (o:=⟨some 51,_,_,_,_,_⟩) rfl (fun K hK=>?_) (AllReadyH.cons (o:=⟨some 7,_,_,_,_,_⟩) rfl (fun K hK=>?_) AllReadyH.nil)
      ·skip
       refine step_app9 rfl _ _ 40 rfl w2.heap.size 3 i1 (.int .i64 0) 1 8 Tryz.underlying40 hi1 hz10 hz11 hz12 rfl (by decide) (.slice (some ⟨w2.drew.heap.size,0,none⟩) 0 0) 0 [] rfl qI a2 fz.length fc9 rfl hno (fz.map (Value.int .i64)) (by rw [List.length_map,Nat.mul_one]) (fun ad ha=>by subst ha;exact newsI9 (hI2.below (bel_trans bd bq))) (one8 fz) (by unfold maxLen;omega) (by omega) bq.size ?_
       intro v5 wn12 hown hgrow _
       have qF:wn12.ownsRow w2.heap.size 3 1 v5 fz.length (fz.map (Value.int .i64)):=by simpa using hown
       obtain ⟨fa,fcc,rfl⟩:=slice8 qF
       replace qB:=qB.kept hgrow (owns_ne qB qI (by decide))
       replace bq:=bq.grown hgrow bq.size (fun g9 hg9=>(qI.lt g9 hg9).1)
       go_simp
       refine hK.out _ _ ?_ (fun hSa=>?_)
       ·exact cells_kept bq _ _ hS0
       clear hK hown hgrow hSa qI
       try simp only [Act.put,tka,tkb,tkc]
       have hSq:=cells_kept bq _ _ hS0
       refine tkv 13 52 (.agg #[.string kk,.slice (some ⟨wn10.heap.size,0,none⟩) 0 0,.slice fa fz.length fcc]) ?_
       clear hSq
       refine tkr 14 7 (fun K hK=>?_)
       go_simp
       have hal:Below wn12.heap.size wn12 (wn12.alloc (.cells #[.string ⟨#[]⟩,.slice none 0 0,.slice none 0 0] 74)):=by go_grown
       have hg9:w2.heap.size≤wn12.heap.size:=bq.size
       have pX:Blk (wn12.alloc (.cells #[.string ⟨#[]⟩,.slice none 0 0,.slice none 0 0] 74)) wn12.heap.size 74 [.string ⟨#[]⟩,.slice none 0 0,.slice none 0 0]:=blkAt _ _ _ rfl
       have hgx:w2.heap.size≤wn12.heap.size:=hg9
       replace qB:=owns8 qB hal
       replace qF:=owns8 qF hal
       replace bq:=bel_trans bq hal
       refine hK.out _ (wn12.alloc (.cells #[.string ⟨#[]⟩,.slice none 0 0,.slice none 0 0] 74)) ?_ (fun hSa=>?_)
       ·exact cells_kept bq _ _ hS0
       clear hK hg9 hal
       try simp only [Act.put,tka,tkb,tkc]
       generalize (wn12.alloc (.cells #[.string ⟨#[]⟩,.slice none 0 0,.slice none 0 0] 74))=wn13 at *
       clear hSa
       refine tkz 15 (fun K hK=>?_)
       refine step_store_boxR rfl 74 _ _ rfl (wn12.heap.size) [.string kk,.slice (some ⟨wn10.heap.size,0,none⟩) 0 0,.slice fa fz.length fcc] rfl rfl pX (by kernel_rfl) rfl rfl ?_
       intro w8 pX9 g9
       replace bq:=bq.grown g9 bq.size (fun x hx=>by cases hx;exact hgx)
       have qB9:=qB.kept g9 (.inr (own_ne_blk9' qB pX (by decide)))
       have qF9:=qF.kept g9 (.inr (own_ne_blk9' qF pX (by decide)))
       refine hK.out _ _ ?_ (fun hSb=>?_)
       ·exact cells_kept bq _ _ hS0
       clear hK
       try simp only [Act.put,tka,tkb,tkc]
       refine wpAnyH_done (by kernel_rfl) ?_ _
       go_wp2_with fail
       go_meet
       case rel=>exact CutR.mk9 (wn12.heap.size) (wn10.heap.size) fa fcc rfl hgx pX9.out qB9 qF9 (bel_trans bd bq)
      ·skip
       go_simp
       have hal:Below wn11.heap.size wn11 (wn11.alloc (.cells #[.string ⟨#[]⟩,.slice none 0 0,.slice none 0 0] 74)):=by go_grown
       have hg9:w2.heap.size≤wn11.heap.size:=bq.size
       have pX:Blk (wn11.alloc (.cells #[.string ⟨#[]⟩,.slice none 0 0,.slice none 0 0] 74)) wn11.heap.size 74 [.string ⟨#[]⟩,.slice none 0 0,.slice none 0 0]:=blkAt _ _ _ rfl
       have hgx:w2.heap.size≤wn11.heap.size:=hg9
       replace qB:=owns8 qB hal
       replace qI:=owns8 qI hal
       replace bq:=bel_trans bq hal
       refine hK.out _ (wn11.alloc (.cells #[.string ⟨#[]⟩,.slice none 0 0,.slice none 0 0] 74)) ?_ (fun hSa=>?_)
       ·exact cells_kept bq _ _ hS0
       clear hK hg9 hal
       try simp only [Act.put,tka,tkb,tkc]
       generalize (wn11.alloc (.cells #[.string ⟨#[]⟩,.slice none 0 0,.slice none 0 0] 74))=wn14 at *
       clear hSa
       refine tkr 12 51 (fun K hK=>?_)
       refine step_app9 rfl _ _ 40 rfl w2.heap.size 3 i1 (.int .i64 0) 1 8 Tryz.underlying40 hi1 hz10 hz11 hz12 rfl (by decide) (.slice (some ⟨w2.drew.heap.size,0,none⟩) 0 0) 0 [] rfl qI a2 fz.length fc9 rfl hno (fz.map (Value.int .i64)) (by rw [List.length_map,Nat.mul_one]) (fun ad ha=>by subst ha;exact newsI9 (hI2.below (bel_trans bd bq))) (one8 fz) (by unfold maxLen;omega) (by omega) bq.size ?_
       intro v5 wn15 hown hgrow _
       have qF:wn15.ownsRow w2.heap.size 3 1 v5 fz.length (fz.map (Value.int .i64)):=by simpa using hown
       obtain ⟨fa,fcc,rfl⟩:=slice8 qF
       replace qB:=qB.kept hgrow (owns_ne qB qI (by decide))
       replace pX:=pX.kept hgrow (own_ne_blk9' qI pX (by decide))
       replace bq:=bq.grown hgrow bq.size (fun g9 hg9=>(qI.lt g9 hg9).1)
       go_simp
       refine hK.out _ _ ?_ (fun hSa=>?_)
       ·exact cells_kept bq _ _ hS0
       clear hK hown hgrow hSa qI
       try simp only [Act.put,tka,tkb,tkc]
       have hSq:=cells_kept bq _ _ hS0
       refine tkv 13 52 (.agg #[.string kk,.slice (some ⟨wn10.heap.size,0,none⟩) 0 0,.slice fa fz.length fcc]) ?_
       clear hSq
       refine tkz 15 (fun K hK=>?_)
       refine step_store_boxR rfl 74 _ _ rfl (wn11.heap.size) [.string kk,.slice (some ⟨wn10.heap.size,0,none⟩) 0 0,.slice fa fz.length fcc] rfl rfl pX (by kernel_rfl) rfl rfl ?_
       intro w8 pX9 g9
       replace bq:=bq.grown g9 bq.size (fun x hx=>by cases hx;exact hgx)
       have qB9:=qB.kept g9 (.inr (own_ne_blk9' qB pX (by decide)))
       have qF9:=qF.kept g9 (.inr (own_ne_blk9' qF pX (by decide)))
       refine hK.out _ _ ?_ (fun hSb=>?_)
       ·exact cells_kept bq _ _ hS0
       clear hK
       try simp only [Act.put,tka,tkb,tkc]
       refine wpAnyH_done (by kernel_rfl) ?_ _
       go_wp2_with fail
       go_meet
       case rel=>exact CutR.mk9 (wn11.heap.size) (wn10.heap.size) fa fcc rfl hgx pX9.out qB9 qF9 (bel_trans bd bq)
     ·skip
      refine step_app9 rfl _ _ 40 rfl w2.heap.size 3 i1 (.int .i64 0) 1 8 Tryz.underlying40 hi1 hz10 hz11 hz12 rfl (by decide) (.slice (some ⟨w2.drew.heap.size,0,none⟩) 0 0) 0 [] rfl qI a2 fz.length fc9 rfl hno (fz.map (Value.int .i64)) (by rw [List.length_map,Nat.mul_one]) (fun ad ha=>by subst ha;exact newsI9 (hI2.below (bel_trans bd bq))) (one8 fz) (by unfold maxLen;omega) (by omega) bq.size ?_
      intro v5 wn16 hown hgrow _
      have qF:wn16.ownsRow w2.heap.size 3 1 v5 fz.length (fz.map (Value.int .i64)):=by simpa using hown
      obtain ⟨fa,fcc,rfl⟩:=slice8 qF
      replace bq:=bq.grown hgrow bq.size (fun g9 hg9=>(qI.lt g9 hg9).1)
      go_simp
      refine hK.out _ _ ?_ (fun hSa=>?_)
      ·exact cells_kept bq _ _ hS0
      clear hK hown hgrow hSa qI
      try simp only [Act.put,tka,tkb,tkc]
      refine wpAnyH_ready (rs:=[3,14]) (by kernel_rfl) (by simp) ?_
      refine AllReadyH.cons (o:=⟨some 42,_,_,_,_,_⟩) rfl (fun K hK=>?_) (AllReadyH.cons (o:=⟨some 7,_,_,_,_,_⟩) rfl (fun K hK=>?_) AllReadyH.nil)
      ·skip
       go_simp
       have hal:Below wn16.heap.size wn16 (wn16.alloc (.cells #[] 112)):=by go_grown
       have hg9:w2.heap.size≤wn16.heap.size:=bq.size
       have qB:(wn16.alloc (.cells #[] 112)).ownsRow w2.heap.size 112 3 (.slice (some ⟨wn16.heap.size,0,none⟩) 0 0) 0 []:=by simpa using empty8 wn16 112 3 w2.heap.size hg9
       replace qF:=owns8 qF hal
       replace bq:=bel_trans bq hal
       refine hK.out _ (wn16.alloc (.cells #[] 112)) ?_ (fun hSa=>?_)
       ·exact cells_kept bq _ _ hS0
       clear hK hg9 hal
       try simp only [Act.put,tka,tkb,tkc]
       generalize (wn16.alloc (.cells #[] 112))=wn17 at *
       clear hSa
       have hSq:=cells_kept bq _ _ hS0
       refine tkv 13 52 (.agg #[.string kk,.slice (some ⟨wn16.heap.size,0,none⟩) 0 0,.slice fa fz.length fcc]) ?_
       clear hSq
       refine tkr 14 7 (fun K hK=>?_)
       go_simp
       have hal:Below wn17.heap.size wn17 (wn17.alloc (.cells #[.string ⟨#[]⟩,.slice none 0 0,.slice none 0 0] 74)):=by go_grown
       have hg9:w2.heap.size≤wn17.heap.size:=bq.size
       have pX:Blk (wn17.alloc (.cells #[.string ⟨#[]⟩,.slice none 0 0,.slice none 0 0] 74)) wn17.heap.size 74 [.string ⟨#[]⟩,.slice none 0 0,.slice none 0 0]:=blkAt _ _ _ rfl
       have hgx:w2.heap.size≤wn17.heap.size:=hg9
       replace qB:=owns8 qB hal
       replace qF:=owns8 qF hal
       replace bq:=bel_trans bq hal
       refine hK.out _ (wn17.alloc (.cells #[.string ⟨#[]⟩,.slice none 0 0,.slice none 0 0] 74)) ?_ (fun hSa=>?_)
       ·exact cells_kept bq _ _ hS0
       clear hK hg9 hal
       try simp only [Act.put,tka,tkb,tkc]
       generalize (wn17.alloc (.cells #[.string ⟨#[]⟩,.slice none 0 0,.slice none 0 0] 74))=wn18 at *
       clear hSa
       refine tkz 15 (fun K hK=>?_)
       refine step_store_boxR rfl 74 _ _ rfl (wn17.heap.size) [.string kk,.slice (some ⟨wn16.heap.size,0,none⟩) 0 0,.slice fa fz.length fcc] rfl rfl pX (by kernel_rfl) rfl rfl ?_
       intro w8 pX9 g9
       replace bq:=bq.grown g9 bq.size (fun x hx=>by cases hx;exact hgx)
       have qB9:=qB.kept g9 (.inr (own_ne_blk9' qB pX (by decide)))
       have qF9:=qF.kept g9 (.inr (own_ne_blk9' qF pX (by decide)))
       refine hK.out _ _ ?_ (fun hSb=>?_)
       ·exact cells_kept bq _ _ hS0
       clear hK
       try simp only [Act.put,tka,tkb,tkc]
       refine wpAnyH_done (by kernel_rfl) ?_ _
       go_wp2_with fail
       go_meet
       case rel=>exact CutR.mk9 (wn17.heap.size) (wn16.heap.size) fa fcc rfl hgx pX9.out qB9 qF9 (bel_trans bd bq)
      ·skip
       go_simp
       have hal:Below wn16.heap.size wn16 (wn16.alloc (.cells #[.string ⟨#[]⟩,.slice none 0 0,.slice none 0 0] 74)):=by go_grown
       have hg9:w2.heap.size≤wn16.heap.size:=bq.size
       have pX:Blk (wn16.alloc (.cells #[.string ⟨#[]⟩,.slice none 0 0,.slice none 0 0] 74)) wn16.heap.size 74 [.string ⟨#[]⟩,.slice none 0 0,.slice none 0 0]:=blkAt _ _ _ rfl
       have hgx:w2.heap.size≤wn16.heap.size:=hg9
       replace qF:=owns8 qF hal
       replace bq:=bel_trans bq hal
       refine hK.out _ (wn16.alloc (.cells #[.string ⟨#[]⟩,.slice none 0 0,.slice none 0 0] 74)) ?_ (fun hSa=>?_)
       ·exact cells_kept bq _ _ hS0
       clear hK hg9 hal
       try simp only [Act.put,tka,tkb,tkc]
       generalize (wn16.alloc (.cells #[.string ⟨#[]⟩,.slice none 0 0,.slice none 0 0] 74))=wn19 at *
       clear hSa
       refine tkr 3 42 (fun K hK=>?_)
       go_simp
       have hal:Below wn19.heap.size wn19 (wn19.alloc (.cells #[] 112)):=by go_grown
       have hg9:w2.heap.size≤wn19.heap.size:=bq.size
       have qB:(wn19.alloc (.cells #[] 112)).ownsRow w2.heap.size 112 3 (.slice (some ⟨wn19.heap.size,0,none⟩) 0 0) 0 []:=by simpa using empty8 wn19 112 3 w2.heap.size hg9
       replace qF:=owns8 qF hal
       replace pX:=pX.below hal
       replace bq:=bel_trans bq hal
       refine hK.out _ (wn19.alloc (.cells #[] 112)) ?_ (fun hSa=>?_)
       ·exact cells_kept bq _ _ hS0
       clear hK hg9 hal
       try simp only [Act.put,tka,tkb,tkc]
       generalize (wn19.alloc (.cells #[] 112))=wn20 at *
       clear hSa
       have hSq:=cells_kept bq _ _ hS0
       refine tkv 13 52 (.agg #[.string kk,.slice (some ⟨wn19.heap.size,0,none⟩) 0 0,.slice fa fz.length fcc]) ?_
       clear hSq
       refine tkz 15 (fun K hK=>?_)
       refine step_store_boxR rfl 74 _ _ rfl (wn16.heap.size) [.string kk,.slice (some ⟨wn19.heap.size,0,none⟩) 0 0,.slice fa fz.length fcc] rfl rfl pX (by kernel_rfl) rfl rfl ?_
       intro w8 pX9 g9
       replace bq:=bq.grown g9 bq.size (fun x hx=>by cases hx;exact hgx)
       have qB9:=qB.kept g9 (.inr (own_ne_blk9' qB pX (by decide)))
       have qF9:=qF.kept g9 (.inr (own_ne_blk9' qF pX (by decide)))
       refine hK.out _ _ ?_ (fun hSb=>?_)
       ·exact cells_kept bq _ _ hS0
       clear hK
       try simp only [Act.put,tka,tkb,tkc]
       refine wpAnyH_done (by kernel_rfl) ?_ _
       go_wp2_with fail
       go_meet
       case rel=>exact CutR.mk9 (wn16.heap.size) (wn19.heap.size) fa fcc rfl hgx pX9.out qB9 qF9 (bel_trans bd bq)
     ·skip
      go_simp
      have hal:Below wn10.heap.size wn10 (wn10.alloc (.cells #[.string ⟨#[]⟩,.slice none 0 0,.slice none 0 0] 74)):=by go_grown
      have hg9:w2.heap.size≤wn10.heap.size:=bq.size
      have pX:Blk (wn10.alloc (.cells #[.string ⟨#[]⟩,.slice none 0 0,.slice none 0 0] 74)) wn10.heap.size 74 [.string ⟨#[]⟩,.slice none 0 0,.slice none 0 0]:=blkAt _ _ _ rfl
      have hgx:w2.heap.size≤wn10.heap.size:=hg9
      replace qI:=owns8 qI hal
      replace bq:=bel_trans bq hal
      refine hK.out _ (wn10.alloc (.cells #[.string ⟨#[]⟩,.slice none 0 0,.slice none 0 0] 74)) ?_ (fun hSa=>?_)
      ·exact cells_kept bq _ _ hS0
      clear hK hg9 hal
      try simp only [Act.put,tka,tkb,tkc]
      generalize (wn10.alloc (.cells #[.string ⟨#[]⟩,.slice none 0 0,.slice none 0 0] 74))=wn21 at *
      clear hSa
      refine wpAnyH_ready (rs:=[3,12]) (by kernel_rfl) (by simp) ?_
      refine AllReadyH.cons (o:=⟨some 42,_,_,_,_,_⟩) rfl (fun K hK=>?_) (AllReadyH.cons (o:=⟨some 51,_,_,_,_,_⟩) rfl (fun K hK=>?_) AllReadyH.nil)
      ·skip
       go_simp
       have hal:Below wn21.heap.size wn21 (wn21.alloc (.cells #[] 112)):=by go_grown
       have hg9:w2.heap.size≤wn21.heap.size:=bq.size
       have qB:(wn21.alloc (.cells #[] 112)).ownsRow w2.heap.size 112 3 (.slice (some ⟨wn21.heap.size,0,none⟩) 0 0) 0 []:=by simpa using empty8 wn21 112 3 w2.heap.size hg9
       replace qI:=owns8 qI hal
       replace pX:=pX.below hal
       replace bq:=bel_trans bq hal
       refine hK.out _ (wn21.alloc (.cells #[] 112)) ?_ (fun hSa=>?_)
       ·exact cells_kept bq _ _ hS0
       clear hK hg9 hal
       try simp only [Act.put,tka,tkb,tkc]
       generalize (wn21.alloc (.cells #[] 112))=wn22 at *
       clear hSa
       refine tkr 12 51 (fun K hK=>?_)
       refine step_app9 rfl _ _ 40 rfl w2.heap.size 3 i1 (.int .i64 0) 1 8 Tryz.underlying40 hi1 hz10 hz11 hz12 rfl (by decide) (.slice (some ⟨w2.drew.heap.size,0,none⟩) 0 0) 0 [] rfl qI a2 fz.length fc9 rfl hno (fz.map (Value.int .i64)) (by rw [List.length_map,Nat.mul_one]) (fun ad ha=>by subst ha;exact newsI9 (hI2.below (bel_trans bd bq))) (one8 fz) (by unfold maxLen;omega) (by omega) bq.size ?_
       intro v5 wn23 hown hgrow _
       have qF:wn23.ownsRow w2.heap.size 3 1 v5 fz.length (fz.map (Value.int .i64)):=by simpa using hown
       obtain ⟨fa,fcc,rfl⟩:=slice8 qF
       replace qB:=qB.kept hgrow (owns_ne qB qI (by decide))
       replace pX:=pX.kept hgrow (own_ne_blk9' qI pX (by decide))
       replace bq:=bq.grown hgrow bq.size (fun g9 hg9=>(qI.lt g9 hg9).1)
       go_simp
       refine hK.out _ _ ?_ (fun hSa=>?_)
       ·exact cells_kept bq _ _ hS0
       clear hK hown hgrow hSa qI
       try simp only [Act.put,tka,tkb,tkc]
       have hSq:=cells_kept bq _ _ hS0
       refine tkv 13 52 (.agg #[.string kk,.slice (some ⟨wn21.heap.size,0,none⟩) 0 0,.slice fa fz.length fcc]) ?_
       clear hSq
       refine tkz 15 (fun K hK=>?_)
       refine step_store_boxR rfl 74 _ _ rfl (wn10.heap.size) [.string kk,.slice (some ⟨wn21.heap.size,0,none⟩) 0 0,.slice fa fz.length fcc] rfl rfl pX (by kernel_rfl) rfl rfl ?_
       intro w8 pX9 g9
       replace bq:=bq.grown g9 bq.size (fun x hx=>by cases hx;exact hgx)
       have qB9:=qB.kept g9 (.inr (own_ne_blk9' qB pX (by decide)))
       have qF9:=qF.kept g9 (.inr (own_ne_blk9' qF pX (by decide)))
       refine hK.out _ _ ?_ (fun hSb=>?_)
       ·exact cells_kept bq _ _ hS0
       clear hK
       try simp only [Act.put,tka,tkb,tkc]
       refine wpAnyH_done (by kernel_rfl) ?_ _
       go_wp2_with fail
       go_meet
       case rel=>exact CutR.mk9 (wn10.heap.size) (wn21.heap.size) fa fcc rfl hgx pX9.out qB9 qF9 (bel_trans bd bq)
      ·skip
       refine step_app9 rfl _ _ 40 rfl w2.heap.size 3 i1 (.int .i64 0) 1 8 Tryz.underlying40 hi1 hz10 hz11 hz12 rfl (by decide) (.slice (some ⟨w2.drew.heap.size,0,none⟩) 0 0) 0 [] rfl qI a2 fz.length fc9 rfl hno (fz.map (Value.int .i64)) (by rw [List.length_map,Nat.mul_one]) (fun ad ha=>by subst ha;exact newsI9 (hI2.below (bel_trans bd bq))) (one8 fz) (by unfold maxLen;omega) (by omega) bq.size ?_
       intro v5 wn24 hown hgrow _
       have qF:wn24.ownsRow w2.heap.size 3 1 v5 fz.length (fz.map (Value.int .i64)):=by simpa using hown
       obtain ⟨fa,fcc,rfl⟩:=slice8 qF
       replace pX:=pX.kept hgrow (own_ne_blk9' qI pX (by decide))
       replace bq:=bq.grown hgrow bq.size (fun g9 hg9=>(qI.lt g9 hg9).1)
       go_simp
       refine hK.out _ _ ?_ (fun hSa=>?_)
       ·exact cells_kept bq _ _ hS0
       clear hK hown hgrow hSa qI
       try simp only [Act.put,tka,tkb,tkc]
       refine tkr 3 42 (fun K hK=>?_)
       go_simp
       have hal:Below wn24.heap.size wn24 (wn24.alloc (.cells #[] 112)):=by go_grown
       have hg9:w2.heap.size≤wn24.heap.size:=bq.size
       have qB:(wn24.alloc (.cells #[] 112)).ownsRow w2.heap.size 112 3 (.slice (some ⟨wn24.heap.size,0,none⟩) 0 0) 0 []:=by simpa using empty8 wn24 112 3 w2.heap.size hg9
       replace qF:=owns8 qF hal
       replace pX:=pX.below hal
       replace bq:=bel_trans bq hal
       refine hK.out _ (wn24.alloc (.cells #[] 112)) ?_ (fun hSa=>?_)
       ·exact cells_kept bq _ _ hS0
       clear hK hg9 hal
       try simp only [Act.put,tka,tkb,tkc]
       generalize (wn24.alloc (.cells #[] 112))=wn25 at *
       clear hSa
       have hSq:=cells_kept bq _ _ hS0
       refine tkv 13 52 (.agg #[.string kk,.slice (some ⟨wn24.heap.size,0,none⟩) 0 0,.slice fa fz.length fcc]) ?_
       clear hSq
       refine tkz 15 (fun K hK=>?_)
       refine step_store_boxR rfl 74 _ _ rfl (wn10.heap.size) [.string kk,.slice (some ⟨wn24.heap.size,0,none⟩) 0 0,.slice fa fz.length fcc] rfl rfl pX (by kernel_rfl) rfl rfl ?_
       intro w8 pX9 g9
       replace bq:=bq.grown g9 bq.size (fun x hx=>by cases hx;exact hgx)
       have qB9:=qB.kept g9 (.inr (own_ne_blk9' qB pX (by decide)))
       have qF9:=qF.kept g9 (.inr (own_ne_blk9' qF pX (by decide)))
       refine hK.out _ _ ?_ (fun hSb=>?_)
       ·exact cells_kept bq _ _ hS0
       clear hK
       try simp only [Act.put,tka,tkb,tkc]
       refine wpAnyH_done (by kernel_rfl) ?_ _
       go_wp2_with fail
       go_meet
       case rel=>exact CutR.mk9 (wn10.heap.size) (wn24.heap.size) fa fcc rfl hgx pX9.out qB9 qF9 (bel_trans bd bq)
    ·skip
     go_simp
     have hal:Below w2.drew.heap.size w2.drew (w2.drew.alloc (.cells #[.string ⟨#[]⟩,.slice none 0 0,.slice none 0 0] 74)):=by go_grown
     have hg9:w2.heap.size≤w2.drew.heap.size:=bq.size
     have pX:Blk (w2.drew.alloc (.cells #[.string ⟨#[]⟩,.slice none 0 0,.slice none 0 0] 74)) w2.drew.heap.size 74 [.string ⟨#[]⟩,.slice none 0 0,.slice none 0 0]:=blkAt _ _ _ rfl
     have hgx:w2.heap.size≤w2.drew.heap.size:=hg9
     replace bq:=bel_trans bq hal
     refine hK.out _ (w2.drew.alloc (.cells #[.string ⟨#[]⟩,.slice none 0 0,.slice none 0 0] 74)) ?_ (fun hSa=>?_)
     ·exact cells_kept bq _ _ hS0
     clear hK hg9 hal
     try simp only [Act.put,tka,tkb,tkc]
     generalize (w2.drew.alloc (.cells #[.string ⟨#[]⟩,.slice none 0 0,.slice none 0 0] 74))=wn26 at *
     clear hSa
     refine wpAnyH_ready (rs:=[3,4]) (by kernel_rfl) (by simp) ?_
     refine AllReadyH.cons (o:=⟨some 42,_,_,_,_,_⟩) rfl (fun K hK=>?_) (AllReadyH.cons (o:=⟨some 43,_,_,_,_,_⟩) rfl (fun K hK=>?_) AllReadyH.nil)
     ·skip
      go_simp
      have hal:Below wn26.heap.size wn26 (wn26.alloc (.cells #[] 112)):=by go_grown
      have hg9:w2.heap.size≤wn26.heap.size:=bq.size
      have qB:(wn26.alloc (.cells #[] 112)).ownsRow w2.heap.size 112 3 (.slice (some ⟨wn26.heap.size,0,none⟩) 0 0) 0 []:=by simpa using empty8 wn26 112 3 w2.heap.size hg9
      replace pX:=pX.below hal
      replace bq:=bel_trans bq hal
      refine hK.out _ (wn26.alloc (.cells #[] 112)) ?_ (fun hSa=>?_)
      ·exact cells_kept bq _ _ hS0
      clear hK hg9 hal
      try simp only [Act.put,tka,tkb,tkc]
      generalize (wn26.alloc (.cells #[] 112))=wn27 at *
      clear hSa
      refine tkr 4 43 (fun K hK=>?_)
      go_simp
      have hal:Below wn27.heap.size wn27 (wn27.alloc (.cells #[] 3)):=by go_grown
      have hg9:w2.heap.size≤wn27.heap.size:=bq.size
      have qI:(wn27.alloc (.cells #[] 3)).ownsRow w2.heap.size 3 1 (.slice (some ⟨wn27.heap.size,0,none⟩) 0 0) 0 []:=by simpa using empty8 wn27 3 1 w2.heap.size hg9
      replace qB:=owns8 qB hal
      replace pX:=pX.below hal
      replace bq:=bel_trans bq hal
      refine hK.out _ (wn27.alloc (.cells #[] 3)) ?_ (fun hSa=>?_)
      ·exact cells_kept bq _ _ hS0
      clear hK hg9 hal
      try simp only [Act.put,tka,tkb,tkc]
      generalize (wn27.alloc (.cells #[] 3))=wn28 at *
      clear hSa
      refine tkr 12 51 (fun K hK=>?_)
      refine step_app9 rfl _ _ 40 rfl w2.heap.size 3 i1 (.int .i64 0) 1 8 Tryz.underlying40 hi1 hz10 hz11 hz12 rfl (by decide) (.slice (some ⟨wn27.heap.size,0,none⟩) 0 0) 0 [] rfl qI a2 fz.length fc9 rfl hno (fz.map (Value.int .i64)) (by rw [List.length_map,Nat.mul_one]) (fun ad ha=>by subst ha;exact newsI9 (hI2.below (bel_trans bd bq))) (one8 fz) (by unfold maxLen;omega) (by omega) bq.size ?_
      intro v5 wn29 hown hgrow _
      have qF:wn29.ownsRow w2.heap.size 3 1 v5 fz.length (fz.map (Value.int .i64)):=by simpa using hown
      obtain ⟨fa,fcc,rfl⟩:=slice8 qF
      replace qB:=qB.kept hgrow (owns_ne qB qI (by decide))
      replace pX:=pX.kept hgrow (own_ne_blk9' qI pX (by decide))
      replace bq:=bq.grown hgrow bq.size (fun g9 hg9=>(qI.lt g9 hg9).1)
      go_simp
      refine hK.out _ _ ?_ (fun hSa=>?_)
      ·exact cells_kept bq _ _ hS0
      clear hK hown hgrow hSa qI
      try simp only [Act.put,tka,tkb,tkc]
      have hSq:=cells_kept bq _ _ hS0
      refine tkv 13 52 (.agg #[.string kk,.slice (some ⟨wn26.heap.size,0,none⟩) 0 0,.slice fa fz.length fcc]) ?_
      clear hSq
      refine tkz 15 (fun K hK=>?_)
      refine step_store_boxR rfl 74 _ _ rfl (w2.drew.heap.size) [.string kk,.slice (some ⟨wn26.heap.size,0,none⟩) 0 0,.slice fa fz.length fcc] rfl rfl pX (by kernel_rfl) rfl rfl ?_
      intro w8 pX9 g9
      replace bq:=bq.grown g9 bq.size (fun x hx=>by cases hx;exact hgx)
      have qB9:=qB.kept g9 (.inr (own_ne_blk9' qB pX (by decide)))
      have qF9:=qF.kept g9 (.inr (own_ne_blk9' qF pX (by decide)))
      refine hK.out _ _ ?_ (fun hSb=>?_)
      ·exact cells_kept bq _ _ hS0
      clear hK
      try simp only [Act.put,tka,tkb,tkc]
      refine wpAnyH_done (by kernel_rfl) ?_ _
      go_wp2_with fail
      go_meet
      case rel=>exact CutR.mk9 (w2.drew.heap.size) (wn26.heap.size) fa fcc rfl hgx pX9.out qB9 qF9 (bel_trans bd bq)
     ·skip
      go_simp
      have hal:Below wn26.heap.size wn26 (wn26.alloc (.cells #[] 3)):=by go_grown
      have hg9:w2.heap.size≤wn26.heap.size:=bq.size
      have qI:(wn26.alloc (.cells #[] 3)).ownsRow w2.heap.size 3 1 (.slice (some ⟨wn26.heap.size,0,none⟩) 0 0) 0 []:=by simpa using empty8 wn26 3 1 w2.heap.size hg9
      replace pX:=pX.below hal
      replace bq:=bel_trans bq hal
      refine hK.out _ (wn26.alloc (.cells #[] 3)) ?_ (fun hSa=>?_)
      ·exact cells_kept bq _ _ hS0
      clear hK hg9 hal
      try simp only [Act.put,tka,tkb,tkc]
      generalize (wn26.alloc (.cells #[] 3))=wn30 at *
      clear hSa
      refine wpAnyH_ready (rs:=[3,12]) (by kernel_rfl) (by simp) ?_
      refine AllReadyH.cons (o:=⟨some 42,_,_,_,_,_⟩) rfl (fun K hK=>?_) (AllReadyH.cons (o:=⟨some 51,_,_,_,_,_⟩) rfl (fun K hK=>?_) AllReadyH.nil)
      ·skip
       go_simp
       have hal:Below wn30.heap.size wn30 (wn30.alloc (.cells #[] 112)):=by go_grown
       have hg9:w2.heap.size≤wn30.heap.size:=bq.size
       have qB:(wn30.alloc (.cells #[] 112)).ownsRow w2.heap.size 112 3 (.slice (some ⟨wn30.heap.size,0,none⟩) 0 0) 0 []:=by simpa using empty8 wn30 112 3 w2.heap.size hg9
       replace qI:=owns8 qI hal
       replace pX:=pX.below hal
       replace bq:=bel_trans bq hal
       refine hK.out _ (wn30.alloc (.cells #[] 112)) ?_ (fun hSa=>?_)
       ·exact cells_kept bq _ _ hS0
       clear hK hg9 hal
       try simp only [Act.put,tka,tkb,tkc]
       generalize (wn30.alloc (.cells #[] 112))=wn31 at *
       clear hSa
       refine tkr 12 51 (fun K hK=>?_)
       refine step_app9 rfl _ _ 40 rfl w2.heap.size 3 i1 (.int .i64 0) 1 8 Tryz.underlying40 hi1 hz10 hz11 hz12 rfl (by decide) (.slice (some ⟨wn26.heap.size,0,none⟩) 0 0) 0 [] rfl qI a2 fz.length fc9 rfl hno (fz.map (Value.int .i64)) (by rw [List.length_map,Nat.mul_one]) (fun ad ha=>by subst ha;exact newsI9 (hI2.below (bel_trans bd bq))) (one8 fz) (by unfold maxLen;omega) (by omega) bq.size ?_
       intro v5 wn32 hown hgrow _
       have qF:wn32.ownsRow w2.heap.size 3 1 v5 fz.length (fz.map (Value.int .i64)):=by simpa using hown
       obtain ⟨fa,fcc,rfl⟩:=slice8 qF
       replace qB:=qB.kept hgrow (owns_ne qB qI (by decide))
       replace pX:=pX.kept hgrow (own_ne_blk9' qI pX (by decide))
       replace bq:=bq.grown hgrow bq.size (fun g9 hg9=>(qI.lt g9 hg9).1)
       go_simp
       refine hK.out _ _ ?_ (fun hSa=>?_)
       ·exact cells_kept bq _ _ hS0
       clear hK hown hgrow hSa qI
       try simp only [Act.put,tka,tkb,tkc]
       have hSq:=cells_kept bq _ _ hS0
       refine tkv 13 52 (.agg #[.string kk,.slice (some ⟨wn30.heap.size,0,none⟩) 0 0,.slice fa fz.length fcc]) ?_
       clear hSq
       refine tkz 15 (fun K hK=>?_)
       refine step_store_boxR rfl 74 _ _ rfl (w2.drew.heap.size) [.string kk,.slice (some ⟨wn30.heap.size,0,none⟩) 0 0,.slice fa fz.length fcc] rfl rfl pX (by kernel_rfl) rfl rfl ?_
       intro w8 pX9 g9
       replace bq:=bq.grown g9 bq.size (fun x hx=>by cases hx;exact hgx)
       have qB9:=qB.kept g9 (.inr (own_ne_blk9' qB pX (by decide)))
       have qF9:=qF.kept g9 (.inr (own_ne_blk9' qF pX (by decide)))
       refine hK.out _ _ ?_ (fun hSb=>?_)
       ·exact cells_kept bq _ _ hS0
       clear hK
       try simp only [Act.put,tka,tkb,tkc]
       refine wpAnyH_done (by kernel_rfl) ?_ _
       go_wp2_with fail
       go_meet
       case rel=>exact CutR.mk9 (w2.drew.heap.size) (wn30.heap.size) fa fcc rfl hgx pX9.out qB9 qF9 (bel_trans bd bq)
      ·skip
       refine step_app9 rfl _ _ 40 rfl w2.heap.size 3 i1 (.int .i64 0) 1 8 Tryz.underlying40 hi1 hz10 hz11 hz12 rfl (by decide) (.slice (some ⟨wn26.heap.size,0,none⟩) 0 0) 0 [] rfl qI a2 fz.length fc9 rfl hno (fz.map (Value.int .i64)) (by rw [List.length_map,Nat.mul_one]) (fun ad ha=>by subst ha;exact newsI9 (hI2.below (bel_trans bd bq))) (one8 fz) (by unfold maxLen;omega) (by omega) bq.size ?_
       intro v5 wn33 hown hgrow _
       have qF:wn33.ownsRow w2.heap.size 3 1 v5 fz.length (fz.map (Value.int .i64)):=by simpa using hown
       obtain ⟨fa,fcc,rfl⟩:=slice8 qF
       replace pX:=pX.kept hgrow (own_ne_blk9' qI pX (by decide))
       replace bq:=bq.grown hgrow bq.size (fun g9 hg9=>(qI.lt g9 hg9).1)
       go_simp
       refine hK.out _ _ ?_ (fun hSa=>?_)
       ·exact cells_kept bq _ _ hS0
       clear hK hown hgrow hSa qI
       try simp only [Act.put,tka,tkb,tkc]
       refine tkr 3 42 (fun K hK=>?_)
       go_simp
       have hal:Below wn33.heap.size wn33 (wn33.alloc (.cells #[] 112)):=by go_grown
       have hg9:w2.heap.size≤wn33.heap.size:=bq.size
       have qB:(wn33.alloc (.cells #[] 112)).ownsRow w2.heap.size 112 3 (.slice (some ⟨wn33.heap.size,0,none⟩) 0 0) 0 []:=by simpa using empty8 wn33 112 3 w2.heap.size hg9
       replace qF:=owns8 qF hal
       replace pX:=pX.below hal
       replace bq:=bel_trans bq hal
       refine hK.out _ (wn33.alloc (.cells #[] 112)) ?_ (fun hSa=>?_)
       ·exact cells_kept bq _ _ hS0
       clear hK hg9 hal
       try simp only [Act.put,tka,tkb,tkc]
       generalize (wn33.alloc (.cells #[] 112))=wn34 at *
       clear hSa
       have hSq:=cells_kept bq _ _ hS0
       refine tkv 13 52 (.agg #[.string kk,.slice (some ⟨wn33.heap.size,0,none⟩) 0 0,.slice fa fz.length fcc]) ?_
       clear hSq
       refine tkz 15 (fun K hK=>?_)
       refine step_store_boxR rfl 74 _ _ rfl (w2.drew.heap.size) [.string kk,.slice (some ⟨wn33.heap.size,0,none⟩) 0 0,.slice fa fz.length fcc] rfl rfl pX (by kernel_rfl) rfl rfl ?_
       intro w8 pX9 g9
       replace bq:=bq.grown g9 bq.size (fun x hx=>by cases hx;exact hgx)
       have qB9:=qB.kept g9 (.inr (own_ne_blk9' qB pX (by decide)))
       have qF9:=qF.kept g9 (.inr (own_ne_blk9' qF pX (by decide)))
       refine hK.out _ _ ?_ (fun hSb=>?_)
       ·exact cells_kept bq _ _ hS0
       clear hK
       try simp only [Act.put,tka,tkb,tkc]
       refine wpAnyH_done (by kernel_rfl) ?_ _
       go_wp2_with fail
       go_meet
       case rel=>exact CutR.mk9 (w2.drew.heap.size) (wn33.heap.size) fa fcc rfl hgx pX9.out qB9 qF9 (bel_trans bd bq)
   obtain ⟨X,gb,fa,fc,rfl,hX,pX,qB,qF,bc⟩:=hcut
   rename World=>w3
   have pR3:=pR.below bc
   obtain ⟨B,hB1,hB2⟩:∃ B,w2.heap.size≤B∧B≤w2.heap.size:=⟨_,Nat.le_refl _,Nat.le_refl _⟩
   have eB:B=w2.heap.size:=by omega
   rw [← eB] at qB qF
   have hB3:B≤w3.heap.size:=by have:=bc.size;omega
   have hlo2:w.heap.size<B:=by omega
   clear eB
   replace bw:=bel8 bw bc
   replace HG:Hid (∀ i,i<m→w3.cell? ⟨g,3*i+1,none⟩=some (.int .i64 (r.getD i (0,0,0)).1)∧w3.cell? ⟨g,3*i+2,none⟩=some (.int .i64 (r.getD i (0,0,0)).2.1)∧w3.cell? ⟨g,3*i+3,none⟩=some (.int .i64 (r.getD i (0,0,0)).2.2)):=fun i hi=>⟨cell8 bc (HG.out i hi).1,cell8 bc (HG.out i hi).2.1,cell8 bc (HG.out i hi).2.2⟩
   have d3:=cell8 bc d0
   have hgB:g<B:=by omega
   have hgX:g<X:=by omega
   have hXw:w.heap.size<X:=by omega
   have hX3:B≤X:=by omega
   clear bc pR d0 hsk hsl hI2 hno
   go_wp2_with fail
   go_loopw [8] (fun s8 wr=>∃ (i:Nat) (ba:Option Addr) (bc:Nat),i≤m∧s8=.int .i64 i∧Blk wr X 74 [.string kk,.slice ba i bc,.slice fa fz.length fc]∧wr.ownsRow B 112 3 (.slice ba i bc) i (flat (r.take i))∧wr.ownsRow B 3 1 (.slice fa fz.length fc) fz.length (fz.map (Value.int .i64))∧Below B w3 wr) (fun s8 _=>m - (intOf s8).toNat)
   case atStart=>exact ⟨0,_,_,by omega,rfl,pX,by simpa [flat] using qB,qF,Below.refl _ _⟩
   case round =>
    clear pX qB qF
    obtain ⟨i,ba,bc,hi,rfl,pX,qB,qF,hbi⟩:=hrel
    have dm:wr.cell? ⟨g,0,none⟩=some (.int .i64 (m:Int)):=by rw [hbi.cell (p:=⟨g,_,none⟩) hgB];exact d3
    by_cases him:i<m
    ·have him2:(i:Int)<(m:Int):=by omega
     obtain ⟨d0,d1,d2⟩:=HG.out i him
     rw [← hbi.cell (p:=⟨g,_,none⟩) hgB] at d0 d1 d2
     have hst:Hid (flat (r.take (i+1))=flat (r.take i)++(r.getD i (0,0,0)).cells):=flat_take_succ (by omega)
     generalize r.getD i (0,0,0)=x at d0 d1 d2 hst
     obtain ⟨q,hq⟩:∃ q,q=3*i:=⟨_,rfl⟩
     rw [← hq] at d0 d1 d2
     have hw0:IntKind.i64.wrap (3*(i:Int))=(q:Int):=(IntWalk.i64_in _ ⟨by omega,by omega⟩).trans (by omega)
     have hq1:q+3<zl:=by omega
     have hw1:IntKind.i64.wrap (1+(q:Int))=((q+1:Nat):Int):=(IntWalk.i64_in _ ⟨by omega,by omega⟩).trans (by omega)
     have hw2:IntKind.i64.wrap (2+(q:Int))=((q+2:Nat):Int):=(IntWalk.i64_in _ ⟨by omega,by omega⟩).trans (by omega)
     have hw3':IntKind.i64.wrap (3+(q:Int))=((q+3:Nat):Int):=(IntWalk.i64_in _ ⟨by omega,by omega⟩).trans (by omega)
     have hp1:(((q+1:Nat):Int))<(zl:Int):=by omega
     have hp2:(((q+2:Nat):Int))<(zl:Int):=by omega
     have hp3:(((q+3:Nat):Int))<(zl:Int):=by omega
     clear hq
     generalize q+1=p1 at d0 hw1 hp1
     generalize q+2=p2 at d1 hw2 hp2
     generalize q+3=p3 at d2 hw3' hp3 hq1
     have hm1:i+1≤maxLen:=by unfold maxLen;omega
     have hm2:(i+1)*24≤140737488355328:=by omega
     have hbis:=hbi.size
     have y1:=pX.cell 1
     simp only [List.getElem?_cons_zero,List.getElem?_cons_succ] at y1
     go_wp2_with fail
     refine wp_region_held_drew (S:=(fun w'=>w'.cell? ⟨g,p1,none⟩=some (.int .i64 x.1)∧w'.cell? ⟨g,p2,none⟩=some (.int .i64 x.2.1)∧w'.cell? ⟨g,p3,none⟩=some (.int .i64 x.2.2))) (by kernel_rfl) ⟨d0,d1,d2⟩ (fun hS0=>?_)
     refine tkv 0 60 (.pointer (some ⟨X,1,none⟩)) ?_
     refine tkv 2 62 (.slice (some ⟨g,0,none⟩) zl uc) ?_
     refine tkv 3 63 (.int .i64 (i:Int)) ?_
     refine tkv 4 64 (.int .i64 (q:Int)) ?_
     refine tkv 5 65 (.int .i64 (p1:Int)) ?_
     refine tkv 6 66 (.pointer (some ⟨g,p1,none⟩)) ?_
     refine tkv 7 67 (.int .i64 x.1) ?_
     refine tkv 8 68 (.slice (some ⟨g,0,none⟩) zl uc) ?_
     refine tkv 9 69 (.int .i64 (i:Int)) ?_
     refine tkv 10 70 (.int .i64 (q:Int)) ?_
     refine tkv 11 71 (.int .i64 (p2:Int)) ?_
     refine tkv 12 72 (.pointer (some ⟨g,p2,none⟩)) ?_
     refine tkv 13 73 (.int .i64 x.2.1) ?_
     refine tkv 14 74 (.slice (some ⟨g,0,none⟩) zl uc) ?_
     refine tkv 15 75 (.int .i64 (i:Int)) ?_
     refine tkv 16 76 (.int .i64 (q:Int)) ?_
     refine tkv 17 77 (.int .i64 (p3:Int)) ?_
     refine tkv 18 78 (.pointer (some ⟨g,p3,none⟩)) ?_
     refine tkv 19 79 (.int .i64 x.2.2) ?_
     refine tkv 20 80 (.agg #[.int .i64 x.1,.int .i64 x.2.1,.int .i64 x.2.2]) ?_
     have hal:Below wr.drew.heap.size wr.drew (wr.alloc (.cells #[.int .i64 x.1,.int .i64 x.2.1,.int .i64 x.2.2] 112)).drew:=(show Below wr.drew.heap.size wr.drew (wr.drew.alloc (.cells #[.int .i64 x.1,.int .i64 x.2.1,.int .i64 x.2.2] 112)) by go_grown)
     have hA8:Below wr.heap.size wr (wr.alloc (.cells #[.int .i64 x.1,.int .i64 x.2.1,.int .i64 x.2.2] 112)).drew:=bel_trans (show Below wr.heap.size wr wr.drew by go_grown) hal
     have y2:=cells_kept hA8 _ _ y1
     refine wpAnyH_ready (rs:=[1,21]) (by kernel_rfl) (by simp) ?_
     refine AllReadyH.cons (o:=⟨some 61,_,_,_,_,_⟩) rfl (fun K hK=>?_) (AllReadyH.cons (o:=⟨some 81,_,_,_,_,_⟩) rfl (fun K hK=>?_) AllReadyH.nil)
     ·skip
      go_simp
      refine hK.out _ _ ?_ (fun hSl=>?_)
      ·exact hS0
      clear hK
      try simp only [Act.put,tka,tkb,tkc]
      refine tkr 21 81 (fun K hK=>?_)
      go_simp
      refine hK.out _ _ ?_ (fun hSa=>?_)
      ·exact ⟨cells_kept hal _ _ hS0.1,cells_kept hal _ _ hS0.2.1,cells_kept hal _ _ hS0.2.2⟩
      clear hK
      try simp only [Act.put,tka,tkb,tkc]
      have hA8B:Below B wr (wr.alloc (.cells #[.int .i64 x.1,.int .i64 x.2.1,.int .i64 x.2.2] 112)).drew:=hA8.mono (by omega)
      refine tkr 22 82 (fun K hK=>?_)
      refine step_append_mine rfl _ _ 72 rfl B 112 i0 (.agg #[.int .i64 0,.int .i64 0,.int .i64 0]) 3 24 Tryz.underlying72 hi0 hz00 hz01 hz02 rfl (by decide) _ i (flat (r.take i)) rfl (own_dr (qB.alloc _)) ⟨wr.heap.size,0,none⟩ 1 1 [.int .i64 x.1,.int .i64 x.2.1,.int .i64 x.2.2] rfl rfl (three_dr wr _ _ _ _) (three_i64 _ _ _) hm1 hm2 (by simp;omega) ?_
      intro v3 w5 hown3 hgrow3
      obtain ⟨va,vc,rfl⟩:=slice8 hown3
      have pX5:=(pX.below hA8).kept hgrow3 (own_ne_blk9' qB pX (by decide))
      have qF5:=(owns8 qF hA8).kept hgrow3 (owns_ne (owns8 qF hA8) (owns8 qB hA8) (by decide))
      have hg3B:Below B (wr.alloc (.cells #[.int .i64 x.1,.int .i64 x.2.1,.int .i64 x.2.2] 112)).drew w5:=Below.grown (Below.refl _ _) hgrow3 (by simp;omega) (fun g9 hg9=>(qB.lt g9 hg9).1)
      have c5:∀ p v,wr.cell? ⟨g,p,none⟩=some v→w5.cell? ⟨g,p,none⟩=some v:=fun p v h9=>by rw [hg3B.cell (p:=⟨g,p,none⟩) hgB];exact cells_kept hA8 _ _ h9
      have e0:=c5 _ _ d0
      have e1':=c5 _ _ d1
      have e2':=c5 _ _ d2
      go_simp
      refine hK.out _ _ ?_ (fun hS2=>?_)
      ·exact ⟨e0,e1',e2'⟩
      clear hK c5
      try simp only [Act.put,tka,tkb,tkc]
      refine tkv 23 83 (.pointer (some ⟨X,1,none⟩)) ?_
      have f5:=pX5.frozen 1
      have y5:=pX5.cell 1
      simp only [List.getElem?_cons_zero,List.getElem?_cons_succ] at y5
      have hSc:Below B w5 (w5.setCell ⟨X,1,none⟩ (.slice va (i+1) vc)):=(Below.refl B w5).setCell (p:=⟨X,1,none⟩) hX3 _
      have HS:Hid ((w5.setCell ⟨X,1,none⟩ (.slice va (i+1) vc)).cell? ⟨g,p1,none⟩=some (.int .i64 x.1)∧(w5.setCell ⟨X,1,none⟩ (.slice va (i+1) vc)).cell? ⟨g,p2,none⟩=some (.int .i64 x.2.1)∧(w5.setCell ⟨X,1,none⟩ (.slice va (i+1) vc)).cell? ⟨g,p3,none⟩=some (.int .i64 x.2.2)):=⟨by rw [hSc.cell (p:=⟨g,_,none⟩) hgB];exact e0,by rw [hSc.cell (p:=⟨g,_,none⟩) hgB];exact e1',by rw [hSc.cell (p:=⟨g,_,none⟩) hgB];exact e2'⟩
      clear e0 e1' e2'
      refine tkz 24 (fun K hK=>?_)
      go_simp
      refine hK.out _ _ ?_ (fun hS3=>?_)
      ·exact HS.out
      clear hK
      try simp only [Act.put,tka,tkb,tkc]
      refine wpAnyH_done (by kernel_rfl) ?_ _
      clear HS hS2 hS3 y5 f5 hal hSc hS0 y2
      have hr3:w5.ownsRow B 112 3 (.slice va (i+1) vc) (i+1) (flat (r.take (i+1))):=by rw [hst.out];exact hown3
      have hb5:Below B w3 w5:=bel_R hbi (bel_R hA8B hg3B)
      have hX5:=pX5.set 1 (.slice va (i+1) vc)
      simp only [List.set_cons_zero,List.set_cons_succ] at hX5
      have hr6:=setP9 (j:=1) hr3 pX5 (by decide) (.slice va (i+1) vc)
      have hf6:=setP9 (j:=1) qF5 pX5 (by decide) (.slice va (i+1) vc)
      have hb6:=hb5.setCell (p:=⟨X,1,none⟩) hX3 (.slice va (i+1) vc)
      clear hA8 hA8B hg3B hown3 hgrow3 d0 d1 d2 hw0 hw1 hw2 hw3' qB qF pX hst dm hr3 qF5 pX5 hb5 y1
      go_wp2
      go_roundw
      case rel=>exact ⟨i+1,_,_,by omega,by go_num,hX5,hr6,hf6,hb6⟩
      case measure=>simp [intOf];omega
     ·skip
      go_simp
      refine hK.out _ _ ?_ (fun hSa=>?_)
      ·exact ⟨cells_kept hal _ _ hS0.1,cells_kept hal _ _ hS0.2.1,cells_kept hal _ _ hS0.2.2⟩
      clear hK
      try simp only [Act.put,tka,tkb,tkc]
      refine tkr 1 61 (fun K hK=>?_)
      go_simp
      refine hK.out _ _ ?_ (fun hSl=>?_)
      ·exact hSa
      clear hK
      try simp only [Act.put,tka,tkb,tkc]
      have hA8B:Below B wr (wr.alloc (.cells #[.int .i64 x.1,.int .i64 x.2.1,.int .i64 x.2.2] 112)).drew:=hA8.mono (by omega)
      refine tkr 22 82 (fun K hK=>?_)
      refine step_append_mine rfl _ _ 72 rfl B 112 i0 (.agg #[.int .i64 0,.int .i64 0,.int .i64 0]) 3 24 Tryz.underlying72 hi0 hz00 hz01 hz02 rfl (by decide) _ i (flat (r.take i)) rfl (own_dr (qB.alloc _)) ⟨wr.heap.size,0,none⟩ 1 1 [.int .i64 x.1,.int .i64 x.2.1,.int .i64 x.2.2] rfl rfl (three_dr wr _ _ _ _) (three_i64 _ _ _) hm1 hm2 (by simp;omega) ?_
      intro v3 w5 hown3 hgrow3
      obtain ⟨va,vc,rfl⟩:=slice8 hown3
      have pX5:=(pX.below hA8).kept hgrow3 (own_ne_blk9' qB pX (by decide))
      have qF5:=(owns8 qF hA8).kept hgrow3 (owns_ne (owns8 qF hA8) (owns8 qB hA8) (by decide))
      have hg3B:Below B (wr.alloc (.cells #[.int .i64 x.1,.int .i64 x.2.1,.int .i64 x.2.2] 112)).drew w5:=Below.grown (Below.refl _ _) hgrow3 (by simp;omega) (fun g9 hg9=>(qB.lt g9 hg9).1)
      have c5:∀ p v,wr.cell? ⟨g,p,none⟩=some v→w5.cell? ⟨g,p,none⟩=some v:=fun p v h9=>by rw [hg3B.cell (p:=⟨g,p,none⟩) hgB];exact cells_kept hA8 _ _ h9
      have e0:=c5 _ _ d0
      have e1':=c5 _ _ d1
      have e2':=c5 _ _ d2
      go_simp
      refine hK.out _ _ ?_ (fun hS2=>?_)
      ·exact ⟨e0,e1',e2'⟩
      clear hK c5
      try simp only [Act.put,tka,tkb,tkc]
      refine tkv 23 83 (.pointer (some ⟨X,1,none⟩)) ?_
      have f5:=pX5.frozen 1
      have y5:=pX5.cell 1
      simp only [List.getElem?_cons_zero,List.getElem?_cons_succ] at y5
      have hSc:Below B w5 (w5.setCell ⟨X,1,none⟩ (.slice va (i+1) vc)):=(Below.refl B w5).setCell (p:=⟨X,1,none⟩) hX3 _
      have HS:Hid ((w5.setCell ⟨X,1,none⟩ (.slice va (i+1) vc)).cell? ⟨g,p1,none⟩=some (.int .i64 x.1)∧(w5.setCell ⟨X,1,none⟩ (.slice va (i+1) vc)).cell? ⟨g,p2,none⟩=some (.int .i64 x.2.1)∧(w5.setCell ⟨X,1,none⟩ (.slice va (i+1) vc)).cell? ⟨g,p3,none⟩=some (.int .i64 x.2.2)):=⟨by rw [hSc.cell (p:=⟨g,_,none⟩) hgB];exact e0,by rw [hSc.cell (p:=⟨g,_,none⟩) hgB];exact e1',by rw [hSc.cell (p:=⟨g,_,none⟩) hgB];exact e2'⟩
      clear e0 e1' e2'
      refine tkz 24 (fun K hK=>?_)
      go_simp
      refine hK.out _ _ ?_ (fun hS3=>?_)
      ·exact HS.out
      clear hK
      try simp only [Act.put,tka,tkb,tkc]
      refine wpAnyH_done (by kernel_rfl) ?_ _
      clear HS hS2 hS3 y5 f5 hal hSc hS0 y2
      have hr3:w5.ownsRow B 112 3 (.slice va (i+1) vc) (i+1) (flat (r.take (i+1))):=by rw [hst.out];exact hown3
      have hb5:Below B w3 w5:=bel_R hbi (bel_R hA8B hg3B)
      have hX5:=pX5.set 1 (.slice va (i+1) vc)
      simp only [List.set_cons_zero,List.set_cons_succ] at hX5
      have hr6:=setP9 (j:=1) hr3 pX5 (by decide) (.slice va (i+1) vc)
      have hf6:=setP9 (j:=1) qF5 pX5 (by decide) (.slice va (i+1) vc)
      have hb6:=hb5.setCell (p:=⟨X,1,none⟩) hX3 (.slice va (i+1) vc)
      clear hA8 hA8B hg3B hown3 hgrow3 d0 d1 d2 hw0 hw1 hw2 hw3' qB qF pX hst dm hr3 qF5 pX5 hb5 y1
      go_wp2
      go_roundw
      case rel=>exact ⟨i+1,_,_,by omega,by go_num,hX5,hr6,hf6,hb6⟩
      case measure=>simp [intOf];omega
    ·obtain rfl:i=m:=by omega
     rw [show r.take i=r by rw [← hrl,List.take_length]] at qB
     have him2:¬ (i:Int)<(i:Int):=by omega
     have hE:OwnE wr B (.slice ba i bc) (.slice fa fz.length fc) (kk,r,fz):=⟨by show wr.ownsRow B _ 3 _ r.length (flat r);rw [hrl];exact qB,qF⟩
     have bw9:Below w.heap.size w wr:=bw.trans (hbi.mono (by omega))
     have pR9:=pR3.belowB hbi (by omega)
     have kK:=fun W (hb:Below wr.heap.size wr W)=>specEntryOK_is (kk,r,fz) ((ba,i,bc),(fa,fz.length,fc)) W ((hE.mem (s:=((ba,i,bc),(fa,fz.length,fc))) hfz).below hb)
     unfold entV at kK
     simp only at kK
     have x0:=pX.cell 0
     have x1:=pX.cell 1
     have x2:=pX.cell 2
     simp only [List.getElem?_cons_zero,List.getElem?_cons_succ] at x0 x1 x2
     clear qB qF pR3 bw d3
     go_wp2_with fail
     clear x0 x1 x2 dm
     refine (kK _ (Below.refl _ _)).mono ?_
     rintro e w4 ⟨rfl,hb4⟩
     have bw:=bel8 bw9 hb4
     have pR:=pR9.below hb4
     replace pX:=pX.below hb4
     replace hE:=hE.below hb4
     clear hb4 kK bw9 pR9
     cases hok:entOk (kk,r,fz)
     ·have HN9:=HN.out (fun e he=>by have:=HQ.out e he;rw [hok] at this;cases this)
      replace HN:Hid (∀ W,RdGB t (.returned (.tuple #[.agg #[.string ⟨#[]⟩,.slice none 0 0,.slice none 0 0],.bool false])) W w.heap.size):=HN9
      clear HN9 HQ HR hE hok pX
      have r0:=pR.cell 0
      have r1:=pR.cell 1
      have r2:=pR.cell 2
      have fr0:=pR.frozen 0
      have fr1:=pR.frozen 1
      have fr2:=pR.frozen 2
      have pZ:=((pR.set 0 (.string ⟨#[]⟩)).set 1 (.slice none 0 0)).set 2 (.slice none 0 0)
      simp only [List.set_cons_zero,List.set_cons_succ] at pZ
      have z0:=pZ.cell 0
      have z1:=pZ.cell 1
      have z2:=pZ.cell 2
      simp only [List.getElem?_cons_zero,List.getElem?_cons_succ] at z0 z1 z2 r0 r1 r2
      have bz:=((bw.setCell (p:=⟨w.heap.size,0,none⟩) (Nat.le_refl _) (.string ⟨#[]⟩)).setCell (p:=⟨w.heap.size,1,none⟩) (Nat.le_refl _) (.slice none 0 0)).setCell (p:=⟨w.heap.size,2,none⟩) (Nat.le_refl _) (.slice none 0 0)
      clear pZ pR
      go_wp2
      refine bodyPost_ret (by simp [results,Tryz.results48,go_sem,z0,z1,z2];try rfl) rfl ?_
      first | exact ⟨HN.out _,bz⟩ | exact ⟨HN.out _,by go_grown⟩
     ·have hRd:=HR.out hok
      have x0:=pX.cell 0
      have x1:=pX.cell 1
      have x2:=pX.cell 2
      simp only [List.getElem?_cons_zero,List.getElem?_cons_succ] at x0 x1 x2
      have r0:=pR.cell 0
      have r1:=pR.cell 1
      have r2:=pR.cell 2
      have fr0:=pR.frozen 0
      have fr1:=pR.frozen 1
      have fr2:=pR.frozen 2
      have pZ:=((pR.set 0 (.string kk)).set 1 (.slice ba i bc)).set 2 (.slice fa fz.length fc)
      simp only [List.set_cons_zero,List.set_cons_succ] at pZ
      have z0:=pZ.cell 0
      have z1:=pZ.cell 1
      have z2:=pZ.cell 2
      simp only [List.getElem?_cons_zero,List.getElem?_cons_succ] at z0 z1 z2 r0 r1 r2
      have bz:=((bw.setCell (p:=⟨w.heap.size,0,none⟩) (Nat.le_refl _) (.string kk)).setCell (p:=⟨w.heap.size,1,none⟩) (Nat.le_refl _) (.slice ba i bc)).setCell (p:=⟨w.heap.size,2,none⟩) (Nat.le_refl _) (.slice fa fz.length fc)
      have hE9:=(((hE.low (p:=⟨w.heap.size,0,none⟩) hlo2 (.string kk)).low (p:=⟨w.heap.size,1,none⟩) hlo2 (.slice ba i bc)).low (p:=⟨w.heap.size,2,none⟩) hlo2 (.slice fa fz.length fc)).lower (Nat.le_of_lt hlo2)
      have HE:Hid (RdGB t (.returned (.tuple #[entV kk ((ba,i,bc),(fa,fz.length,fc)),.bool true])) (((w4.setCell ⟨w.heap.size,0,none⟩ (.string kk)).setCell ⟨w.heap.size,1,none⟩ (.slice ba i bc)).setCell ⟨w.heap.size,2,none⟩ (.slice fa fz.length fc)) w.heap.size):=.inl ⟨(kk,r,fz),((ba,i,bc),(fa,fz.length,fc)),hRd,rfl,hE9⟩
      clear hE hE9 pZ pR pX hRd HR HQ hok
      go_wp2
      refine bodyPost_ret (by simp [results,Tryz.results48,go_sem,z0,z1,z2];try rfl) rfl ?_
      exact ⟨HE.out,bz⟩
  ·have hgt:(zl:Int)<1+3*(m:Int):=by omega
   have HN9:=HN.out (fun e he=>by have:=(HQ.out e he).1.2;omega)
   replace HN:Hid (∀ W,RdGB t (.returned (.tuple #[.agg #[.string ⟨#[]⟩,.slice none 0 0,.slice none 0 0],.bool false])) W w.heap.size):=HN9
   clear HN9 HR HQ hOw hL hfz hm hlen hI0 HC hzl
   have r0:=pR.cell 0
   have r1:=pR.cell 1
   have r2:=pR.cell 2
   have fr0:=pR.frozen 0
   have fr1:=pR.frozen 1
   have fr2:=pR.frozen 2
   have pZ:=((pR.set 0 (.string ⟨#[]⟩)).set 1 (.slice none 0 0)).set 2 (.slice none 0 0)
   simp only [List.set_cons_zero,List.set_cons_succ] at pZ
   have z0:=pZ.cell 0
   have z1:=pZ.cell 1
   have z2:=pZ.cell 2
   simp only [List.getElem?_cons_zero,List.getElem?_cons_succ] at z0 z1 z2 r0 r1 r2
   have bz:=((bw.setCell (p:=⟨w.heap.size,0,none⟩) (Nat.le_refl _) (.string ⟨#[]⟩)).setCell (p:=⟨w.heap.size,1,none⟩) (Nat.le_refl _) (.slice none 0 0)).setCell (p:=⟨w.heap.size,2,none⟩) (Nat.le_refl _) (.slice none 0 0)
   clear pZ pR
   go_wp2
   refine bodyPost_ret (by simp [results,Tryz.results48,go_sem,z0,z1,z2];try rfl) rfl ?_
   first | exact ⟨HN.out _,bz⟩ | exact ⟨HN.out _,by go_grown⟩
 ·have HN9:=HN.out (fun e he=>by
   obtain ⟨_,_,ys,g1,_⟩:=he
   exact hNL ys g1)
  replace HN:Hid (∀ W,RdGB t (.returned (.tuple #[.agg #[.string ⟨#[]⟩,.slice none 0 0,.slice none 0 0],.bool false])) W w.heap.size):=HN9
  clear HN9 hNL
  have r0:=pR.cell 0
  have r1:=pR.cell 1
  have r2:=pR.cell 2
  have fr0:=pR.frozen 0
  have fr1:=pR.frozen 1
  have fr2:=pR.frozen 2
  have pZ:=((pR.set 0 (.string ⟨#[]⟩)).set 1 (.slice none 0 0)).set 2 (.slice none 0 0)
  simp only [List.set_cons_zero,List.set_cons_succ] at pZ
  have z0:=pZ.cell 0
  have z1:=pZ.cell 1
  have z2:=pZ.cell 2
  simp only [List.getElem?_cons_zero,List.getElem?_cons_succ] at z0 z1 z2 r0 r1 r2
  have bz:=((bw.setCell (p:=⟨w.heap.size,0,none⟩) (Nat.le_refl _) (.string ⟨#[]⟩)).setCell (p:=⟨w.heap.size,1,none⟩) (Nat.le_refl _) (.slice none 0 0)).setCell (p:=⟨w.heap.size,2,none⟩) (Nat.le_refl _) (.slice none 0 0)
  clear pZ pR
  go_wp2
  refine bodyPost_ret (by simp [results,Tryz.results48,go_sem,z0,z1,z2];try rfl) rfl ?_
  first | exact ⟨HN.out _,bz⟩ | exact ⟨HN.out _,by go_grown⟩
end Go.Proofs.YtdopgkbegjfhjaaGreatDoor
