/-
  Joined: PthS, WosS.
-/
import Derived.Test.YtifoggpohlegmaaGreatDoorW37

namespace Go.Proofs.YtifoggpohlegmaaGreatDoor
set_option maxRecDepth 100000
set_option maxHeartbeats 16000000
open Go.RowKit
set_option linter.unusedVariables false
set_option linter.unusedSimpArgs false

theorem own_one6 (W:World) (e B:Nat) (v:Value) (hB:B≤W.heap.size):(W.alloc (.cells #[v] e)).ownsRow B e 1 (.slice (some ⟨W.heap.size,0,none⟩) 1 1) 1 [v]:=World.ownsRow_lit W #[v] 1 hB (by unfold maxLen;omega) (by simp)
theorem ints_cell6 {w:World} {lb lo n c:Nat} {ks:List Int} (h:Ints .i64 w (some ⟨lb,lo,none⟩) n c ks) {j:Nat} (hj:j<n):w.cell? ⟨lb,lo+j,none⟩=some (.int .i64 (ks.getD j 0)):=by
 obtain ⟨h1,h2,h3,h4⟩:=h
 rcases h4 with h4 | ⟨b,off,ha,hl,hc⟩
 ·omega
 ·cases ha
  have:=hc j hj
  first | (simp at this ⊢;exact this) | simp
theorem own_news6 {w:World} {B g n c:Nat} {ks:List Int} (h:w.ownsRow B 3 1 (.slice (some ⟨g,0,none⟩) n c) n (ks.map (Value.int .i64))):∀ j u,(ks.map (Value.int .i64))[j]?=some u→w.cell? ((⟨g,0,none⟩:Addr).add j)=some u:=by
 intro j u hj
 obtain ⟨hj1,e⟩:=List.getElem?_eq_some_iff.1 hj
 have hl:ks.length=n:=by have:=h.1;simpa using this
 have hjn:j<n:=by simp at hj1;omega
 have hc:=ints_cell6 (Ints.of_owns h) hjn
 rw [Addr.add_mid,hc,← e]
 simp [List.getD,List.getElem?_eq_getElem (show j<ks.length by omega)]

theorem l06Path_is (b1 o1 b2 o2 n c1 c2:Nat) (fs bs:List Int) (i:Nat) (w:World) (h1:Ints .i64 w (some ⟨b1,o1,none⟩) n c1 fs) (h2:Ints .i64 w (some ⟨b2,o2,none⟩) n c2 bs) (hB:Back fs) (hi:i<n) (hn:n≤1000000) :
  Calls Tryz.prog 86 #[.slice (some ⟨b1,o1,none⟩) n c1,.slice (some ⟨b2,o2,none⟩) n c2,.int .i64 i] w fun e w'=>(∃ g c,e=.returned (.slice (some ⟨g,0,none⟩) (pathL fs bs i i).length c)∧w'.ownsRow w.heap.size 3 1 (.slice (some ⟨g,0,none⟩) (pathL fs bs i i).length c) (pathL fs bs i i).length ((pathL fs bs i i).map (Value.int .i64)))∧Below w.heap.size w w':=by
 obtain ⟨i0,hi0,hz0,hz1,hz2⟩:=info_parts info_int
 have hl1:fs.length=n:=h1.1
 obtain ⟨fin,hfin⟩:∃ fin,fin=pathL fs bs i i:=⟨_,rfl⟩
 rw [← hfin]
 have HF:Hid (fin=pathL fs bs i i++[]):=by rw [List.append_nil];exact hfin
 have HB:Hid (Back fs):=hB
 have HL:Hid (fs.length=n):=hl1
 have bw:Below w.heap.size w (w.alloc (.cells #[] 3)):=by go_grown
 have q:=own_emptyB w 3 1 w.heap.size (Nat.le_refl _)
 clear hfin hB hl1
 go_enter Tryz.func86,Tryz.ntmps86
 go_wp2_with fail
 go_loopw [2,7] (fun s2 s7 wr=>∃ (j g c:Nat) (ks:List Int),s2=.int .i64 j∧s7=.slice (some ⟨g,0,none⟩) ks.length c∧j+ks.length<n∧wr.ownsRow w.heap.size 3 1 (.slice (some ⟨g,0,none⟩) ks.length c) ks.length (ks.map (Value.int .i64))∧Hid (fin=pathL fs bs j j++ks)∧Below w.heap.size w wr) (fun s2 _ _=>(intOf s2).toNat)
 case atStart=>exact ⟨i,w.heap.size,0,[],rfl,rfl,by simpa using hi,q,HF,bw⟩
 case round =>
  clear HF bw q
  obtain ⟨j,g,c,ks,rfl,rfl,hj,q,HF,bw⟩:=hrel
  have h1w:=h1.below bw
  have h2w:=h2.below bw
  by_cases h0:0<j
  ·have h0':(0:Int)<(j:Int):=by omega
   have h0n:(0:Int)≤(j:Int):=by omega
   have hjn:j<n:=by omega
   have hjn':(j:Int)<(n:Int):=by omega
   have c2:=ints_cell6 h2w hjn
   have hst:=pathL_step (bs:=bs) HB.out h0 (by rw [HL.out];omega)
   have hbk:=HB.out j h0 (by rw [HL.out];omega)
   obtain ⟨f,hf⟩:∃ f:Nat,fs.getD j 0=(f:Int):=⟨(fs.getD j 0).toNat,by omega⟩
   have hfj:f<j:=by omega
   have HS:Hid (pathL fs bs j j=pathL fs bs f f++[bs.getD j 0]):=by rw [hf] at hst;exact hst
   clear hst hbk
   obtain ⟨x,hx⟩:∃ x,x=bs.getD j 0:=⟨_,rfl⟩
   rw [← hx] at c2 HS
   clear hx
   have hbs:=bw.size
   have q1:=own_one6 wr 3 w.heap.size (.int .i64 x) hbs
   have hne:=own_news6 (q.alloc (.cells #[.int .i64 x] 3))
   have ba:Below w.heap.size w (wr.alloc (.cells #[.int .i64 x] 3)):=bw.trans (by go_grown)
   go_wp2_with (at_builtin;refine wpList_append_own _ rfl _ _ 27 rfl w.heap.size 3 i0 (.int .i64 0) 1 8 Tryz.underlying27 hi0 hz0 hz1 hz2 rfl (by decide) _ _ _ rfl q1 ⟨g,0,none⟩ ks.length c (ks.map (Value.int .i64)) rfl (by simp) hne (by intro u hu;obtain ⟨x,_,rfl⟩:=List.mem_map.1 hu;rfl) ?c3 ?c4 ?c5 ?_)
   case c3=>unfold maxLen;omega
   case c4=>omega
   case c5=>exact ba.size
   intro v' wn hown' hgrow hx9
   clear hx9
   have R:wn.ownsRow w.heap.size 3 1 v' (x::ks).length ((x::ks).map (Value.int .i64)):=by
    rw [List.length_cons,Nat.add_comm]
    simpa using hown'
   have bn:Below w.heap.size w wn:=ba.grown hgrow ba.size (fun k e=>(q1.lt k e).1)
   obtain ⟨g2,c2',rfl⟩:∃ g2 c2',v'=.slice (some ⟨g2,0,none⟩) (x::ks).length c2':=by
    rcases R.2 with ⟨_,h9⟩ | ⟨g9,c9,_,h9,_⟩
    ·simp at h9
    ·exact ⟨g9,c9,h9⟩
   have c1':=ints_cell6 (h1.below bn) hjn
   rw [hf] at c1'
   have HE:Hid (fin=pathL fs bs f f++(x::ks)):=by rw [Hid,HF.out,HS.out];simp
   clear hown' hgrow q1 q hne ba bw HF HS c2 h1w h2w hf hbs
   have hlen:f+(x::ks).length<n:=by simp;omega
   generalize hks:x::ks=ks2 at *
   clear hks
   go_wp2
   go_roundw
   case rel=>exact ⟨f,g2,c2',ks2,rfl,rfl,hlen,R,HE,bn⟩
   case measure=>simp [intOf];omega
  ·obtain rfl:j=0:=by omega
   have HE:fin=ks:=by rw [HF.out];simp [pathL]
   clear HF
   subst HE
   have HR:Hid (wr.ownsRow w.heap.size 3 1 (.slice (some ⟨g,0,none⟩) fin.length c) fin.length (fin.map (Value.int .i64))):=q
   clear q
   go_wp2
   go_ret
   exact ⟨⟨g,c,rfl,HR.out⟩,bw⟩


theorem witF_same {S:List (Rec6 V4)} {h1 h2:V4→Option (List Int)} (h:∀ m,h1 m=h2 m):∀ (rs:List (Rec6 V4)) (i:Nat),witF S h1 i rs=witF S h2 i rs
 | [],_=>rfl
 | r::rs,i=>by
  show (match h1 r.1 with | some t=>some (pathS S i i++t) | none=>witF S h1 (i+1) rs)=(match h2 r.1 with | some t=>some (pathS S i i++t) | none=>witF S h2 (i+1) rs)
  rw [h,witF_same h rs (i+1)]
theorem okB_dead {b:I3} (h:okB b=true):b.1=14→b=(14,0,0):=fun e=>by
 obtain ⟨c,x,y⟩:=b
 simp only at e
 subst e
 unfold okB at h
 simp at h
 obtain ⟨rfl,rfl⟩:=h
 rfl
theorem find_hit {f:Int→Bool} {ks:List Int} {j:Nat} {k:Int} (h:ks[j]?=some k) (hf:f k=true):(ks.drop j).find? f=some k:=by
 have hl:=(List.getElem?_eq_some_iff.1 h).1
 rw [List.drop_eq_getElem_cons hl,(List.getElem?_eq_some_iff.1 h).2,List.find?_cons,hf]
theorem find_miss {f:Int→Bool} {ks:List Int} {j:Nat} {k:Int} (h:ks[j]?=some k) (hf:f k=false):(ks.drop j).find? f=(ks.drop (j+1)).find? f:=by
 have hl:=(List.getElem?_eq_some_iff.1 h).1
 rw [List.drop_eq_getElem_cons hl,(List.getElem?_eq_some_iff.1 h).2,List.find?_cons,hf]
theorem own_ints6 {w:World} {B:Nat} {v:Value} {zs:List Int} (h:w.ownsRow B 3 1 v zs.length (zs.map (Value.int .i64))) (hn:0<zs.length):∃ g c,v=.slice (some ⟨g,0,none⟩) zs.length c∧Ints .i64 w (some ⟨g,0,none⟩) zs.length c zs:=by
 obtain ⟨g,c,rfl,_,_⟩:=own_some6 h hn
 exact ⟨g,c,rfl,Ints.of_owns h⟩

theorem specWitnessOf_is (a:Option Addr) (len cap:Nat) (rows:List (List I3)) (b:I3) (w:World) (hC:Codes w a len cap rows) :
  Calls Tryz.prog 37 #[.agg #[.slice a len cap],b.val] w fun e w'=>WofGot e w' w.heap.size (wofL rows b) (wofC rows b)∧Below w.heap.size w w':=by
 obtain ⟨b0,b1,b2⟩:=b
 have kO:=fun (W:World) (b:Below w.heap.size w W)=>specProgramOK_is a len cap rows W (hC.below b)
 have kB:=specBugOK_is (b0,b1,b2)
 unfold I3.val at *
 simp only at kB ⊢
 have bw:Below w.heap.size w ((w.alloc (.cells #[.slice a len cap] 25)).alloc (.cells #[.int .i64 b0,.int .i64 b1,.int .i64 b2] 64)):=by go_grown
 have pP:Blk ((w.alloc (.cells #[.slice a len cap] 25)).alloc (.cells #[.int .i64 b0,.int .i64 b1,.int .i64 b2] 64)) w.heap.size 25 [.slice a len cap]:=blkOld _ (blkAt _ _ _ rfl)
 have pB:Blk ((w.alloc (.cells #[.slice a len cap] 25)).alloc (.cells #[.int .i64 b0,.int .i64 b1,.int .i64 b2] 64)) (w.heap.size+1) 64 [.int .i64 b0,.int .i64 b1,.int .i64 b2]:=blkAt _ _ _ (by simp)
 obtain ⟨rl,hrl⟩:∃ rl,rl=wofL rows (b0,b1,b2):=⟨_,rfl⟩
 obtain ⟨rc,hrc⟩:∃ rc,rc=wofC rows (b0,b1,b2):=⟨_,rfl⟩
 rw [← hrl,← hrc]
 have HV:Hid (rl=if okB (b0,b1,b2)=true∧codeF rows=0 then (witO rows (b0,b1,b2)).getD [] else []):=hrl
 have HC:Hid (rc=if okB (b0,b1,b2)=true then (if codeF rows=0 then wofK (witO rows (b0,b1,b2)) else codeF rows) else 1):=hrc
 clear hrl hrc
 obtain ⟨i0,hi9,hz0,hz1,hz2⟩:=info_parts info_int
 go_enter Tryz.func37,Tryz.ntmps37
 go_wp2_with fail
 generalize ((w.alloc (.cells #[.slice a len cap] 25)).alloc (.cells #[.int .i64 b0,.int .i64 b1,.int .i64 b2] 64))=U at *
 have kOx:=kO U bw
 clear kO
 go_wp2_with (first | refine wpList_load_blk rfl 25 _ rfl w.heap.size rfl pP _ Tryz.underlying25 rfl (by kernel_rfl) ?_ | refine wpList_load_blk rfl 64 _ rfl (w.heap.size+1) rfl pB _ Tryz.underlying64 rfl (by kernel_rfl) ?_)
 refine kOx.mono ?_
 rintro e w1 ⟨rfl,hb⟩
 replace bw:=bel_trans bw hb
 replace pP:=pP.below hb
 replace pB:=pB.below hb
 clear hb kOx
 cases hp:progOk rows
 ·have e1:codeF rows=1:=by unfold codeF;rw [hp];rfl
  have HE:Hid (rl=[]∧rc=1):=⟨by rw [HV.out,if_neg (fun h=>by rw [e1] at h;simp at h)],by rw [HC.out,e1];split<;>rfl⟩
  clear e1 HV HC kB pP pB
  have HG:Hid (WofGot (.returned (.tuple #[.slice (some ⟨w1.heap.size,0,none⟩) 0 0,.int .i64 1])) (w1.alloc (.cells #[] 3)) w.heap.size rl rc):=by
   rw [HE.out.1,HE.out.2]
   exact ⟨_,rfl,own_emptyB w1 3 1 w.heap.size bw.size⟩
  have bz:Below w.heap.size w (w1.alloc (.cells #[] 3)):=bel_trans bw (by go_grown)
  go_wp2
  refine bodyPost_ret (by simp [results,Tryz.results37,go_sem];try rfl) rfl ?_
  exact ⟨HG.out,bz⟩
 ·have kBx:=kB w1
  clear kB
  have e0:w1.cell? ⟨w.heap.size+1,0,none⟩=some (.int .i64 b0):=by simpa using pB.cell 0
  have e1:w1.cell? ⟨w.heap.size+1,1,none⟩=some (.int .i64 b1):=by simpa using pB.cell 1
  have e2:w1.cell? ⟨w.heap.size+1,2,none⟩=some (.int .i64 b2):=by simpa using pB.cell 2
  go_wp2_with fail
  refine kBx.mono ?_
  rintro e w2 ⟨rfl,hb⟩
  replace bw:=bel_trans bw hb
  replace pP:=pP.below hb
  replace pB:=pB.below hb
  clear hb kBx e0 e1 e2
  cases hok:okB (b0,b1,b2)
  ·have HE:Hid (rl=[]∧rc=1):=⟨by rw [HV.out,if_neg (fun h=>by rw [hok] at h;simp at h)],by rw [HC.out,hok];rfl⟩
   clear HV HC hok pP pB
   have HG:Hid (WofGot (.returned (.tuple #[.slice (some ⟨w2.heap.size,0,none⟩) 0 0,.int .i64 1])) (w2.alloc (.cells #[] 3)) w.heap.size rl rc):=by
    rw [HE.out.1,HE.out.2]
    exact ⟨_,rfl,own_emptyB w2 3 1 w.heap.size bw.size⟩
   have bz:Below w.heap.size w (w2.alloc (.cells #[] 3)):=bel_trans bw (by go_grown)
   go_wp2
   refine bodyPost_ret (by simp [results,Tryz.results37,go_sem];try rfl) rfl ?_
   exact ⟨HG.out,bz⟩
  ·obtain ⟨hl3,cs,hR⟩:=hC.rowsAt hp
   subst hl3
   have kS:=l06States_is (cap:=cap) (hR.below bw) hp
   go_wp2_with (first | refine wpList_load_blk rfl 25 _ rfl w.heap.size rfl pP _ Tryz.underlying25 rfl (by kernel_rfl) ?_ | refine wpList_load_blk rfl 64 _ rfl (w.heap.size+1) rfl pB _ Tryz.underlying64 rfl (by kernel_rfl) ?_)
   refine kS.mono ?_
   rintro e wk ⟨⟨v1,v2,v3,ts,fs,bs,rfl,hT,hF⟩,hb⟩
   have hbB:=bw.size
   replace bw:=bel_trans bw hb
   replace pP:=pP.below hb
   replace pB:=pB.below hb
   clear hb kS
   by_cases hf:(fullS rows).length≤2000
   ·obtain ⟨rfl,rfl,rfl⟩:=hF hf
    have hd:decide ((fullS rows).length≤2000)=true:=decide_eq_true hf
    have e1:codeF rows=0:=by unfold codeF;rw [hp,if_pos rfl,if_pos hf]
    have hpos:0<(fullS rows).length:=(List.getElem?_eq_some_iff.1 (fullS_head rows)).1
    have hSh:=fullS_shaped hp
    have hCm:=fullS_came rows
    obtain ⟨ans,hans⟩:∃ ans,ans=witO rows (b0,b1,b2):=⟨_,rfl⟩
    have HE:Hid (rl=ans.getD []∧rc=wofK ans):=⟨by rw [HV.out,if_pos ⟨hok,e1⟩,hans],by rw [HC.out,hok,if_pos rfl,if_pos e1,hans]⟩
    have HA:Hid (witF (fullS rows) (hitS rows (b0,b1,b2)) 0 ((fullS rows).drop 0)=ans):=by
     rw [hans]
     unfold witO
     rw [List.drop_zero]
     exact witF_same (fun m=>hit_same (okB_dead hok) m) _ _
    obtain ⟨gk,ck,rfl,hgc,_⟩:=own_some6 hT.ks (by rw [keysL_len];exact hpos)
    obtain ⟨gf,cf,rfl,hIf⟩:=own_ints6 hT.fr (by rw [fromL_len];exact hpos)
    obtain ⟨gy,cy,rfl,hIy⟩:=own_ints6 hT.bw (by rw [byL_len];exact hpos)
    have hks:=own_lower hT.ks hbB
    clear hF hT e1 HV HC hgc hans hok
    generalize fullS rows=S at *
    have HPt:Hid (∀ i,i<S.length→pathL (fromL S) (byL S) i i=pathS S i i):=fun i hi=>pathL_eq hCm i i (Nat.le_refl _) hi
    have HBk:Hid (Back (fromL S)):=back_of hCm
    have KL:Hid ((keysL S).length=S.length):=keysL_len S
    have FL:Hid ((fromL S).length=S.length):=fromL_len S
    have BL:Hid ((byL S).length=S.length):=byL_len S
    have hn2:(keysL S).length≤2000:=by rw [KL.out];exact hf
    have hS2:S.length≤2000:=hf
    rw [FL.out] at hIf
    rw [BL.out] at hIy
    clear hf hpos hCm
    rw [FL.out,BL.out]
    go_wp2_with fail
    go_loopw [10] (fun s10 wr=>∃ i:Nat,s10=.int .i64 i∧i≤S.length∧Hid (witF S (hitS rows (b0,b1,b2)) i (S.drop i)=ans)∧Below wk.heap.size wk wr) (fun s10 _=>S.length - (intOf s10).toNat)
    case atStart=>exact ⟨0,rfl,Nat.zero_le _,HA,Below.refl _ _⟩
    case round =>
     clear HA
     obtain ⟨i,rfl,hil,HA,bq⟩:=hrel
     by_cases hlt:i<S.length
     ·obtain ⟨r,hr⟩:∃ r,S[i]?=some r:=⟨S[i],List.getElem?_eq_getElem hlt⟩
      have hs:shapeOk r.1=true:=hSh _ (List.mem_of_getElem? hr)
      have hkm:(keysL S)[i]?=some (keyT r.1):=by unfold keysL;rw [List.getElem?_map,hr];rfl
      have hc:=cells_kept bq _ _ (str_cell6 hks (by rw [KL.out];exact hlt) hkm)
      have hlt1:(i:Int)<((keysL S).length:Int):=by rw [KL.out];omega
      have hi0:(0:Int)≤(i:Int):=by omega
      have kO:=l03Of_back hs wr
      have bw1:=bel_trans bw bq
      have pP1:=pP.below bq
      have pB1:=pB.below bq
      clear hkm
      go_wp2_with fail
      refine kO.mono ?_
      rintro e w3 ⟨⟨⟨⟨t0a,t0n,t0c⟩,⟨t1a,t1n,t1c⟩,⟨t2a,t2n,t2c⟩,⟨t3a,t3n,t3c⟩⟩,rfl,hV⟩,hb⟩
      have ut:S4.val ((t0a,t0n,t0c),(t1a,t1n,t1c),(t2a,t2n,t2c),(t3a,t3n,t3c))=.agg #[.slice t0a t0n t0c,.slice t1a t1n t1c,.slice t2a t2n t2c,.slice t3a t3n t3c]:=rfl
      rw [ut]
      replace bw1:=bel_trans bw1 hb
      replace pP1:=pP1.below hb
      replace pB1:=pB1.below hb
      replace bq:=bel_trans bq hb
      clear hb kO hc
      have pN:=Blk.new w3 33 [.slice none 0 0,.slice none 0 0,.slice none 0 0,.slice none 0 0]
      have hbN:Below w3.heap.size w3 (w3.alloc (.cells #[.slice none 0 0,.slice none 0 0,.slice none 0 0,.slice none 0 0] 33)):=by go_grown
      go_wp2_with (refine wpList_store_blk rfl 33 _ _ rfl w3.heap.size [.slice t0a t0n t0c,.slice t1a t1n t1c,.slice t2a t2n t2c,.slice t3a t3n t3c] rfl rfl pN (by kernel_rfl) rfl rfl ?_)
      intro w4 pS4 g4
      have pS:=pS4.out
      have hb4:Below w3.heap.size w3 w4:=hbN.grown g4 hbN.size (fun k e=>by cases e;exact Nat.le_refl _)
      replace bw1:=bel_trans bw1 hb4
      replace pP1:=pP1.below hb4
      replace pB1:=pB1.below hb4
      replace bq:=bel_trans bq hb4
      replace hV:=hV.below hb4
      clear pS4 g4 hbN pN hb4
      generalize w3.heap.size=X at *
      have fm:=(shape_fits9 hs).1
      have q0:w4.cell? ⟨w.heap.size+1,0,none⟩=some (.int .i64 b0):=by simpa using pB1.cell 0
      have hiF:i<(fromL S).length:=by rw [FL.out];exact hlt
      have kPa:=fun (W:World) (b:Below wk.heap.size wk W)=>l06Path_is gf 0 gy 0 S.length cf cy (fromL S) (byL S) i W (hIf.below b) (hIy.below b) HBk.out hlt (by omega)
      rw [HPt.out i hlt] at kPa
      by_cases h14:b0=14
      ·subst h14
       have kU:=l03Stuck_is a 3 cap rows ((t0a,t0n,t0c),(t1a,t1n,t1c),(t2a,t2n,t2c),(t3a,t3n,t3c)) r.1 cs w4 rfl (hR.below bw1) (hV.mem fm) hp hs
       rw [ut] at kU
       have f9:w4.cell? ⟨w.heap.size,0,none⟩=some (.slice a 3 cap):=by simpa using pP1.cell 0
       have f0:w4.cell? ⟨X,0,none⟩=some (.slice t0a t0n t0c):=by simpa using pS.cell 0
       have f1:w4.cell? ⟨X,1,none⟩=some (.slice t1a t1n t1c):=by simpa using pS.cell 1
       have f2:w4.cell? ⟨X,2,none⟩=some (.slice t2a t2n t2c):=by simpa using pS.cell 2
       have f3:w4.cell? ⟨X,3,none⟩=some (.slice t3a t3n t3c):=by simpa using pS.cell 3
       go_wp2_with fail
       refine kU.mono ?_
       rintro e w5 ⟨rfl,hb⟩
       replace bw1:=bel_trans bw1 hb
       replace pP1:=pP1.below hb
       replace pB1:=pB1.below hb
       replace bq:=bel_trans bq hb
       replace hV:=hV.below hb
       replace pS:=pS.below hb
       clear hb kU q0 f9 f0 f1 f2 f3
       cases hst:stuckM rows r.1
       ·have hm:hitS rows (14,b1,b2) r.1=none:=by
         unfold hitS
         rw [hst]
         rfl
        have HA2:Hid (witF S (hitS rows (14,b1,b2)) (i+1) (S.drop (i+1))=ans):=by rw [Hid,← witF_miss hr hm];exact HA.out
        have kE:=l03Enabled_is a 3 cap rows ((t0a,t0n,t0c),(t1a,t1n,t1c),(t2a,t2n,t2c),(t3a,t3n,t3c)) r.1 cs w5 rfl (hR.below bw1) (hV.mem fm) hp hs
        rw [ut] at kE
        clear HA hm hst kPa
        go_wp2_with (first | refine wpList_load_blk rfl 25 _ rfl w.heap.size rfl pP1 _ Tryz.underlying25 rfl (by kernel_rfl) ?_ | refine wpList_load_blk rfl 33 _ rfl X rfl pS _ Tryz.underlying33 rfl (by kernel_rfl) ?_)
        refine kE.mono ?_
        rintro e w6 ⟨⟨⟨la,ln,lc⟩,rfl,hL⟩,hb⟩
        replace bq:=bel_trans bq hb
        have q0:w6.cell? ⟨w.heap.size+1,0,none⟩=some (.int .i64 14):=by simpa using (pB1.below hb).cell 0
        clear kE hb hL pP1 pB1 pS hV bw1
        go_wp2_with fail
        go_loopw [14] (fun s14 wq=>s14=.int .i64 0∧w6=wq) (fun _ _=>0)
        case atStart=>exact ⟨rfl,rfl⟩
        case round =>
         obtain ⟨rfl,rfl⟩:=hrel
         by_cases hl0:(0:Int)<(ln:Int)
         ·go_wp2
          go_roundw
          case rel=>exact ⟨i+1,by go_num,by omega,HA2,bq⟩
          case measure=>simp [intOf];omega
         ·go_wp2
          go_roundw
          case rel=>exact ⟨i+1,by go_num,by omega,HA2,bq⟩
          case measure=>simp [intOf];omega
       ·have hm:hitS rows (14,b1,b2) r.1=some []:=by
         unfold hitS
         rw [hst]
         rfl
        have HA2:Hid (ans=some (pathS S i i)):=by rw [Hid,← HA.out,witF_hit hr hm,List.append_nil]
        have kPx:=kPa w5 bq
        clear HA hm hst kPa
        go_wp2_with fail
        refine kPx.mono ?_
        rintro e w6 ⟨⟨g6,c6,rfl,q6⟩,hb⟩
        have bz:=bel_trans bw1 hb
        have HG:Hid (WofGot (.returned (.tuple #[.slice (some ⟨g6,0,none⟩) (pathS S i i).length c6,.int .i64 0])) w6 w.heap.size rl rc):=by
         rw [HE.out.1,HE.out.2,HA2.out]
         exact ⟨_,rfl,own_lower q6 bw1.size⟩
        clear q6 kPx hb HA2
        go_wp2
        refine bodyPost_ret (by simp [results,Tryz.results37,go_sem];try rfl) rfl ?_
        exact ⟨HG.out,bz⟩
      ·have hq14:(b0 == 14)=false:=by simp [h14]
       have hn14:(b0 != 14)=true:=by simp [h14]
       have hhs:hitS rows (b0,b1,b2) r.1=((enabM rows r.1 3).find? fun k=>decide ((b0,b1,b2) ∈ foundM rows r.1 k)).map fun k=>[k]:=by unfold hitS;rw [if_neg h14]
       have HHS:Hid (hitS rows (b0,b1,b2) r.1=((enabM rows r.1 3).find? fun k=>decide ((b0,b1,b2) ∈ foundM rows r.1 k)).map fun k=>[k]):=hhs
       clear hhs h14
       have kE:=l03Enabled_is a 3 cap rows ((t0a,t0n,t0c),(t1a,t1n,t1c),(t2a,t2n,t2c),(t3a,t3n,t3c)) r.1 cs w4 rfl (hR.below bw1) (hV.mem fm) hp hs
       rw [ut] at kE
       go_wp2_with (first | refine wpList_load_blk rfl 25 _ rfl w.heap.size rfl pP1 _ Tryz.underlying25 rfl (by kernel_rfl) ?_ | refine wpList_load_blk rfl 33 _ rfl X rfl pS _ Tryz.underlying33 rfl (by kernel_rfl) ?_)
       refine kE.mono ?_
       rintro e w6 ⟨⟨⟨la,ln,lc⟩,rfl,hL⟩,hb⟩
       replace bw1:=bel_trans bw1 hb
       replace pP1:=pP1.below hb
       replace pB1:=pB1.below hb
       replace bq:=bel_trans bq hb
       replace hV:=hV.below hb
       replace pS:=pS.below hb
       clear hb kE q0
       have hLn:(enabM rows r.1 3).length=ln:=by have:=hL.1;simpa using this
       have hl3:=enabM_len rows r.1 3
       have HF0:Hid (((enabM rows r.1 3).drop 0).find? (fun k=>decide ((b0,b1,b2) ∈ foundM rows r.1 k))=(enabM rows r.1 3).find? (fun k=>decide ((b0,b1,b2) ∈ foundM rows r.1 k))):=by rw [Hid,List.drop_zero]
       go_wp2_with fail
       go_loopw [14] (fun s14 wq=>∃ j:Nat,s14=.int .i64 j∧j≤ln∧Hid (((enabM rows r.1 3).drop j).find? (fun k=>decide ((b0,b1,b2) ∈ foundM rows r.1 k))=(enabM rows r.1 3).find? (fun k=>decide ((b0,b1,b2) ∈ foundM rows r.1 k)))∧Below w6.heap.size w6 wq) (fun s14 _=>ln - (intOf s14).toNat)
       case atStart=>exact ⟨0,rfl,Nat.zero_le _,HF0,Below.refl _ _⟩
       case round =>
        clear HF0
        obtain ⟨j,rfl,hjn,HFj,b2q⟩:=hrel
        replace bw1:=bel_trans bw1 b2q
        replace pP1:=pP1.below b2q
        replace pB1:=pB1.below b2q
        replace bq:=bel_trans bq b2q
        replace hV:=hV.below b2q
        replace pS:=pS.below b2q
        replace hL:=hL.below b2q
        have q0:wr.cell? ⟨w.heap.size+1,0,none⟩=some (.int .i64 b0):=by simpa using pB1.cell 0
        by_cases hlt2:j<ln
        ·have hkj:(enabM rows r.1 3)[j]?=some ((enabM rows r.1 3).getD j 0):=by rw [List.getD,List.getElem?_eq_getElem (by omega)];rfl
         have hz:=enab_halt (List.mem_of_getElem? hkj)
         obtain ⟨h0k,h2k,hd9,_⟩:=halt_can hz
         obtain ⟨k,hk⟩:∃ k:Nat,(enabM rows r.1 3).getD j 0=(k:Int):=⟨_,(Int.toNat_of_nonneg h0k).symm⟩
         obtain ⟨lb,lo,rfl,hc,hlb⟩:=ints_cellS hL.ints (show j<ln from hlt2)
         rw [hk] at hkj hz hd9 h0k h2k hc
         rw [Int.toNat_natCast] at hd9
         have hk3:k<3:=by omega
         have HKK:Hid ((enabM rows r.1 3).getD j 0=(k:Int)):=hk
         clear hk hlb
         have hfo:=foundM_ok hp hs hz
         have kP:=fun (W:World) (b:Below w.heap.size w W) (h:Vmem W ((t0a,t0n,t0c),(t1a,t1n,t1c),(t2a,t2n,t2c),(t3a,t3n,t3c)) r.1)=>l04Found_is (cap:=cap) (hR.below b) h hp hs hk3 hd9
         rw [ut] at kP
         have HKJ:Hid ((enabM rows r.1 3)[j]?=some (k:Int)):=hkj
         generalize (goM rows r.1 (k:Int)).1=z at *
         have hlt3:(j:Int)<(ln:Int):=by omega
         have hj0:(0:Int)≤(j:Int):=by omega
         clear hkj hz hd9
         go_wp2_with fail
         have hb9:Below wr.heap.size wr wr.drew:=by go_grown
         refine wp_region_held_drew (S:=(fun w'=>w'.cell? ⟨w.heap.size,0,none⟩=some (.slice a 3 cap)∧w'.cell? ⟨X,0,none⟩=some (.slice t0a t0n t0c)∧w'.cell? ⟨X,1,none⟩=some (.slice t1a t1n t1c)∧w'.cell? ⟨X,2,none⟩=some (.slice t2a t2n t2c)∧w'.cell? ⟨X,3,none⟩=some (.slice t3a t3n t3c)∧w'.cell? ⟨lb,lo+j,none⟩=some (.int .i64 (k:Int)))) (by kernel_rfl) ⟨by simpa using pP1.cell 0,by simpa using pS.cell 0,by simpa using pS.cell 1,by simpa using pS.cell 2,by simpa using pS.cell 3,hc⟩ (fun hS0=>?_)
         refine tkm 0 78 (.agg #[.slice a 3 cap]) ?_
         refine tkm 1 79 (.agg #[.slice t0a t0n t0c,.slice t1a t1n t1c,.slice t2a t2n t2c,.slice t3a t3n t3c]) ?_
         refine tkm 2 80 (.slice (some ⟨lb,lo,none⟩) ln lc) ?_
         refine tkm 3 81 (.int .i64 (j:Int)) ?_
         refine tkm 4 82 (.pointer (some ⟨lb,lo+j,none⟩)) ?_
         refine tkm 5 83 (.int .i64 (k:Int)) ?_
         replace bw1:=bel_trans bw1 hb9
         replace pB1:=pB1.below hb9
         replace hV:=hV.below hb9
         replace b2q:=bel_trans b2q hb9
         replace bq:=bel_trans bq hb9
         clear hb9 q0
         generalize wr.drew=V at *
         refine wpAnyH_ready (rs:=[6,10]) (by kernel_rfl) (by simp) ?_
         refine AllReadyH.cons (o:=⟨some 84,_,_,_,_,_⟩) rfl (fun K hK=>?_) (AllReadyH.cons (o:=⟨some 15,_,_,_,_,_⟩) rfl (fun K hK=>?_) AllReadyH.nil)
         ·have kPx:=kP V bw1 (hV.mem fm)
          go_simp
          refine kPx.mono ?_
          rintro e V1 ⟨⟨⟨⟨z0a,z0n,z0c⟩,⟨z1a,z1n,z1c⟩,⟨z2a,z2n,z2c⟩,⟨z3a,z3n,z3c⟩⟩,v9,rfl,hO2,qf⟩,hb1⟩
          have uz:S4.val ((z0a,z0n,z0c),(z1a,z1n,z1c),(z2a,z2n,z2c),(z3a,z3n,z3c))=.agg #[.slice z0a z0n z0c,.slice z1a z1n z1c,.slice z2a z2n z2c,.slice z3a z3n z3c]:=rfl
          rw [uz]
          clear uz
          obtain ⟨fa,fc,rfl,hI9,hGd9⟩:=bugs_sliceR qf (fun x hx=>okB_fitsQ (hfo.1 x hx))
          clear hGd9 hO2 hI9
          go_wp2_with fail
          refine hK.out _ _ ⟨cells_kept hb1 _ _ hS0.1,cells_kept hb1 _ _ hS0.2.1,cells_kept hb1 _ _ hS0.2.2.1,cells_kept hb1 _ _ hS0.2.2.2.1,cells_kept hb1 _ _ hS0.2.2.2.2.1,cells_kept hb1 _ _ hS0.2.2.2.2.2⟩ (fun hS5=>?_)
          clear hK kPx
          try simp only [Act.put,tka,tkb,tkc]
          refine tkm 7 77 (.tuple #[.agg #[.slice z0a z0n z0c,.slice z1a z1n z1c,.slice z2a z2n z2c,.slice z3a z3n z3c],.slice fa (foundM rows r.1 (k:Int)).length fc]) ?_
          refine tkm 8 85 (.agg #[.slice z0a z0n z0c,.slice z1a z1n z1c,.slice z2a z2n z2c,.slice z3a z3n z3c]) ?_
          refine tkm 9 86 (.slice fa (foundM rows r.1 (k:Int)).length fc) ?_
          refine tkr 10 15 (fun K hK=>?_)
          have hb2:Below V1.heap.size V1 (V1.alloc (.cells #[.slice none 0 0,.slice none 0 0,.slice none 0 0,.slice none 0 0] 33)):=by go_grown
          have pX:Blk (V1.alloc (.cells #[.slice none 0 0,.slice none 0 0,.slice none 0 0,.slice none 0 0] 33)) V1.heap.size 33 [.slice none 0 0,.slice none 0 0,.slice none 0 0,.slice none 0 0]:=blkAt _ _ _ rfl
          replace qf:=owns_below qf hb2
          have hbA:=bel_trans hb1 hb2
          have hYV:V.heap.size≤V1.heap.size:=hb1.size
          go_simp
          refine hK.out _ _ ⟨cells_kept hbA _ _ hS0.1,cells_kept hbA _ _ hS0.2.1,cells_kept hbA _ _ hS0.2.2.1,cells_kept hbA _ _ hS0.2.2.2.1,cells_kept hbA _ _ hS0.2.2.2.2.1,cells_kept hbA _ _ hS0.2.2.2.2.2⟩ (fun hS6=>?_)
          clear hK hb1 hb2
          generalize (V1.alloc (.cells #[.slice none 0 0,.slice none 0 0,.slice none 0 0,.slice none 0 0] 33))=V2 at *
          generalize V1.heap.size=Y at *
          try simp only [Act.put,tka,tkb,tkc]
          refine tkz 11 (fun K hK=>?_)
          refine step_store_blkD rfl 33 _ _ rfl Y [.slice z0a z0n z0c,.slice z1a z1n z1c,.slice z2a z2n z2c,.slice z3a z3n z3c] rfl rfl pX (by kernel_rfl) rfl rfl ?_
          intro V8 pX8 g8
          have hbig:=hbA.grown g8 hbA.size (fun q hq=>by cases hq;exact hYV)
          replace qf:=qf.kept g8 (own_apart_blk qf pX (by decide))
          obtain ⟨fa9,fc9,ef9,hI8,hGd8⟩:=bugs_sliceR qf (fun x hx=>okB_fitsQ (hfo.1 x hx))
          cases ef9
          clear hGd8 qf
          refine hK.out _ _ ⟨cells_kept hbig _ _ hS0.1,cells_kept hbig _ _ hS0.2.1,cells_kept hbig _ _ hS0.2.2.1,cells_kept hbig _ _ hS0.2.2.2.1,cells_kept hbig _ _ hS0.2.2.2.2.1,cells_kept hbig _ _ hS0.2.2.2.2.2⟩ (fun hS7=>?_)
          clear hK pX g8 hbA hYV pX8
          try simp only [Act.put,tka,tkb,tkc]
          refine tkm 12 16 (.slice fa (foundM rows r.1 (k:Int)).length fc) ?_
          refine wpAnyH_done (by kernel_rfl) ?_ _
          replace bw1:=bel_trans bw1 hbig
          replace pB1:=pB1.below hbig
          replace b2q:=bel_trans b2q hbig
          replace bq:=bel_trans bq hbig
          have hc8:=cells_kept hbig _ _ hS0.2.2.2.2.2
          clear hbig hS0 hS5 hS6 hS7 pP1 pS hV kP hc hL
          have hfl:=hfo.2
          obtain ⟨nf,hnf⟩:∃ nf,nf=(foundM rows r.1 (k:Int)).length:=⟨_,rfl⟩
          rw [← hnf] at hI8 hfl ⊢
          have HNF:Hid (nf=(foundM rows r.1 (k:Int)).length):=hnf
          clear hnf
          have HH0:Hid (hasW ((foundM rows r.1 (k:Int)).drop 0) (b0,b1,b2)=hasW (foundM rows r.1 (k:Int)) (b0,b1,b2)):=by rw [Hid,List.drop_zero]
          go_wp2_with fail
          go_loopw [17] (fun s17 wq=>∃ h:Nat,s17=.int .i64 h∧h≤nf∧Hid (hasW ((foundM rows r.1 (k:Int)).drop h) (b0,b1,b2)=hasW (foundM rows r.1 (k:Int)) (b0,b1,b2))∧Below V8.heap.size V8 wq) (fun s17 _=>nf - (intOf s17).toNat)
          case atStart=>exact ⟨0,rfl,Nat.zero_le _,HH0,Below.refl _ _⟩
          case round =>
           clear HH0
           obtain ⟨h,rfl,hhn,HH,b3q⟩:=hrel
           replace bw1:=bel_trans bw1 b3q
           replace pB1:=pB1.below b3q
           replace b2q:=bel_trans b2q b3q
           replace bq:=bel_trans bq b3q
           replace hc8:=cells_kept b3q _ _ hc8
           by_cases hlt4:h<nf
           ·have hst:=hasW_step (xs:=foundM rows r.1 (k:Int)) (k:=h) (by rw [← HNF.out];exact hlt4) (b0,b1,b2)
            obtain ⟨_,_,_,_,hcase⟩:=hI8.below b3q
            rcases hcase with e0 | ⟨fb,fo,rfl,hfb,hcc⟩
            ·omega
            obtain ⟨d0,d1,d2⟩:=hcc h hlt4
            clear hcc hfb
            generalize (foundM rows r.1 (k:Int)).getD h (0,0,0)=x at d0 d1 d2 hst
            have HS:Hid (hasW ((foundM rows r.1 (k:Int)).drop h) (b0,b1,b2)=(decide (x=(b0,b1,b2)) || hasW ((foundM rows r.1 (k:Int)).drop (h+1)) (b0,b1,b2))):=hst
            clear hst
            have hlt5:(h:Int)<(nf:Int):=by omega
            have hh0:(0:Int)≤(h:Int):=by omega
            obtain ⟨x0,x1,x2⟩:=x
            simp only at d0 d1 d2
            have c0:wr.cell? ⟨w.heap.size+1,0,none⟩=some (.int .i64 b0):=by simpa using pB1.cell 0
            have c1:wr.cell? ⟨w.heap.size+1,1,none⟩=some (.int .i64 b1):=by simpa using pB1.cell 1
            have c2:wr.cell? ⟨w.heap.size+1,2,none⟩=some (.int .i64 b2):=by simpa using pB1.cell 2
            by_cases hE:(x0,x1,x2)=(b0,b1,b2)
            ·cases hE
             have hmem:(b0,b1,b2) ∈ foundM rows r.1 (k:Int):=by
              rw [← hasW_iff,← HH.out,HS.out]
              simp
             have hfd:((enabM rows r.1 3).drop j).find? (fun k=>decide ((b0,b1,b2) ∈ foundM rows r.1 k))=some (k:Int):=find_hit HKJ.out (decide_eq_true hmem)
             have hm:hitS rows (b0,b1,b2) r.1=some [(k:Int)]:=by
              rw [HHS.out,← HFj.out,hfd]
              rfl
             have HA2:Hid (ans=some (pathS S i i++[(k:Int)])):=by rw [Hid,← HA.out,witF_hit hr hm]
             have t0:(b0 == b0)=true:=by simp
             have t1:(b1 == b1)=true:=by simp
             have t2:(b2 == b2)=true:=by simp
             clear HH HS hmem hfd hm HA HHS HFj
             go_wp2_with fail
             go_quiet (fail)
             have hdn:Below wr.heap.size wr (wr.drewN nq):=below_dN _
             replace bw1:=bel_trans bw1 hdn
             replace bq:=bel_trans bq hdn
             replace hc8:=cells_kept hdn _ _ hc8
             clear hdn d0 d1 d2 c0 c1 c2 t0 t1 t2 pB1
             generalize wr.drewN nq=Q at *
             go_wp2_with fail
             have hdr:Below Q.heap.size Q Q.drew:=by go_grown
             refine wp_region_held_drew (S:=(fun w'=>w'.cell? ⟨lb,lo+j,none⟩=some (.int .i64 (k:Int)))) (by kernel_rfl) hc8 (fun hS0=>?_)
             refine tkm 0 99 (.slice (some ⟨gf,0,none⟩) S.length cf) ?_
             refine tkm 1 100 (.slice (some ⟨gy,0,none⟩) S.length cy) ?_
             refine tkm 2 101 (.int .i64 (i:Int)) ?_
             refine tkm 4 103 (.slice (some ⟨lb,lo,none⟩) ln lc) ?_
             refine tkm 5 104 (.int .i64 (j:Int)) ?_
             refine tkm 6 105 (.pointer (some ⟨lb,lo+j,none⟩)) ?_
             refine tkm 7 106 (.int .i64 (k:Int)) ?_
             replace bw1:=bel_trans bw1 hdr
             replace bq:=bel_trans bq hdr
             clear hdr hc8
             generalize Q.drew=V9 at *
             refine wpAnyH_ready (rs:=[3,8]) (by kernel_rfl) (by simp) ?_
             refine AllReadyH.cons (o:=⟨some 102,_,_,_,_,_⟩) rfl (fun K hK=>?_) (AllReadyH.cons (o:=⟨some 107,_,_,_,_,_⟩) rfl (fun K hK=>?_) AllReadyH.nil)
             ·have kPx:=kPa V9 bq
              go_simp
              refine kPx.mono ?_
              rintro e V1 ⟨⟨g6,c6,rfl,q6⟩,hb1⟩
              have hg6:=(own_lt3 q6 (g:=g6) rfl).1
              replace q6:=own_lower q6 bw1.size
              have hck:=cells_kept hb1 _ _ hS0
              go_wp2_with fail
              refine hK.out _ _ hck (fun hS1=>?_)
              clear hK kPx
              try simp only [Act.put,tka,tkb,tkc]
              refine tkr 8 107 (fun K hK=>?_)
              have hb2:Below V1.heap.size V1 (V1.alloc (.cells #[.int .i64 (k:Int)] 3)):=by go_grown
              have pZ:Blk (V1.alloc (.cells #[.int .i64 (k:Int)] 3)) V1.heap.size 3 [.int .i64 (k:Int)]:=blkAt _ _ _ rfl
              replace q6:=owns_below q6 hb2
              replace hck:=cells_kept hb2 _ _ hck
              have bz:=bel_trans bw1 (bel_trans hb1 hb2)
              have hgl:g6≠lb:=by have:=lt_of_cell hS0;omega
              go_simp
              refine hK.out _ _ hck (fun hS2=>?_)
              clear hK hb2
              generalize (V1.alloc (.cells #[.int .i64 (k:Int)] 3))=V2 at *
              generalize V1.heap.size=Z at *
              try simp only [Act.put,tka,tkb,tkc]
              have hpl:=pathS_len S i i
              refine tkr 9 108 (fun K hK=>?_)
              refine step_append_at rfl _ _ 27 rfl w.heap.size 3 i0 _ 1 8 Tryz.underlying27 hi9 hz0 hz1 hz2 rfl (by decide) (.slice (some ⟨g6,0,none⟩) (pathS S i i).length c6) _ _ rfl q6 ⟨Z,0,none⟩ 1 1 [.int .i64 (k:Int)] rfl rfl (cells_new pZ) (one_int6 _) (by unfold maxLen;omega) (by omega) bz.size ?_
              intro v6 V5 q7 gr at6
              have bz5:=bz.grown gr bz.size (fun q e=>(own_lt3 q6 e).1)
              have dk:=cell_grownB gr hck (fun e=>hgl (by cases e;rfl))
              refine hK.out _ _ dk (fun hS3=>?_)
              clear hK
              try simp only [Act.put,tka,tkb,tkc]
              obtain ⟨na,nn,nc,rfl⟩:=own_slice6 q7
              have HG:Hid (WofGot (.returned (.tuple #[.slice na nn nc,.int .i64 0])) V5 w.heap.size rl rc):=by
               rw [HE.out.1,HE.out.2,HA2.out]
               exact ⟨_,rfl,row_int6 q7⟩
              refine tkm 10 4 (.slice na nn nc) ?_
              refine tkm 11 5 (.int .i64 0) ?_
              refine wpAnyH_done (by kernel_rfl) ?_ _
              clear q7 gr at6 q6 pZ bz dk hck HA2 hS0 hS1 hS2 hS3
              go_wp2
              refine bodyPost_ret (by simp [results,Tryz.results37,go_sem];try rfl) rfl ?_
              exact ⟨HG.out,bz5⟩
             ·have hb1:Below V9.heap.size V9 (V9.alloc (.cells #[.int .i64 (k:Int)] 3)):=by go_grown
              have pZ:Blk (V9.alloc (.cells #[.int .i64 (k:Int)] 3)) V9.heap.size 3 [.int .i64 (k:Int)]:=blkAt _ _ _ rfl
              have hck:=cells_kept hb1 _ _ hS0
              have kPx:=kPa _ (bel_trans bq hb1)
              have bw2:=bel_trans bw1 hb1
              have hll:=lt_of_cell hS0
              go_simp
              refine hK.out _ _ hck (fun hS1=>?_)
              clear hK
              have hVs:=hb1.size
              generalize (V9.alloc (.cells #[.int .i64 (k:Int)] 3))=V1 at *
              obtain ⟨Z,hZ⟩:∃ Z,Z=V9.heap.size:=⟨_,rfl⟩
              rw [← hZ] at pZ ⊢
              clear hZ
              try simp only [Act.put,tka,tkb,tkc]
              refine tkr 3 102 (fun K hK=>?_)
              go_simp
              refine kPx.mono ?_
              rintro e V2 ⟨⟨g6,c6,rfl,q6⟩,hb2⟩
              have hg6:=(own_lt3 q6 (g:=g6) rfl).1
              replace q6:=own_lower q6 bw2.size
              replace hck:=cells_kept hb2 _ _ hck
              replace pZ:=pZ.below hb2
              have bz:=bel_trans bw2 hb2
              have hgl:g6≠lb:=by omega
              go_wp2_with fail
              refine hK.out _ _ hck (fun hS2=>?_)
              clear hK kPx hb2
              try simp only [Act.put,tka,tkb,tkc]
              have hpl:=pathS_len S i i
              refine tkr 9 108 (fun K hK=>?_)
              refine step_append_at rfl _ _ 27 rfl w.heap.size 3 i0 _ 1 8 Tryz.underlying27 hi9 hz0 hz1 hz2 rfl (by decide) (.slice (some ⟨g6,0,none⟩) (pathS S i i).length c6) _ _ rfl q6 ⟨Z,0,none⟩ 1 1 [.int .i64 (k:Int)] rfl rfl (cells_new pZ) (one_int6 _) (by unfold maxLen;omega) (by omega) bz.size ?_
              intro v6 V5 q7 gr at6
              have bz5:=bz.grown gr bz.size (fun q e=>(own_lt3 q6 e).1)
              have dk:=cell_grownB gr hck (fun e=>hgl (by cases e;rfl))
              refine hK.out _ _ dk (fun hS3=>?_)
              clear hK
              try simp only [Act.put,tka,tkb,tkc]
              obtain ⟨na,nn,nc,rfl⟩:=own_slice6 q7
              have HG:Hid (WofGot (.returned (.tuple #[.slice na nn nc,.int .i64 0])) V5 w.heap.size rl rc):=by
               rw [HE.out.1,HE.out.2,HA2.out]
               exact ⟨_,rfl,row_int6 q7⟩
              refine tkm 10 4 (.slice na nn nc) ?_
              refine tkm 11 5 (.int .i64 0) ?_
              refine wpAnyH_done (by kernel_rfl) ?_ _
              clear q7 gr at6 q6 pZ bz dk hck HA2 hS0 hS1 hS2 hS3
              go_wp2
              refine bodyPost_ret (by simp [results,Tryz.results37,go_sem];try rfl) rfl ?_
              exact ⟨HG.out,bz5⟩
            ·have HH2:Hid (hasW ((foundM rows r.1 (k:Int)).drop (h+1)) (b0,b1,b2)=hasW (foundM rows r.1 (k:Int)) (b0,b1,b2)):=by rw [Hid,← HH.out,HS.out,decide_eq_false hE,Bool.false_or]
             clear HS HH
             have h3:x0≠b0∨(x0=b0∧x1≠b1)∨(x0=b0∧x1=b1∧x2≠b2):=by
              by_cases q0:x0=b0
              ·by_cases q1:x1=b1
               ·refine .inr (.inr ⟨q0,q1,fun q2=>hE ?_⟩)
                rw [q0,q1,q2]
               ·exact .inr (.inl ⟨q0,q1⟩)
              ·exact .inl q0
             clear hE
             go_wp2_with fail
             rcases h3 with t0 | ⟨rfl,t1⟩ | ⟨rfl,rfl,t2⟩
             ·have t0':(x0 == b0)=false:=by simp [t0]
              go_quiet (fail)
              have hdn:=bel_trans b3q (below_dN (w:=wr) nq)
              clear d0 d1 d2 c0 c1 c2 pB1
              generalize wr.drewN nq=Q at *
              go_wp2
              go_roundw
              case rel=>exact ⟨h+1,by go_num,by omega,HH2,hdn⟩
              case measure=>simp [intOf];omega
             ·have t1':(x1 == b1)=false:=by simp [t1]
              have s0:(x0 == x0)=true:=by simp
              go_quiet (fail)
              have hdn:=bel_trans b3q (below_dN (w:=wr) nq)
              clear d0 d1 d2 c0 c1 c2 pB1
              generalize wr.drewN nq=Q at *
              go_wp2
              go_roundw
              case rel=>exact ⟨h+1,by go_num,by omega,HH2,hdn⟩
              case measure=>simp [intOf];omega
             ·have t2':(x2 == b2)=false:=by simp [t2]
              have s0:(x0 == x0)=true:=by simp
              have s1:(x1 == x1)=true:=by simp
              go_quiet (fail)
              have hdn:=bel_trans b3q (below_dN (w:=wr) nq)
              clear d0 d1 d2 c0 c1 c2 pB1
              generalize wr.drewN nq=Q at *
              go_wp2
              go_roundw
              case rel=>exact ⟨h+1,by go_num,by omega,HH2,hdn⟩
              case measure=>simp [intOf];omega
           ·have hge4:¬ (h:Int)<(nf:Int):=by omega
            have hno:¬ (b0,b1,b2) ∈ foundM rows r.1 (k:Int):=by
             rw [← hasW_iff,← HH.out,List.drop_of_length_le (by rw [← HNF.out];omega)]
             simp [hasW]
            have HFj2:Hid (((enabM rows r.1 3).drop (j+1)).find? (fun k=>decide ((b0,b1,b2) ∈ foundM rows r.1 k))=(enabM rows r.1 3).find? (fun k=>decide ((b0,b1,b2) ∈ foundM rows r.1 k))):=by rw [Hid,← find_miss HKJ.out (decide_eq_false hno)];exact HFj.out
            clear hno HH HFj
            go_wp2
            go_roundw
            case rel=>exact ⟨j+1,by go_num,by omega,HFj2,b2q⟩
            case measure=>simp [intOf];omega
         ·have hb1:Below V.heap.size V (V.alloc (.cells #[.slice none 0 0,.slice none 0 0,.slice none 0 0,.slice none 0 0] 33)):=by go_grown
          have pX:Blk (V.alloc (.cells #[.slice none 0 0,.slice none 0 0,.slice none 0 0,.slice none 0 0] 33)) V.heap.size 33 [.slice none 0 0,.slice none 0 0,.slice none 0 0,.slice none 0 0]:=blkAt _ _ _ rfl
          have hYV:V.heap.size≤V.heap.size:=Nat.le_refl _
          go_simp
          refine hK.out _ _ ⟨cells_kept hb1 _ _ hS0.1,cells_kept hb1 _ _ hS0.2.1,cells_kept hb1 _ _ hS0.2.2.1,cells_kept hb1 _ _ hS0.2.2.2.1,cells_kept hb1 _ _ hS0.2.2.2.2.1,cells_kept hb1 _ _ hS0.2.2.2.2.2⟩ (fun hS6=>?_)
          clear hK
          have kPx:=kP _ (bel_trans bw1 hb1) ((hV.below hb1).mem fm)
          generalize (V.alloc (.cells #[.slice none 0 0,.slice none 0 0,.slice none 0 0,.slice none 0 0] 33))=V2 at *
          obtain ⟨Y,hY⟩:∃ Y,Y=V.heap.size:=⟨_,rfl⟩
          rw [← hY] at pX hYV ⊢
          replace hYV:V.heap.size≤Y:=by omega
          clear hY
          try simp only [Act.put,tka,tkb,tkc]
          refine tkr 6 84 (fun K hK=>?_)
          go_simp
          refine kPx.mono ?_
          rintro e V3 ⟨⟨⟨⟨z0a,z0n,z0c⟩,⟨z1a,z1n,z1c⟩,⟨z2a,z2n,z2c⟩,⟨z3a,z3n,z3c⟩⟩,v9,rfl,hO2,qf⟩,hb2⟩
          have uz:S4.val ((z0a,z0n,z0c),(z1a,z1n,z1c),(z2a,z2n,z2c),(z3a,z3n,z3c))=.agg #[.slice z0a z0n z0c,.slice z1a z1n z1c,.slice z2a z2n z2c,.slice z3a z3n z3c]:=rfl
          rw [uz]
          clear uz
          obtain ⟨fa,fc,rfl,hI9,hGd9⟩:=bugs_sliceR qf (fun x hx=>okB_fitsQ (hfo.1 x hx))
          clear hGd9 hO2 hI9
          go_wp2_with fail
          have hbA:=bel_trans hb1 hb2
          replace pX:=pX.below hb2
          refine hK.out _ _ ⟨cells_kept hbA _ _ hS0.1,cells_kept hbA _ _ hS0.2.1,cells_kept hbA _ _ hS0.2.2.1,cells_kept hbA _ _ hS0.2.2.2.1,cells_kept hbA _ _ hS0.2.2.2.2.1,cells_kept hbA _ _ hS0.2.2.2.2.2⟩ (fun hS5=>?_)
          clear hK kPx hb1 hb2
          try simp only [Act.put,tka,tkb,tkc]
          refine tkm 7 77 (.tuple #[.agg #[.slice z0a z0n z0c,.slice z1a z1n z1c,.slice z2a z2n z2c,.slice z3a z3n z3c],.slice fa (foundM rows r.1 (k:Int)).length fc]) ?_
          refine tkm 8 85 (.agg #[.slice z0a z0n z0c,.slice z1a z1n z1c,.slice z2a z2n z2c,.slice z3a z3n z3c]) ?_
          refine tkm 9 86 (.slice fa (foundM rows r.1 (k:Int)).length fc) ?_
          refine tkz 11 (fun K hK=>?_)
          refine step_store_blkD rfl 33 _ _ rfl Y [.slice z0a z0n z0c,.slice z1a z1n z1c,.slice z2a z2n z2c,.slice z3a z3n z3c] rfl rfl pX (by kernel_rfl) rfl rfl ?_
          intro V8 pX8 g8
          have hbig:=hbA.grown g8 hbA.size (fun q hq=>by cases hq;exact hYV)
          replace qf:=qf.kept g8 (own_apart_blk qf pX (by decide))
          obtain ⟨fa9,fc9,ef9,hI8,hGd8⟩:=bugs_sliceR qf (fun x hx=>okB_fitsQ (hfo.1 x hx))
          cases ef9
          clear hGd8 qf
          refine hK.out _ _ ⟨cells_kept hbig _ _ hS0.1,cells_kept hbig _ _ hS0.2.1,cells_kept hbig _ _ hS0.2.2.1,cells_kept hbig _ _ hS0.2.2.2.1,cells_kept hbig _ _ hS0.2.2.2.2.1,cells_kept hbig _ _ hS0.2.2.2.2.2⟩ (fun hS7=>?_)
          clear hK pX g8 hbA hYV pX8
          try simp only [Act.put,tka,tkb,tkc]
          refine tkm 12 16 (.slice fa (foundM rows r.1 (k:Int)).length fc) ?_
          refine wpAnyH_done (by kernel_rfl) ?_ _
          replace bw1:=bel_trans bw1 hbig
          replace pB1:=pB1.below hbig
          replace b2q:=bel_trans b2q hbig
          replace bq:=bel_trans bq hbig
          have hc8:=cells_kept hbig _ _ hS0.2.2.2.2.2
          clear hbig hS0 hS5 hS6 hS7 pP1 pS hV kP hc hL
          have hfl:=hfo.2
          obtain ⟨nf,hnf⟩:∃ nf,nf=(foundM rows r.1 (k:Int)).length:=⟨_,rfl⟩
          rw [← hnf] at hI8 hfl ⊢
          have HNF:Hid (nf=(foundM rows r.1 (k:Int)).length):=hnf
          clear hnf
          have HH0:Hid (hasW ((foundM rows r.1 (k:Int)).drop 0) (b0,b1,b2)=hasW (foundM rows r.1 (k:Int)) (b0,b1,b2)):=by rw [Hid,List.drop_zero]
          go_wp2_with fail
          go_loopw [17] (fun s17 wq=>∃ h:Nat,s17=.int .i64 h∧h≤nf∧Hid (hasW ((foundM rows r.1 (k:Int)).drop h) (b0,b1,b2)=hasW (foundM rows r.1 (k:Int)) (b0,b1,b2))∧Below V8.heap.size V8 wq) (fun s17 _=>nf - (intOf s17).toNat)
          case atStart=>exact ⟨0,rfl,Nat.zero_le _,HH0,Below.refl _ _⟩
          case round =>
           clear HH0
           obtain ⟨h,rfl,hhn,HH,b3q⟩:=hrel
           replace bw1:=bel_trans bw1 b3q
           replace pB1:=pB1.below b3q
           replace b2q:=bel_trans b2q b3q
           replace bq:=bel_trans bq b3q
           replace hc8:=cells_kept b3q _ _ hc8
           by_cases hlt4:h<nf
           ·have hst:=hasW_step (xs:=foundM rows r.1 (k:Int)) (k:=h) (by rw [← HNF.out];exact hlt4) (b0,b1,b2)
            obtain ⟨_,_,_,_,hcase⟩:=hI8.below b3q
            rcases hcase with e0 | ⟨fb,fo,rfl,hfb,hcc⟩
            ·omega
            obtain ⟨d0,d1,d2⟩:=hcc h hlt4
            clear hcc hfb
            generalize (foundM rows r.1 (k:Int)).getD h (0,0,0)=x at d0 d1 d2 hst
            have HS:Hid (hasW ((foundM rows r.1 (k:Int)).drop h) (b0,b1,b2)=(decide (x=(b0,b1,b2)) || hasW ((foundM rows r.1 (k:Int)).drop (h+1)) (b0,b1,b2))):=hst
            clear hst
            have hlt5:(h:Int)<(nf:Int):=by omega
            have hh0:(0:Int)≤(h:Int):=by omega
            obtain ⟨x0,x1,x2⟩:=x
            simp only at d0 d1 d2
            have c0:wr.cell? ⟨w.heap.size+1,0,none⟩=some (.int .i64 b0):=by simpa using pB1.cell 0
            have c1:wr.cell? ⟨w.heap.size+1,1,none⟩=some (.int .i64 b1):=by simpa using pB1.cell 1
            have c2:wr.cell? ⟨w.heap.size+1,2,none⟩=some (.int .i64 b2):=by simpa using pB1.cell 2
            by_cases hE:(x0,x1,x2)=(b0,b1,b2)
            ·cases hE
             have hmem:(b0,b1,b2) ∈ foundM rows r.1 (k:Int):=by
              rw [← hasW_iff,← HH.out,HS.out]
              simp
             have hfd:((enabM rows r.1 3).drop j).find? (fun k=>decide ((b0,b1,b2) ∈ foundM rows r.1 k))=some (k:Int):=find_hit HKJ.out (decide_eq_true hmem)
             have hm:hitS rows (b0,b1,b2) r.1=some [(k:Int)]:=by
              rw [HHS.out,← HFj.out,hfd]
              rfl
             have HA2:Hid (ans=some (pathS S i i++[(k:Int)])):=by rw [Hid,← HA.out,witF_hit hr hm]
             have t0:(b0 == b0)=true:=by simp
             have t1:(b1 == b1)=true:=by simp
             have t2:(b2 == b2)=true:=by simp
             clear HH HS hmem hfd hm HA HHS HFj
             go_wp2_with fail
             go_quiet (fail)
             have hdn:Below wr.heap.size wr (wr.drewN nq):=below_dN _
             replace bw1:=bel_trans bw1 hdn
             replace bq:=bel_trans bq hdn
             replace hc8:=cells_kept hdn _ _ hc8
             clear hdn d0 d1 d2 c0 c1 c2 t0 t1 t2 pB1
             generalize wr.drewN nq=Q at *
             go_wp2_with fail
             have hdr:Below Q.heap.size Q Q.drew:=by go_grown
             refine wp_region_held_drew (S:=(fun w'=>w'.cell? ⟨lb,lo+j,none⟩=some (.int .i64 (k:Int)))) (by kernel_rfl) hc8 (fun hS0=>?_)
             refine tkm 0 99 (.slice (some ⟨gf,0,none⟩) S.length cf) ?_
             refine tkm 1 100 (.slice (some ⟨gy,0,none⟩) S.length cy) ?_
             refine tkm 2 101 (.int .i64 (i:Int)) ?_
             refine tkm 4 103 (.slice (some ⟨lb,lo,none⟩) ln lc) ?_
             refine tkm 5 104 (.int .i64 (j:Int)) ?_
             refine tkm 6 105 (.pointer (some ⟨lb,lo+j,none⟩)) ?_
             refine tkm 7 106 (.int .i64 (k:Int)) ?_
             replace bw1:=bel_trans bw1 hdr
             replace bq:=bel_trans bq hdr
             clear hdr hc8
             generalize Q.drew=V9 at *
             refine wpAnyH_ready (rs:=[3,8]) (by kernel_rfl) (by simp) ?_
             refine AllReadyH.cons (o:=⟨some 102,_,_,_,_,_⟩) rfl (fun K hK=>?_) (AllReadyH.cons (o:=⟨some 107,_,_,_,_,_⟩) rfl (fun K hK=>?_) AllReadyH.nil)
             ·have kPx:=kPa V9 bq
              go_simp
              refine kPx.mono ?_
              rintro e V1 ⟨⟨g6,c6,rfl,q6⟩,hb1⟩
              have hg6:=(own_lt3 q6 (g:=g6) rfl).1
              replace q6:=own_lower q6 bw1.size
              have hck:=cells_kept hb1 _ _ hS0
              go_wp2_with fail
              refine hK.out _ _ hck (fun hS1=>?_)
              clear hK kPx
              try simp only [Act.put,tka,tkb,tkc]
              refine tkr 8 107 (fun K hK=>?_)
              have hb2:Below V1.heap.size V1 (V1.alloc (.cells #[.int .i64 (k:Int)] 3)):=by go_grown
              have pZ:Blk (V1.alloc (.cells #[.int .i64 (k:Int)] 3)) V1.heap.size 3 [.int .i64 (k:Int)]:=blkAt _ _ _ rfl
              replace q6:=owns_below q6 hb2
              replace hck:=cells_kept hb2 _ _ hck
              have bz:=bel_trans bw1 (bel_trans hb1 hb2)
              have hgl:g6≠lb:=by have:=lt_of_cell hS0;omega
              go_simp
              refine hK.out _ _ hck (fun hS2=>?_)
              clear hK hb2
              generalize (V1.alloc (.cells #[.int .i64 (k:Int)] 3))=V2 at *
              generalize V1.heap.size=Z at *
              try simp only [Act.put,tka,tkb,tkc]
              have hpl:=pathS_len S i i
              refine tkr 9 108 (fun K hK=>?_)
              refine step_append_at rfl _ _ 27 rfl w.heap.size 3 i0 _ 1 8 Tryz.underlying27 hi9 hz0 hz1 hz2 rfl (by decide) (.slice (some ⟨g6,0,none⟩) (pathS S i i).length c6) _ _ rfl q6 ⟨Z,0,none⟩ 1 1 [.int .i64 (k:Int)] rfl rfl (cells_new pZ) (one_int6 _) (by unfold maxLen;omega) (by omega) bz.size ?_
              intro v6 V5 q7 gr at6
              have bz5:=bz.grown gr bz.size (fun q e=>(own_lt3 q6 e).1)
              have dk:=cell_grownB gr hck (fun e=>hgl (by cases e;rfl))
              refine hK.out _ _ dk (fun hS3=>?_)
              clear hK
              try simp only [Act.put,tka,tkb,tkc]
              obtain ⟨na,nn,nc,rfl⟩:=own_slice6 q7
              have HG:Hid (WofGot (.returned (.tuple #[.slice na nn nc,.int .i64 0])) V5 w.heap.size rl rc):=by
               rw [HE.out.1,HE.out.2,HA2.out]
               exact ⟨_,rfl,row_int6 q7⟩
              refine tkm 10 4 (.slice na nn nc) ?_
              refine tkm 11 5 (.int .i64 0) ?_
              refine wpAnyH_done (by kernel_rfl) ?_ _
              clear q7 gr at6 q6 pZ bz dk hck HA2 hS0 hS1 hS2 hS3
              go_wp2
              refine bodyPost_ret (by simp [results,Tryz.results37,go_sem];try rfl) rfl ?_
              exact ⟨HG.out,bz5⟩
             ·have hb1:Below V9.heap.size V9 (V9.alloc (.cells #[.int .i64 (k:Int)] 3)):=by go_grown
              have pZ:Blk (V9.alloc (.cells #[.int .i64 (k:Int)] 3)) V9.heap.size 3 [.int .i64 (k:Int)]:=blkAt _ _ _ rfl
              have hck:=cells_kept hb1 _ _ hS0
              have kPx:=kPa _ (bel_trans bq hb1)
              have bw2:=bel_trans bw1 hb1
              have hll:=lt_of_cell hS0
              go_simp
              refine hK.out _ _ hck (fun hS1=>?_)
              clear hK
              have hVs:=hb1.size
              generalize (V9.alloc (.cells #[.int .i64 (k:Int)] 3))=V1 at *
              obtain ⟨Z,hZ⟩:∃ Z,Z=V9.heap.size:=⟨_,rfl⟩
              rw [← hZ] at pZ ⊢
              clear hZ
              try simp only [Act.put,tka,tkb,tkc]
              refine tkr 3 102 (fun K hK=>?_)
              go_simp
              refine kPx.mono ?_
              rintro e V2 ⟨⟨g6,c6,rfl,q6⟩,hb2⟩
              have hg6:=(own_lt3 q6 (g:=g6) rfl).1
              replace q6:=own_lower q6 bw2.size
              replace hck:=cells_kept hb2 _ _ hck
              replace pZ:=pZ.below hb2
              have bz:=bel_trans bw2 hb2
              have hgl:g6≠lb:=by omega
              go_wp2_with fail
              refine hK.out _ _ hck (fun hS2=>?_)
              clear hK kPx hb2
              try simp only [Act.put,tka,tkb,tkc]
              have hpl:=pathS_len S i i
              refine tkr 9 108 (fun K hK=>?_)
              refine step_append_at rfl _ _ 27 rfl w.heap.size 3 i0 _ 1 8 Tryz.underlying27 hi9 hz0 hz1 hz2 rfl (by decide) (.slice (some ⟨g6,0,none⟩) (pathS S i i).length c6) _ _ rfl q6 ⟨Z,0,none⟩ 1 1 [.int .i64 (k:Int)] rfl rfl (cells_new pZ) (one_int6 _) (by unfold maxLen;omega) (by omega) bz.size ?_
              intro v6 V5 q7 gr at6
              have bz5:=bz.grown gr bz.size (fun q e=>(own_lt3 q6 e).1)
              have dk:=cell_grownB gr hck (fun e=>hgl (by cases e;rfl))
              refine hK.out _ _ dk (fun hS3=>?_)
              clear hK
              try simp only [Act.put,tka,tkb,tkc]
              obtain ⟨na,nn,nc,rfl⟩:=own_slice6 q7
              have HG:Hid (WofGot (.returned (.tuple #[.slice na nn nc,.int .i64 0])) V5 w.heap.size rl rc):=by
               rw [HE.out.1,HE.out.2,HA2.out]
               exact ⟨_,rfl,row_int6 q7⟩
              refine tkm 10 4 (.slice na nn nc) ?_
              refine tkm 11 5 (.int .i64 0) ?_
              refine wpAnyH_done (by kernel_rfl) ?_ _
              clear q7 gr at6 q6 pZ bz dk hck HA2 hS0 hS1 hS2 hS3
              go_wp2
              refine bodyPost_ret (by simp [results,Tryz.results37,go_sem];try rfl) rfl ?_
              exact ⟨HG.out,bz5⟩
            ·have HH2:Hid (hasW ((foundM rows r.1 (k:Int)).drop (h+1)) (b0,b1,b2)=hasW (foundM rows r.1 (k:Int)) (b0,b1,b2)):=by rw [Hid,← HH.out,HS.out,decide_eq_false hE,Bool.false_or]
             clear HS HH
             have h3:x0≠b0∨(x0=b0∧x1≠b1)∨(x0=b0∧x1=b1∧x2≠b2):=by
              by_cases q0:x0=b0
              ·by_cases q1:x1=b1
               ·refine .inr (.inr ⟨q0,q1,fun q2=>hE ?_⟩)
                rw [q0,q1,q2]
               ·exact .inr (.inl ⟨q0,q1⟩)
              ·exact .inl q0
             clear hE
             go_wp2_with fail
             rcases h3 with t0 | ⟨rfl,t1⟩ | ⟨rfl,rfl,t2⟩
             ·have t0':(x0 == b0)=false:=by simp [t0]
              go_quiet (fail)
              have hdn:=bel_trans b3q (below_dN (w:=wr) nq)
              clear d0 d1 d2 c0 c1 c2 pB1
              generalize wr.drewN nq=Q at *
              go_wp2
              go_roundw
              case rel=>exact ⟨h+1,by go_num,by omega,HH2,hdn⟩
              case measure=>simp [intOf];omega
             ·have t1':(x1 == b1)=false:=by simp [t1]
              have s0:(x0 == x0)=true:=by simp
              go_quiet (fail)
              have hdn:=bel_trans b3q (below_dN (w:=wr) nq)
              clear d0 d1 d2 c0 c1 c2 pB1
              generalize wr.drewN nq=Q at *
              go_wp2
              go_roundw
              case rel=>exact ⟨h+1,by go_num,by omega,HH2,hdn⟩
              case measure=>simp [intOf];omega
             ·have t2':(x2 == b2)=false:=by simp [t2]
              have s0:(x0 == x0)=true:=by simp
              have s1:(x1 == x1)=true:=by simp
              go_quiet (fail)
              have hdn:=bel_trans b3q (below_dN (w:=wr) nq)
              clear d0 d1 d2 c0 c1 c2 pB1
              generalize wr.drewN nq=Q at *
              go_wp2
              go_roundw
              case rel=>exact ⟨h+1,by go_num,by omega,HH2,hdn⟩
              case measure=>simp [intOf];omega
           ·have hge4:¬ (h:Int)<(nf:Int):=by omega
            have hno:¬ (b0,b1,b2) ∈ foundM rows r.1 (k:Int):=by
             rw [← hasW_iff,← HH.out,List.drop_of_length_le (by rw [← HNF.out];omega)]
             simp [hasW]
            have HFj2:Hid (((enabM rows r.1 3).drop (j+1)).find? (fun k=>decide ((b0,b1,b2) ∈ foundM rows r.1 k))=(enabM rows r.1 3).find? (fun k=>decide ((b0,b1,b2) ∈ foundM rows r.1 k))):=by rw [Hid,← find_miss HKJ.out (decide_eq_false hno)];exact HFj.out
            clear hno HH HFj
            go_wp2
            go_roundw
            case rel=>exact ⟨j+1,by go_num,by omega,HFj2,b2q⟩
            case measure=>simp [intOf];omega
        ·have hge2:¬ (j:Int)<(ln:Int):=by omega
         have hnone:hitS rows (b0,b1,b2) r.1=none:=by
          rw [HHS.out,← HFj.out,List.drop_of_length_le (by omega)]
          rfl
         have HA2:Hid (witF S (hitS rows (b0,b1,b2)) (i+1) (S.drop (i+1))=ans):=by rw [Hid,← witF_miss hr hnone];exact HA.out
         clear HA hnone HFj HHS hL hV pS pP1 pB1 kPa
         go_wp2
         go_roundw
         case rel=>exact ⟨i+1,by go_num,by omega,HA2,bq⟩
         case measure=>simp [intOf];omega
     ·have hge:¬ (i:Int)<((keysL S).length:Int):=by rw [KL.out];omega
      have hend:ans=none:=by rw [← HA.out];exact witF_end (by omega)
      have bw1:=bel_trans bw bq
      have HG:Hid (WofGot (.returned (.tuple #[.slice (some ⟨wr.heap.size,0,none⟩) 0 0,.int .i64 5])) (wr.alloc (.cells #[] 3)) w.heap.size rl rc):=by
       rw [HE.out.1,HE.out.2,hend]
       exact ⟨_,rfl,own_emptyB wr 3 1 w.heap.size bw1.size⟩
      have bz:Below w.heap.size w (wr.alloc (.cells #[] 3)):=bel_trans bw1 (by go_grown)
      clear HA hend
      go_wp2
      refine bodyPost_ret (by simp [results,Tryz.results37,go_sem];try rfl) rfl ?_
      exact ⟨HG.out,bz⟩
   ·have hd:decide ((fullS rows).length≤2000)=false:=decide_eq_false hf
    have e1:codeF rows=15:=by unfold codeF;rw [hp,if_pos rfl,if_neg hf]
    have HE:Hid (rl=[]∧rc=15):=⟨by rw [HV.out,if_neg (fun h=>by rw [e1] at h;simp at h)],by rw [HC.out,hok,if_pos rfl,e1];rfl⟩
    clear e1 HV HC hT hF hf hok
    have HG:Hid (WofGot (.returned (.tuple #[.slice (some ⟨wk.heap.size,0,none⟩) 0 0,.int .i64 15])) (wk.alloc (.cells #[] 3)) w.heap.size rl rc):=by
     rw [HE.out.1,HE.out.2]
     exact ⟨_,rfl,own_emptyB wk 3 1 w.heap.size bw.size⟩
    have bz:Below w.heap.size w (wk.alloc (.cells #[] 3)):=bel_trans bw (by go_grown)
    go_wp2
    refine bodyPost_ret (by simp [results,Tryz.results37,go_sem];try rfl) rfl ?_
    exact ⟨HG.out,bz⟩
end Go.Proofs.YtifoggpohlegmaaGreatDoor
