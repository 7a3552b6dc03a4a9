/-
  Joined: MemI.
-/
import Derived.Test.YthlcdhddickdiaaDoorE21
import Derived.Test.YthlcdhddickdiaaDoorE40

namespace Go.Proofs.YthlcdhddickdiaaDoor
set_option maxRecDepth 100000
set_option maxHeartbeats 16000000
open Go.RowKit
set_option linter.unusedVariables false
set_option linter.unusedSimpArgs false

def MemGot (x:Ending) (w':World) (B:Nat) (es:List E3):Prop:=∃ v,x=.returned (.agg #[v])∧OwnM w' B v es
theorem MemGot.mk9 {w':World} {B:Nat} {v:Value} {es:List E3} (h:OwnM w' B v es):MemGot (.returned (.agg #[v])) w' B es:=⟨v,rfl,h⟩
theorem EntGot.lower {x:Ending} {w':World} {B B':Nat} {e:E3} (h:EntGot x w' B e) (hB:B'≤B):EntGot x w' B' e:=by
 obtain ⟨s,h1,h2⟩:=h
 exact ⟨s,h1,h2.lower hB⟩
theorem news_new9 (w:World) (cs:List Value) (t:TypeId):∀ ad,some (⟨w.heap.size,0,none⟩:Addr)=some ad→∀ j u,cs[j]?=some u→(w.alloc (.cells cs.toArray t)).cell? (ad.add j)=some u:=by
 intro ad ha j u hj
 cases ha
 have e:(⟨w.heap.size,0,none⟩:Addr).add j=⟨w.heap.size,0+j,none⟩:=by unfold Addr.add;split<;>simp_all
 rw [e,Nat.zero_add]
 have p:Blk (w.alloc (.cells cs.toArray t)) w.heap.size t cs:=blkAt _ _ _ rfl
 rw [p.cell j]
 exact hj
theorem entC_one (k:ByteArray) (s:Sl2):∀ u ∈ entC k s,u.oneCell'=true:=by
 intro u hu
 simp [entC] at hu
 rcases hu with rfl | rfl | rfl<;>rfl
theorem take_snoc9 {es:List E3} {k:Nat} (h:k<es.length):es.take k++[es.getD k e3d]=es.take (k+1):=by
 rw [List.take_add_one,List.getElem?_eq_getElem h,getD9 h]
 rfl
theorem l10Own_is (a:Option Addr) (n cap:Nat) (es:List E3) (w:World) (h:Ents w a n cap es) (hok:memOk es=true) :
  Calls Tryd.prog 31 #[.agg #[.slice a n cap]] w fun e w'=>MemGot e w' w.heap.size (es)∧Below w.heap.size w w':=by
 obtain ⟨i0,hi0,hz0,hz1,hz2⟩:=info_parts info_entry
 have hl:=h.1
 have hn:n≤2000:=by have:=memOk_len hok;omega
 have bu:Below w.heap.size w ((w.alloc (.cells #[.slice a n cap] 33)).alloc (.cells #[.slice none 0 0] 33)):=by go_grown
 have pM:Blk ((w.alloc (.cells #[.slice a n cap] 33)).alloc (.cells #[.slice none 0 0] 33)) w.heap.size 33 [.slice a n cap]:=blkOld _ (blkAt _ _ _ rfl)
 have pR:Blk ((w.alloc (.cells #[.slice a n cap] 33)).alloc (.cells #[.slice none 0 0] 33)) (w.heap.size+1) 33 [.slice none 0 0]:=blkAt _ _ _ (by simp)
 have g0:=pM.cell 0
 simp only [List.getElem?_cons_zero] at g0
 go_enter Tryd.func31,Tryd.ntmps31
 go_wp2_with fail
 have bE:Below ((w.alloc (.cells #[.slice a n cap] 33)).alloc (.cells #[.slice none 0 0] 33)).heap.size ((w.alloc (.cells #[.slice a n cap] 33)).alloc (.cells #[.slice none 0 0] 33)) (((w.alloc (.cells #[.slice a n cap] 33)).alloc (.cells #[.slice none 0 0] 33)).alloc (.cells #[] 39)):=by go_grown
 have M0:OwnM (((w.alloc (.cells #[.slice a n cap] 33)).alloc (.cells #[.slice none 0 0] 33)).alloc (.cells #[] 39)) (w.heap.size+2) (.slice (some ⟨w.heap.size+1+1,0,none⟩) 0 0) []:=by
  have h9:=empty8 ((w.alloc (.cells #[.slice a n cap] 33)).alloc (.cells #[.slice none 0 0] 33)) 39 3 (w.heap.size+2) (by simp)
  exact ⟨[],by simpa using h9,fun t ht=>by simp at ht,fun t _ ht=>by simp at ht⟩
 have bU:=bel8 bu bE
 have gU:=cell8 bE g0
 have rU:=pR.below bE
 generalize (((w.alloc (.cells #[.slice a n cap] 33)).alloc (.cells #[.slice none 0 0] 33)).alloc (.cells #[] 39))=U at *
 have rUs:w.heap.size+2≤U.heap.size:=by have:=rU.lt;omega
 go_loopw [3,4] (fun so si wr=>∃ (k:Nat) (va:Option Addr) (vn vc:Nat),k≤n∧si=.int .i64 k∧so=.slice va vn vc∧OwnM wr (w.heap.size+2) (.slice va vn vc) (es.take k)∧Below w.heap.size w wr∧wr.cell? ⟨w.heap.size,0,none⟩=some (.slice a n cap)∧Blk wr (w.heap.size+1) 33 [.slice none 0 0]∧w.heap.size+2≤wr.heap.size) (fun _ si _=>n - (intOf si).toNat)
 case atStart=>exact ⟨0,_,_,_,by omega,rfl,rfl,by simpa using M0,bU,gU,rU,rUs⟩
 case round =>
  obtain ⟨k,xa,xn,xc,hk,rfl,rfl,hM,bw,gw,pW,hsW⟩:=hrel
  by_cases hlt:k<n
  ·obtain ⟨_,_,_,hcase⟩:=h.below bw
   rcases hcase with e0 | ⟨b,off,rfl,hb,hc⟩
   ·omega
   obtain ⟨s,x0,x1,x2,hm⟩:=hc k hlt
   clear hc hb
   have hek:=memOk_ent hok (i:=k) (by omega)
   have y1:=entOk_bugs hek
   have y2:=entOk_foot hek
   have y3:=entOk_key hek
   have kE:=fun W (hb:Below wr.heap.size wr W)=>(l10OwnEntry_is (es.getD k e3d) s W (hm.below hb) (by omega) (by omega)).mono (fun x w' h9=>(⟨h9.1.lower hb.size,bel8 hb h9.2⟩:EntGot x w' wr.heap.size (es.getD k e3d)∧Below wr.heap.size wr w'))
   have hsn:=take_snoc9 (es:=es) (k:=k) (by omega)
   clear hm hek y1 y2 y3
   generalize es.getD k e3d=x at *
   generalize hps:es.take k=ps at *
   have hpl:ps.length≤2000:=by rw [← hps];rw [List.length_take];omega
   clear hps
   obtain ⟨xk,xb,xz⟩:=x
   obtain ⟨⟨a1,n1,c1⟩,⟨a2,n2,c2⟩⟩:=s
   unfold entV at kE
   simp only at x0 x1 x2 kE
   have hlt':(k:Int)<(n:Int):=by omega
   have hk0:(0:Int)≤(k:Int):=by omega
   go_wp2_with fail
   refine (kE _ (Below.refl _ _)).mono ?_
   rintro e w1 ⟨⟨⟨⟨d1,p1,q1⟩,⟨d2,p2,q2⟩⟩,rfl,hO⟩,hbn⟩
   obtain ⟨cs,ho,hE⟩:=hM
   have hb2:Below w1.heap.size w1 (w1.alloc (.cells #[.string xk,.slice d1 p1 q1,.slice d2 p2 q2] 39)):=by go_grown
   have ho2:=owns8 (owns8 ho hbn) hb2
   have hs2:w.heap.size+2≤(w1.alloc (.cells #[.string xk,.slice d1 p1 q1,.slice d2 p2 q2] 39)).heap.size:=by have:=hb2.size;have:=hbn.size;omega
   clear x0 x1 x2 kE
   unfold entV
   simp only
   go_wp2_with (at_builtin;refine wpList_app9 rfl _ _ 31 rfl (w.heap.size+2) 39 i0 (.agg #[.string ⟨#[]⟩,.slice none 0 0,.slice none 0 0]) 3 64 Tryd.underlying31 hi0 hz0 hz1 hz2 rfl (by decide) _ _ _ rfl ho2 _ 1 1 rfl (fun h9=>by cases h9) (entC xk ((d1,p1,q1),(d2,p2,q2))) (by simp [entC]) (news_new9 w1 [.string xk,.slice d1 p1 q1,.slice d2 p2 q2] 39) (entC_one _ _) (by unfold maxLen;omega) (by omega) hs2 ?_)
   intro v3 w3 hown hgrow _
   obtain ⟨va9,vc9,rfl⟩:=slice8 hown
   have hM3:=OwnM.snoc9 (s:=((d1,p1,q1),(d2,p2,q2))) ho hE hbn hO hb2 hgrow hown (by omega)
   have hgB:∀ g,(Value.ownBlock (.slice xa xn xc))=some g→w.heap.size+2≤g:=fun g hg=>(ho2.lt g hg).1
   have b3:Below w.heap.size w w3:=(bel8 (bel8 bw hbn) hb2).grown hgrow (by omega) (fun g hg=>by have:=hgB g hg;omega)
   have g3:=(Blk.kept ((pW.below hbn).below hb2) hgrow (fun e9=>by have:=hgB _ e9;omega))
   have c3:w3.cell? ⟨w.heap.size,0,none⟩=some (.slice (some ⟨b,off,none⟩) n cap):=grown8 hgrow (cell8 hb2 (cell8 hbn gw)) (fun e9=>by have:=hgB _ e9.symm;simp at this;omega)
   have s3:w.heap.size+2≤w3.heap.size:=Nat.le_trans hs2 hgrow.size
   skip
   clear ho hE hbn hO hb2 ho2 hs2 hown hgrow hgB
   go_wp2
   go_roundw
   case rel=>exact ⟨k+1,_,_,_,by omega,by go_num,rfl,by rw [← hsn];exact hM3,b3,c3,g3,s3⟩
   case measure=>simp [intOf];omega
  ·obtain rfl:k=n:=by omega
   have e9:es.take k=es:=by rw [List.take_of_length_le (by omega)]
   rw [e9] at hM
   have r0:=pW.cell 0
   have fr0:=pW.frozen 0
   have pZ:=pW.set 0 (.slice xa xn xc)
   simp only [List.set_cons_zero] at pZ
   have z0:=pZ.cell 0
   simp only [List.getElem?_cons_zero] at z0 r0
   have hM9:=(hM.low (p:=⟨w.heap.size+1,0,none⟩) (show w.heap.size+1<w.heap.size+2 by omega) (.slice xa xn xc)).lower (show w.heap.size≤w.heap.size+2 by omega)
   have bz:=bw.setCell (p:=⟨w.heap.size+1,0,none⟩) (show w.heap.size≤w.heap.size+1 by omega) (.slice xa xn xc)
   clear hM pZ pW bw e9
   go_wp2
   refine bodyPost_ret (by simp [results,Tryd.results31,go_sem,z0];try rfl) rfl ?_
   exact ⟨MemGot.mk9 hM9,bz⟩

theorem memoCopied_is (a:Option Addr) (n cap:Nat) (es:List E3) (w:World) (h:Ents w a n cap es) (hok:memOk es=true) :
  Calls Tryd.prog 38 #[.agg #[.slice a n cap]] w fun e w'=>MemGot e w' w.heap.size (es)∧Below w.heap.size w w':=by
 obtain ⟨i0,hi0,hz0,hz1,hz2⟩:=info_parts info_entry
 have hl:=h.1
 have hn:n≤2000:=by have:=memOk_len hok;omega
 have bu:Below w.heap.size w ((w.alloc (.cells #[.slice a n cap] 33)).alloc (.cells #[.slice none 0 0] 33)):=by go_grown
 have pM:Blk ((w.alloc (.cells #[.slice a n cap] 33)).alloc (.cells #[.slice none 0 0] 33)) w.heap.size 33 [.slice a n cap]:=blkOld _ (blkAt _ _ _ rfl)
 have pR:Blk ((w.alloc (.cells #[.slice a n cap] 33)).alloc (.cells #[.slice none 0 0] 33)) (w.heap.size+1) 33 [.slice none 0 0]:=blkAt _ _ _ (by simp)
 have g0:=pM.cell 0
 simp only [List.getElem?_cons_zero] at g0
 go_enter Tryd.func38,Tryd.ntmps38
 go_wp2_with fail
 generalize ((w.alloc (.cells #[.slice a n cap] 33)).alloc (.cells #[.slice none 0 0] 33))=U at *
 have hRU:=pR.lt
 have rUs:w.heap.size+2≤U.heap.size:=by have:=pR.lt;omega
 go_loopw [3,9] (fun so si wr=>∃ (k:Nat) (va:Option Addr) (vn vc:Nat),k≤n∧si=.int .i64 k∧so=.slice va vn vc∧OwnM wr (w.heap.size+2) (.slice va vn vc) (es.take k)∧Below w.heap.size w wr∧wr.cell? ⟨w.heap.size,0,none⟩=some (.slice a n cap)∧Blk wr (w.heap.size+1) 33 [.slice none 0 0]∧w.heap.size+2≤wr.heap.size) (fun _ si _=>n - (intOf si).toNat)
 case atStart=>exact ⟨0,none,0,0,by omega,rfl,rfl,by simpa [keepE] using OwnM.nil9 _ _,bu,g0,pR,rUs⟩
 case round =>
  obtain ⟨k,xa,xn,xc,hk,rfl,rfl,hM,bw,gw,pW,hsW⟩:=hrel
  by_cases hlt:k<n
  ·obtain ⟨_,_,_,hcase⟩:=h.below bw
   rcases hcase with e0 | ⟨b,off,rfl,hb,hc⟩
   ·omega
   obtain ⟨s,x0,x1,x2,hm⟩:=hc k hlt
   clear hc hb
   have hek:=memOk_ent hok (i:=k) (by omega)
   have y1:=entOk_bugs hek
   have y2:=entOk_foot hek
   have y3:=entOk_key hek
   have kE:=fun W (hb:Below wr.heap.size wr W)=>(copied_is (es.getD k e3d) s W (hm.below hb) (by omega) (by omega) (by omega)).mono (fun x w' h9=>(⟨h9.1.lower hb.size,bel8 hb h9.2⟩:EntGot x w' wr.heap.size (es.getD k e3d)∧Below wr.heap.size wr w'))
   have hsn:=take_snoc9 (es:=es) (k:=k) (by omega)
   clear hm hek y1 y2 y3
   generalize es.getD k e3d=x at *
   generalize hps:es.take k=ps at *
   have hpl:ps.length≤2000:=by rw [← hps];rw [List.length_take];omega
   clear hps
   obtain ⟨xk,xb,xz⟩:=x
   obtain ⟨⟨a1,n1,c1⟩,⟨a2,n2,c2⟩⟩:=s
   unfold entV at kE
   simp only at x0 x1 x2 kE
   have hlt':(k:Int)<(n:Int):=by omega
   have hk0:(0:Int)≤(k:Int):=by omega
   go_wp2_with fail
   refine (kE _ (by go_grown)).mono ?_
   rintro e w1 ⟨⟨⟨⟨d1,p1,q1⟩,⟨d2,p2,q2⟩⟩,rfl,hO⟩,hbn⟩
   obtain ⟨cs,ho,hE⟩:=hM
   have hb2:Below w1.heap.size w1 (w1.alloc (.cells #[.string xk,.slice d1 p1 q1,.slice d2 p2 q2] 39)):=by go_grown
   have ho2:=owns8 (owns8 ho hbn) hb2
   have hs2:w.heap.size+2≤(w1.alloc (.cells #[.string xk,.slice d1 p1 q1,.slice d2 p2 q2] 39)).heap.size:=by have:=hb2.size;have:=hbn.size;omega
   clear x0 x1 x2 kE
   unfold entV
   simp only
   go_wp2_with (at_builtin;refine wpList_app9 rfl _ _ 31 rfl (w.heap.size+2) 39 i0 (.agg #[.string ⟨#[]⟩,.slice none 0 0,.slice none 0 0]) 3 64 Tryd.underlying31 hi0 hz0 hz1 hz2 rfl (by decide) _ _ _ rfl ho2 _ 1 1 rfl (fun h9=>by cases h9) (entC xk ((d1,p1,q1),(d2,p2,q2))) (by simp [entC]) (news_new9 w1 [.string xk,.slice d1 p1 q1,.slice d2 p2 q2] 39) (entC_one _ _) (by unfold maxLen;omega) (by omega) hs2 ?_)
   intro v3 w3 hown hgrow _
   obtain ⟨va9,vc9,rfl⟩:=slice8 hown
   have hM3:=OwnM.snoc9 (s:=((d1,p1,q1),(d2,p2,q2))) ho hE hbn hO hb2 hgrow hown (by omega)
   have hgB:∀ g,(Value.ownBlock (.slice xa xn xc))=some g→w.heap.size+2≤g:=fun g hg=>(ho2.lt g hg).1
   have b3:Below w.heap.size w w3:=(bel8 (bel8 bw hbn) hb2).grown hgrow (by omega) (fun g hg=>by have:=hgB g hg;omega)
   have g3:=(Blk.kept ((pW.below hbn).below hb2) hgrow (fun e9=>by have:=hgB _ e9;omega))
   have c3:w3.cell? ⟨w.heap.size,0,none⟩=some (.slice (some ⟨b,off,none⟩) n cap):=grown8 hgrow (cell8 hb2 (cell8 hbn gw)) (fun e9=>by have:=hgB _ e9.symm;simp at this;omega)
   have s3:w.heap.size+2≤w3.heap.size:=Nat.le_trans hs2 hgrow.size
   skip
   clear ho hE hbn hO hb2 ho2 hs2 hown hgrow hgB
   go_wp2
   go_roundw
   case rel=>exact ⟨k+1,_,_,_,by omega,by go_num,rfl,by rw [← hsn];exact hM3,b3,c3,g3,s3⟩
   case measure=>simp [intOf];omega
  ·obtain rfl:k=n:=by omega
   have e9:es.take k=es:=by rw [List.take_of_length_le (by omega)]
   rw [e9] at hM
   have r0:=pW.cell 0
   have fr0:=pW.frozen 0
   have pZ:=pW.set 0 (.slice xa xn xc)
   simp only [List.set_cons_zero] at pZ
   have z0:=pZ.cell 0
   simp only [List.getElem?_cons_zero] at z0 r0
   have hM9:=(hM.low (p:=⟨w.heap.size+1,0,none⟩) (show w.heap.size+1<w.heap.size+2 by omega) (.slice xa xn xc)).lower (show w.heap.size≤w.heap.size+2 by omega)
   have bz:=bw.setCell (p:=⟨w.heap.size+1,0,none⟩) (show w.heap.size≤w.heap.size+1 by omega) (.slice xa xn xc)
   clear hM pZ pW bw e9
   go_wp2
   refine bodyPost_ret (by simp [results,Tryd.results38,go_sem,z0];try rfl) rfl ?_
   exact ⟨MemGot.mk9 hM9,bz⟩
end Go.Proofs.YthlcdhddickdiaaDoor
