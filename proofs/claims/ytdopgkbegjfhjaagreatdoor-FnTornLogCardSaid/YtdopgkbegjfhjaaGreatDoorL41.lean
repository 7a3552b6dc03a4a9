/-
  Joined: TxeS, RowBelow, RecD, DskP, At.
-/
import Derived.Shelf.Small.Strs
import Derived.Test.YtdopgkbegjfhjaaGreatDoorL38
import Derived.Test.YtdopgkbegjfhjaaGreatDoorL39

namespace Go.Proofs.YtdopgkbegjfhjaaGreatDoor
set_option maxRecDepth 100000
set_option maxHeartbeats 16000000
open Go.RowKit
set_option linter.unusedVariables false
set_option linter.unusedSimpArgs false

theorem l10Text_is (e:E3) (s:Sl2) (w:World) (h:Emem w s e) (hok:entOk e=true) :
  Calls Tryz.prog 62 #[entV e.1 s] w fun x w'=>x=.returned (.string (txtE e))∧Below w.heap.size w w':=by
 obtain ⟨i1,hi1,hz10,hz11,hz12⟩:=info_parts info_int
 have hl1:=h.2.1.1
 have hl2:=h.2.2.1.1
 have hc2:=h.2.2.1.2.1
 obtain ⟨⟨_,z1,z2⟩,hB,hF,hfw⟩:=h
 obtain ⟨ek,eb,ez⟩:=e
 obtain ⟨⟨a1,n1,c1⟩,⟨a2,n2,c2⟩⟩:=s
 unfold entV
 simp only at *
 have bw0:Below w.heap.size w ((w.alloc (.cells #[.string ek,.slice a1 n1 c1,.slice a2 n2 c2] 74)).alloc (.cells #[.int .i64 (n1:Int)] 3)):=by go_grown
 have pX0:Blk ((w.alloc (.cells #[.string ek,.slice a1 n1 c1,.slice a2 n2 c2] 74)).alloc (.cells #[.int .i64 (n1:Int)] 3)) w.heap.size 74 [.string ek,.slice a1 n1 c1,.slice a2 n2 c2]:=blkOld _ (blkAt _ _ _ rfl)
 have hb30:n1≤30:=by have:=entOk_bugs hok;simp only at this;omega
 have hf23:n2≤23:=by have:=entOk_foot hok;simp only at this;omega
 have hk16:ek.size≤15:=by have:ek.size=15:=entOk_key hok;omega
 have HOK:=txtN_ok hok
 have HLN:=txtN_len hok
 have no2:=nil_of0 (m:=0) (P:=True) z2 hc2
 obtain ⟨tn,htn⟩:∃ tn,tn=txtN (ek,eb,ez):=⟨_,rfl⟩
 obtain ⟨L8,hL8⟩:∃ L8,L8=tn.length:=⟨_,rfl⟩
 have HL8m:L8≤114:=by rw [hL8,htn];exact HLN
 obtain ⟨tx,htx⟩:∃ tx,tx=strOfNums (packL tn):=⟨_,rfl⟩
 have hts:tx.size≤575:=by rw [htx];have:=packL_size (zs:=tn);omega
 have HX:Hid (txtE (ek,eb,ez)=ek++tx):=by rw [Hid,txtE,htx,htn]
 have kP:∀ ma mc W,Ints .i64 W ma L8 mc tn→Calls Tryz.prog 84 #[.slice ma L8 mc] W fun e w'=>e=.returned (.string tx)∧Below W.heap.size W w':=fun ma mc W hI=>by
  rw [htx]
  exact l01List_any ma L8 mc tn W hI (by omega) (htn▸HOK)
 obtain ⟨fx,hfx⟩:∃ fx,fx=txtE (ek,eb,ez):=⟨_,rfl⟩
 rw [← hfx]
 rw [← hfx] at HX
 have HTN:Hid (tn=((n1:Int)::rowNums eb)++ez):=by rw [Hid,htn,txtN];simp only;rw [hl1]
 have HL8l:Hid (L8=tn.length):=hL8
 clear hok htn hL8 htx hfx HOK HLN z1 z2 hc2
 have M0:((w.alloc (.cells #[.string ek,.slice a1 n1 c1,.slice a2 n2 c2] 74)).alloc (.cells #[.int .i64 (n1:Int)] 3)).ownsRow (w.heap.size+1) 3 1 (.slice (some ⟨w.heap.size+1,0,none⟩) 1 1) 1 ([(n1:Int)].map (Value.int .i64)):=by
  have h9:=World.ownsRow_lit (base:=w.heap.size+1) (e:=3) (size:=1) (w.alloc (.cells #[.string ek,.slice a1 n1 c1,.slice a2 n2 c2] 74)) #[.int .i64 (n1:Int)] 1 (by simp) (by unfold maxLen;omega) (by simp)
  simpa using h9
 have hs0:w.heap.size+1≤((w.alloc (.cells #[.string ek,.slice a1 n1 c1,.slice a2 n2 c2] 74)).alloc (.cells #[.int .i64 (n1:Int)] 3)).heap.size:=by simp
 go_enter Tryz.func62,Tryz.ntmps62
 go_wp2_with fail
 generalize ((w.alloc (.cells #[.string ek,.slice a1 n1 c1,.slice a2 n2 c2] 74)).alloc (.cells #[.int .i64 (n1:Int)] 3))=V0 at *
 go_loopw [3,4] (fun so si wr=>∃ (k:Nat) (va:Option Addr) (vn vc:Nat),k≤n1∧si=.int .i64 k∧so=.slice va vn vc∧wr.ownsRow (w.heap.size+1) 3 1 (.slice va vn vc) ((n1:Int)::rowNums (eb.take k)).length (((n1:Int)::rowNums (eb.take k)).map (Value.int .i64))∧Below w.heap.size w wr∧Blk wr w.heap.size 74 [.string ek,.slice a1 n1 c1,.slice a2 n2 c2]∧w.heap.size+1≤wr.heap.size) (fun _ si _=>n1 - (intOf si).toNat)
 case atStart=>exact ⟨0,_,_,_,by omega,rfl,rfl,by simpa [rowNums] using M0,bw0,pX0,hs0⟩
 case round =>
  obtain ⟨k,xa,xn,xc,hk,rfl,rfl,ho,bw,pX,hsw⟩:=hrel
  clear M0 bw0 pX0 hs0
  by_cases hlt:k<n1
  ·have hB9:=hB
   obtain ⟨_,_,_,_,hcase⟩:=hB9
   rcases hcase with e0 | ⟨b,off,rfl,hbw,hc⟩
   ·omega
   have hx9:=hc k hlt
   clear hc
   have hst:(n1:Int)::rowNums (eb.take (k+1))=((n1:Int)::rowNums (eb.take k))++[(eb.getD k (0,0,0)).1,(eb.getD k (0,0,0)).2.1,(eb.getD k (0,0,0)).2.2]:=by rw [rowNums_step (by omega)];rfl
   have hrl:((n1:Int)::rowNums (eb.take k)).length≤91:=by rw [List.length_cons,rowNums_length,List.length_take];omega
   generalize (n1:Int)::rowNums (eb.take k)=R at *
   generalize eb.getD k (0,0,0)=x at *
   obtain ⟨p0,p1,p2⟩:=x
   simp only at hx9 hst
   have HS:Hid ((n1:Int)::rowNums (eb.take (k+1))=R++[p0,p1,p2]):=hst
   clear hst
   have yw:=pX.cell 1
   simp only [List.getElem?_cons_zero,List.getElem?_cons_succ] at yw
   have bd:Below wr.heap.size wr wr.drew:=by go_grown
   replace bw:=bel8 bw bd
   replace pX:=pX.below bd
   replace ho:=owns8 ho bd
   have hsd:w.heap.size+1≤wr.drew.heap.size:=Nat.le_trans hsw bd.size
   obtain ⟨x0,x1,x2⟩:wr.drew.cell? ⟨b,off+k*3,none⟩=some (.int .i64 p0)∧wr.drew.cell? ⟨b,off+k*3+1,none⟩=some (.int .i64 p1)∧wr.drew.cell? ⟨b,off+k*3+2,none⟩=some (.int .i64 p2):=by rw [bw.cell (p:=⟨b,_,none⟩) hbw,bw.cell (p:=⟨b,_,none⟩) hbw,bw.cell (p:=⟨b,_,none⟩) hbw];exact hx9
   have y1:=pX.cell 1
   simp only [List.getElem?_cons_zero,List.getElem?_cons_succ] at y1
   have hlt':(k:Int)<(n1:Int):=by omega
   have hk0:(0:Int)≤(k:Int):=by omega
   have hb2:Below wr.drew.heap.size wr.drew (wr.drew.alloc (.cells #[.int .i64 p0,.int .i64 p1,.int .i64 p2] 3)):=by go_grown
   have ho2:=owns8 ho hb2
   have hs3:w.heap.size+1≤(wr.drew.alloc (.cells #[.int .i64 p0,.int .i64 p1,.int .i64 p2] 3)).heap.size:=by have:=hb2.size;omega
   have hnw:∀ ad,some (⟨wr.heap.size,0,none⟩:Addr)=some ad→∀ j u,([p0,p1,p2].map (Value.int .i64))[j]?=some u→(wr.drew.alloc (.cells #[.int .i64 p0,.int .i64 p1,.int .i64 p2] 3)).cell? (ad.add j)=some u:=news_new9 wr.drew [.int .i64 p0,.int .i64 p1,.int .i64 p2] 3
   have e9:(wr.drew.alloc (.cells #[.int .i64 p0,.int .i64 p1,.int .i64 p2] 3))=(wr.alloc (.cells #[.int .i64 p0,.int .i64 p1,.int .i64 p2] 3)).drew:=rfl
   rw [e9] at hb2 ho2 hs3 hnw
   clear e9 bd hsd
   go_wp2_with fail
   refine wp_region_held_drew (S:=(fun w'=>w'.cell? ⟨w.heap.size,1,none⟩=some (.slice (some ⟨b,off,none⟩) n1 c1)∧w'.cell? ⟨b,off+k*3,none⟩=some (.int .i64 p0)∧w'.cell? ⟨b,off+k*3+1,none⟩=some (.int .i64 p1)∧w'.cell? ⟨b,off+k*3+2,none⟩=some (.int .i64 p2))) (by kernel_rfl) ⟨y1,x0,x1,x2⟩ (fun hS0=>?_)
   refine tkv 0 16 (.slice xa xn xc) ?_
   refine tkv 1 17 (.pointer (some ⟨w.heap.size,1,none⟩)) ?_
   refine tkv 2 18 (.slice (some ⟨b,off,none⟩) n1 c1) ?_
   refine tkv 3 19 (.int .i64 (k:Int)) ?_
   refine tkv 4 20 (.pointer (some ⟨b,off+k*3,none⟩)) ?_
   refine tkv 5 21 (.pointer (some ⟨b,off+k*3,none⟩)) ?_
   refine tkv 6 22 (.int .i64 p0) ?_
   refine tkv 7 23 (.pointer (some ⟨w.heap.size,1,none⟩)) ?_
   refine tkv 8 24 (.slice (some ⟨b,off,none⟩) n1 c1) ?_
   refine tkv 9 25 (.int .i64 (k:Int)) ?_
   refine tkv 10 26 (.pointer (some ⟨b,off+k*3,none⟩)) ?_
   refine tkv 11 27 (.pointer (some ⟨b,off+k*3+1,none⟩)) ?_
   refine tkv 12 28 (.int .i64 p1) ?_
   refine tkv 13 29 (.pointer (some ⟨w.heap.size,1,none⟩)) ?_
   refine tkv 14 30 (.slice (some ⟨b,off,none⟩) n1 c1) ?_
   refine tkv 15 31 (.int .i64 (k:Int)) ?_
   refine tkv 16 32 (.pointer (some ⟨b,off+k*3,none⟩)) ?_
   refine tkv 17 33 (.pointer (some ⟨b,off+k*3+2,none⟩)) ?_
   refine tkv 18 34 (.int .i64 p2) ?_
   refine tkr 19 35 (fun K hK=>?_)
   go_simp
   refine hK.out _ _ ?_ (fun hS1=>?_)
   ·exact ⟨cells_kept hb2 _ _ hS0.1,cells_kept hb2 _ _ hS0.2.1,cells_kept hb2 _ _ hS0.2.2.1,cells_kept hb2 _ _ hS0.2.2.2⟩
   clear hK
   try simp only [Act.put,tka,tkb,tkc]
   refine tkr 20 36 (fun K hK=>?_)
   refine step_app9 rfl _ _ 40 rfl (w.heap.size+1) 3 i1 (.int .i64 0) 1 8 Tryz.underlying40 hi1 hz10 hz11 hz12 rfl (by decide) _ _ _ rfl ho2 _ 3 3 rfl (fun h9=>by cases h9) ([p0,p1,p2].map (Value.int .i64)) (by simp) hnw (one8 _) (by unfold maxLen;omega) (by omega) hs3 ?_
   intro v3 w3 hown hgrow _
   have q3:w3.ownsRow (w.heap.size+1) 3 1 v3 (R++[p0,p1,p2]).length ((R++[p0,p1,p2]).map (Value.int .i64)):=by rw [List.map_append,List.length_append];exact hown
   have hgB:∀ g,(Value.ownBlock (.slice xa xn xc))=some g→w.heap.size+1≤g:=fun g hg=>(ho2.lt g hg).1
   have b3:Below w.heap.size w w3:=(bel8 bw hb2).grown hgrow (by omega) (fun g hg=>by have:=hgB g hg;omega)
   have pX3:=(pX.below hb2).kept hgrow (fun e9=>by have:=hgB _ e9;omega)
   have hS2:w3.cell? ⟨b,off+k*3,none⟩=some (.int .i64 p0)∧w3.cell? ⟨b,off+k*3+1,none⟩=some (.int .i64 p1)∧w3.cell? ⟨b,off+k*3+2,none⟩=some (.int .i64 p2):=by rw [b3.cell (p:=⟨b,_,none⟩) hbw,b3.cell (p:=⟨b,_,none⟩) hbw,b3.cell (p:=⟨b,_,none⟩) hbw];exact hx9
   have hs9:=Nat.le_trans hs3 hgrow.size
   go_simp
   refine hK.out _ _ ?_ (fun hS3=>?_)
   ·exact ⟨pX3.cell 1,hS2⟩
   clear hK
   try simp only [Act.put,tka,tkb,tkc]
   obtain ⟨va9,vc9,rfl⟩:=slice8 q3
   clear ho ho2 hown hgrow hgB hb2 hnw hS2 hs3
   refine tkv 21 3 (.slice va9 (R++[p0,p1,p2]).length vc9) ?_
   refine wpAnyH_done (by kernel_rfl) ?_ _
   clear x0 x1 x2 y1 yw hS0 hS1 hS3 pX bw
   go_wp2
   go_roundw
   case rel=>exact ⟨k+1,_,_,_,by omega,by go_num,rfl,by rw [HS.out];exact q3,b3,pX3,hs9⟩
   case measure=>simp [intOf];omega
  ·obtain rfl:k=n1:=by omega
   have e9:rowNums (eb.take k)=rowNums eb:=by rw [List.take_of_length_le (by omega)]
   rw [e9] at ho
   have hrl:((k:Int)::rowNums eb).length≤91:=by rw [List.length_cons,rowNums_length];omega
   clear e9
   generalize (k:Int)::rowNums eb=R at *
   have HT:Hid (tn=R++ez):=HTN
   have HL8:Hid (L8=R.length+n2):=by rw [Hid,HL8l.out,HT.out,List.length_append,hl2]
   clear HTN HL8l
   have yw:=pX.cell 1
   simp only [List.getElem?_cons_zero,List.getElem?_cons_succ] at yw
   have bd:Below wr.heap.size wr wr.drew:=by go_grown
   replace bw:=bel8 bw bd
   replace pX:=pX.below bd
   replace ho:=owns8 ho bd
   replace hsw:w.heap.size+1≤wr.drew.heap.size:=Nat.le_trans hsw bd.size
   clear bd
   have hlt':¬ (k:Int)<(k:Int):=by omega
   have y1:=pX.cell 1
   simp only [List.getElem?_cons_zero,List.getElem?_cons_succ] at y1
   go_wp2_with fail
   refine wp_region_held_drew (S:=(fun w'=>w'.cell? ⟨w.heap.size,0,none⟩=some (.string ek)∧w'.cell? ⟨w.heap.size,2,none⟩=some (.slice a2 n2 c2))) (by kernel_rfl) ⟨pX.cell 0,pX.cell 2⟩ (fun hS0=>?_)
   refine tkv 0 37 (.pointer (some ⟨w.heap.size,0,none⟩)) ?_
   refine tkv 1 38 (.string ek) ?_
   refine tkv 2 39 (.slice xa xn xc) ?_
   refine tkv 3 40 (.pointer (some ⟨w.heap.size,2,none⟩)) ?_
   refine tkv 4 41 (.slice a2 n2 c2) ?_
   refine tkr 5 42 (fun K hK=>?_)
   refine step_app9 rfl _ _ 40 rfl (w.heap.size+1) 3 i1 (.int .i64 0) 1 8 Tryz.underlying40 hi1 hz10 hz11 hz12 rfl (by decide) _ _ _ rfl ho a2 n2 c2 rfl no2 (ez.map (Value.int .i64)) (by rw [List.length_map,Nat.mul_one];exact hl2) (fun ad ha=>by subst ha;exact newsI9 (hF.below bw)) (one8 ez) (by unfold maxLen;omega) (by omega) hsw ?_
   intro v8 W8 hown hgrow _
   have q8:W8.ownsRow (w.heap.size+1) 3 1 v8 L8 (tn.map (Value.int .i64)):=by
    have e1:tn.map (Value.int .i64)=R.map (Value.int .i64)++ez.map (Value.int .i64):=by rw [← List.map_append,HT.out]
    rw [e1,HL8.out]
    exact hown
   have hgB:∀ g,(Value.ownBlock (.slice xa xn xc))=some g→w.heap.size+1≤g:=fun g hg=>(ho.lt g hg).1
   replace bw:=bw.grown hgrow (by omega) (fun g hg=>by have:=hgB g hg;omega)
   replace pX:=pX.kept hgrow (fun e9=>by have:=hgB _ e9;omega)
   go_simp
   refine hK.out _ _ ?_ (fun hS5=>?_)
   ·exact ⟨pX.cell 0,pX.cell 2⟩
   clear hK
   try simp only [Act.put,tka,tkb,tkc]
   obtain ⟨ma,mc,rfl⟩:=slice8 q8
   have hI:=ints8 q8
   clear hown hgrow hgB
   refine tkr 6 43 (fun K hK=>?_)
   go_simp
   refine (kP ma mc W8 hI).mono ?_
   rintro e W9 ⟨rfl,hb⟩
   go_wp2_with fail
   refine hK.out _ _ ?_ (fun hS6=>?_)
   ·exact ⟨cells_kept hb _ _ hS5.1,cells_kept hb _ _ hS5.2⟩
   clear hK
   refine tkv 7 44 (.string (ek++tx)) ?_
   refine tkv 8 2 (.string (ek++tx)) ?_
   refine wpAnyH_done (by kernel_rfl) ?_ _
   replace bw:=bel8 bw hb
   clear hS0 hS5 hS6 hb hI q8 pX ho y1 yw
   go_wp2
   go_ret
   exact ⟨by rw [HX.out];rfl,bw⟩


theorem IsRow.below {k:IntKind} {w w':World} {a:Option Addr} {len cap:Nat} {zs:List Int} (h:IsRow k w a len cap zs) (hb:Below w.heap.size w w'):IsRow k w' a len cap zs:=by
 rcases h with h | ⟨x,h1,h2,h3,h4,h5,h6⟩
 ·exact .inl h
 ·refine .inr ⟨x,h1,h2,h3,h4,fun i hi=>?_,h6⟩
  have hc:=h5 i hi
  have hlt:(x.add i).block<w.heap.size:=by
   rcases Nat.lt_or_ge (x.add i).block w.heap.size with h' | h'
   ·exact h'
   ·simp [World.cell?,Array.getElem?_eq_none h'] at hc
  rw [hb.cell hlt]
  exact hc
theorem IsRow.len_le {k:IntKind} {w:World} {a:Option Addr} {len cap:Nat} {zs:List Int} (h:IsRow k w a len cap zs):len≤maxLen:=by
 rcases h with ⟨_,rfl,_,_⟩ | ⟨x,h1,h2,h3,_⟩
 ·omega
 ·omega
theorem IsRow.drew {k:IntKind} {w:World} {a:Option Addr} {len cap:Nat} {zs:List Int} (h:IsRow k w a len cap zs) (d:Nat):IsRow k (w.drewN d) a len cap zs:=h


theorem triples_unT:∀ xs:List I3,triples (unT xs)=xs
 | []=>rfl
 | x::xs=>by
  show (x.1,x.2.1,x.2.2)::triples (unT xs)=_
  rw [triples_unT xs]
theorem unT_mem:∀ {xs:List I3} {z:Int},z ∈ unT xs→∃ x ∈ xs,z=x.1∨z=x.2.1∨z=x.2.2
 | [],z,h=>by cases h
 | x::xs,z,h=>by
  simp only [unT,List.mem_cons] at h
  rcases h with h | h | h | h
  ·exact ⟨x,List.mem_cons_self,.inl h⟩
  ·exact ⟨x,List.mem_cons_self,.inr (.inl h)⟩
  ·exact ⟨x,List.mem_cons_self,.inr (.inr h)⟩
  ·obtain ⟨y,hy,h⟩:=unT_mem h
   exact ⟨y,List.mem_cons_of_mem _ hy,h⟩
theorem unT_ok {xs:List I3} (h:∀ x ∈ xs,okB x=true):allOk (unT xs):=by
 intro z hz
 obtain ⟨x,hx,h9⟩:=unT_mem hz
 obtain ⟨h1,h2,h3⟩:=okB_small (h x hx)
 rcases h9 with rfl | rfl | rfl<;>omega
theorem com_back {xs:List I3} (h:∀ x ∈ xs,okB x=true) (hr:riseB xs=true) (hl:xs.length≤30):ComOk (strOfNums (packL (unT xs))):=by
 obtain ⟨ns,en,mn⟩:=nats_of (unT_ok h)
 have hlen:=unT_len xs
 have ln:ns.length=(unT xs).length:=by rw [en];simp
 have L:=listed_pack mn (by omega)
 rw [← packL_nats,← en] at L
 refine ⟨ns,L,by omega,by omega,?_⟩
 rw [show ofNats ns=unT xs from en.symm,triples_unT]
 exact hr
theorem com_small {xs:List I3} (hl:xs.length≤30):(strOfNums (packL (unT xs))).size<1000:=by
 have:=packL_size (zs:=unT xs)
 have:=unT_len xs
 omega
theorem ver_back9 {rows:List (List I3)} (h:progOk rows=true):IsProg (strOfNums (packL (progNums rows))) rows 0:=by
 obtain ⟨ns,e,hb⟩:=nats_of (progNums_ok h)
 have hplen:=progNums_len (rows:=rows) (fun r hr=>((progOk_parts h).2 r hr).1)
 have h3:=(progOk_parts h).1
 have ln:ns.length=(progNums rows).length:=by rw [e];simp
 have hp:=parse_nums rows
 rw [h3,e] at hp
 refine .inl ⟨rfl,ns,?_,hp,h⟩
 rw [e,packL_nats]
 exact listed_pack hb (by omega)
def RecDr (e:Ending):Prop:=∃ r:R2,RecOk r∧e=.returned r.val
theorem RecDr.ver {rows:List (List I3)} (h:progOk rows=true):RecOk (1,strOfNums (packL (progNums rows))):=by
 have hp:=packL_size (zs:=progNums rows)
 have hplen:=progNums_len (rows:=rows) (fun r hr=>((progOk_parts h).2 r hr).1)
 have h3:=(progOk_parts h).1
 exact ⟨by simp only;omega,.inl ⟨rfl,rows,ver_back9 h⟩⟩
theorem RecDr.ent {e:E3} (h:entOk e=true):RecOk (2,txtE e):=by
 have hp:=packL_size (zs:=txtN e)
 have hl:=txtN_len h
 have hk:=entOk_key h
 have hz:(txtE e).size=15+(strOfNums (packL (txtN e))).size:=by unfold txtE;simp [hk]
 exact ⟨by simp only;omega,.inr (.inl ⟨rfl,e,rd_back h⟩)⟩
theorem RecDr.com {xs:List I3} (h:∀ x ∈ xs,okB x=true) (hr:riseB xs=true) (hl:xs.length≤30):RecOk (3,strOfNums (packL (unT xs))):=
 ⟨com_small hl,.inr (.inr ⟨rfl,com_back h hr hl⟩)⟩
theorem RecDr.mk {k:Int} {t:ByteArray} (h:RecOk (k,t)):RecDr (.returned (.agg #[.int .i64 k,.string t])):=⟨(k,t),h,rfl⟩
theorem recFin {p:Nat} {w w':World} (h:Went p w w') (hB:Blk w' w.heap.size 24 [.int .i64 0,.string ⟨#[]⟩]) (k:Int) (t:ByteArray):∃ W,W=(w'.setCell ⟨w.heap.size,0,none⟩ (.int .i64 k)).setCell ⟨w.heap.size,1,none⟩ (.string t)∧W.cell? ⟨w.heap.size,0,none⟩=some (.int .i64 k)∧W.cell? ⟨w.heap.size,1,none⟩=some (.string t)∧Went p w W:=
 ⟨_,rfl,((hB.set 0 (.int .i64 k)).set 1 (.string t)).cell 0,((hB.set 0 (.int .i64 k)).set 1 (.string t)).cell 1,(h.grown (grownBy_set _ _ _ _) (fun k hk=>by cases hk;exact Nat.le_refl _)).grown (grownBy_set _ _ _ _) (fun k hk=>by cases hk;exact Nat.le_refl _)⟩

theorem record_any (p T:Nat) (a:Option Addr) (n cap:Nat) (w:World) (hS:Src w p (.slice a n cap) T) (hC:Code w p a n cap) (hT:T≤400000) :
  Calls Tryz.prog 34 #[.pointer (some ⟨p,0,none⟩)] w fun e w'=>RecDr e∧Went p w w':=by
 have hpw:p<w.heap.size:=hS.lt
 have hW:Went p w (w.alloc (.cells #[.int .i64 0,.string ⟨#[]⟩] 24)):=(Went.refl p w).alloc _
 have pR:Blk (w.alloc (.cells #[.int .i64 0,.string ⟨#[]⟩] 24)) w.heap.size 24 [.int .i64 0,.string ⟨#[]⟩]:=blkAt _ _ _ rfl
 have hS1:=hS.alloc (.cells #[.int .i64 0,.string ⟨#[]⟩] 24)
 have hC1:=hC.went hW (Nat.le_of_lt hpw)
 have hsz:(w.alloc (.cells #[.int .i64 0,.string ⟨#[]⟩] 24)).heap.size=w.heap.size+1:=by simp
 have hne:w.heap.size≠p:=by omega
 go_enter Tryz.func34,Tryz.ntmps34
 go_wp2_with fail
 generalize (w.alloc (.cells #[.int .i64 0,.string ⟨#[]⟩] 24))=W1 at *
 refine (next_any p T a n cap 3 W1 hS1 hC1 (by omega) (by omega)).mono ?_
 rintro x w2 ⟨⟨v,hv,rfl⟩,hS2,hWn⟩
 replace hW:=hW.trans hWn
 replace pR:=pR.went hWn hne
 replace hC1:=hC1.went hWn (by omega)
 have hs2:w.heap.size+1≤w2.heap.size:=by have:=hWn.size;omega
 clear hWn hS1 hsz
 rcases (by omega:v=0∨v=1∨v=2) with rfl | rfl | rfl
 ·go_wp2_with fail
  refine (program_go p (T+3) a n cap w2 hS2 hC1 (by omega)).mono ?_
  rintro x w3 ⟨⟨vp,rows,hok,rfl,hP⟩,hS3,hWn⟩
  obtain ⟨aP,capP,rfl⟩:=hP.slice
  have hfit:∀ r ∈ rows,∀ x ∈ r,I3.fits x:=fun r hr x hx=>okI_fits (((progOk_parts hok).2 r hr).2 x hx)
  have HD:Hid (RecDr (.returned (.agg #[.int .i64 1,.string (strOfNums (packL (progNums rows)))]))):=RecDr.mk (RecDr.ver hok)
  have kP:=l02Pack_ok _ _ _ rows _ (hP.codes hfit) hok
  replace hW:=hW.trans hWn
  replace pR:=pR.went hWn hne
  clear hWn hS2 hS3 hC1 hP hfit hok
  go_wp2_with fail
  refine kP.mono ?_
  rintro x w4 ⟨rfl,b4⟩
  replace hW:=hW.trans (Went.of_below b4)
  replace pR:=pR.below b4
  clear b4 kP
  generalize strOfNums (packL (progNums rows))=t at *
  obtain ⟨W,hW9,z0,z1,hWW⟩:=recFin hW pR 1 (t)
  have r0:=pR.cell 0
  have r1:=pR.cell 1
  have fr0:=pR.frozen 0
  have fr1:=pR.frozen 1
  simp only [List.getElem?_cons_zero,List.getElem?_cons_succ] at r0 r1
  clear pR hW
  go_wp2
  rw [← hW9]
  clear hW9
  refine bodyPost_ret (by simp [results,Tryz.results34,go_sem,z0,z1];try rfl) rfl ?_
  exact ⟨HD.out,hWW⟩
 ·go_wp2_with fail
  refine (bugs_any p (T+3) a n cap w2 hS2 hC1 (by omega)).mono ?_
  rintro x w3 ⟨⟨vb,bs,hbl,hbo,rfl,qb⟩,hS3,hWn⟩
  replace hW:=hW.trans hWn
  replace pR:=pR.went hWn hne
  obtain ⟨ba,bc,hve,hIb⟩:=(Instrs.of_ownB9 qb (fun x hx=>okB_fits (hbo x hx)))
  subst hve
  have hrise:riseB (mergeB bs [])=true:=rise_of9 (fun x hx=>by
   rcases mem_mergeB.1 hx with h9 | h9
   ·exact hbo x h9
   ·cases h9) (mergeB_rises _ _)
  have hml:(mergeB bs []).length≤30:=by have:=mergeB_len bs [];simp at this;omega
  have hmo:∀ x ∈ mergeB bs [],okB x=true:=fun x hx=>by
   rcases mem_mergeB.1 hx with h9 | h9
   ·exact hbo x h9
   ·cases h9
  have HD:Hid (RecDr (.returned (.agg #[.int .i64 3,.string (strOfNums (packL (unT (mergeB bs []))))]))):=RecDr.mk (RecDr.com hmo hrise hml)
  clear hWn hS2 hS3 hC1 qb hrise
  have bE:Below w3.heap.size w3 (w3.alloc (.cells #[] 112)):=by go_grown
  replace hW:=hW.trans (Went.of_below bE)
  replace pR:=pR.below bE
  have hIe:Instrs (w3.alloc (.cells #[] 112)) (some ⟨w3.heap.size,0,none⟩) 0 0 []:=⟨rfl,Nat.le_refl _,by unfold maxLen;omega,by simp,.inl rfl⟩
  have kM:=l04Merge_is _ _ _ bs _ _ _ [] _ (hIb.below bE) hIe (by omega) (by omega)
  clear bE hIb hIe
  go_wp2_with fail
  generalize (w3.alloc (.cells #[] 112))=W3 at *
  refine kM.mono ?_
  rintro x w4 ⟨⟨vm,rfl,qm⟩,b4⟩
  replace hW:=hW.trans (Went.of_below b4)
  replace pR:=pR.below b4
  clear b4 kM
  obtain ⟨ma,mc,rfl,hIm⟩:=(Instrs.of_ownB9 qm (fun x hx=>okB_fits (hmo x hx)))
  have kC:=l13Commit_is ma _ mc (mergeB bs []) w4 hIm (by omega) (unT_ok hmo)
  clear qm hmo hIm
  generalize mergeB bs []=mb at *
  go_wp2_with fail
  refine kC.mono ?_
  rintro x w5 ⟨rfl,b5⟩
  replace hW:=hW.trans (Went.of_below b5)
  replace pR:=pR.below b5
  clear b5 kC
  generalize strOfNums (packL (unT mb))=t at *
  obtain ⟨W,hW9,z0,z1,hWW⟩:=recFin hW pR 3 (t)
  have r0:=pR.cell 0
  have r1:=pR.cell 1
  have fr0:=pR.frozen 0
  have fr1:=pR.frozen 1
  simp only [List.getElem?_cons_zero,List.getElem?_cons_succ] at r0 r1
  clear pR hW
  go_wp2
  rw [← hW9]
  clear hW9
  refine bodyPost_ret (by simp [results,Tryz.results34,go_sem,z0,z1];try rfl) rfl ?_
  exact ⟨HD.out,hWW⟩
 ·go_wp2_with fail
  refine (entry_any p (T+3) a n cap w2 hS2 hC1 (by omega)).mono ?_
  rintro x w3 ⟨⟨en,s,hok,hef,rfl,hO⟩,hS3,hWn⟩
  replace hW:=hW.trans hWn
  replace pR:=pR.went hWn hne
  have HD:Hid (RecDr (.returned (.agg #[.int .i64 2,.string (txtE en)]))):=RecDr.mk (RecDr.ent hok)
  have kE:=l10Text_is en s w3 (hO.mem hef) hok
  clear hWn hS2 hS3 hC1 hO
  go_wp2_with fail
  refine kE.mono ?_
  rintro x w4 ⟨rfl,b4⟩
  replace hW:=hW.trans (Went.of_below b4)
  replace pR:=pR.below b4
  clear b4 kE
  generalize txtE en=t at *
  obtain ⟨W,hW9,z0,z1,hWW⟩:=recFin hW pR 2 (t)
  have r0:=pR.cell 0
  have r1:=pR.cell 1
  have fr0:=pR.frozen 0
  have fr1:=pR.frozen 1
  simp only [List.getElem?_cons_zero,List.getElem?_cons_succ] at r0 r1
  clear pR hW
  go_wp2
  rw [← hW9]
  clear hW9
  refine bodyPost_ret (by simp [results,Tryz.results34,go_sem,z0,z1];try rfl) rfl ?_
  exact ⟨HD.out,hWW⟩

theorem recordDrawn_code (a:Option Addr) (n cap:Nat) (w:World) (hC0:Code w w.heap.size a n cap) (hn:n≤1048577) :
  Calls Tryz.prog 10 #[.slice a n cap] w fun e w'=>RecDr e∧Below w.heap.size w w':=by
 have bw:Below w.heap.size w (w.alloc (.cells #[.int .i64 0,.string ⟨#[]⟩] 24)):=by go_grown
 have pR:Blk (w.alloc (.cells #[.int .i64 0,.string ⟨#[]⟩] 24)) w.heap.size 24 [.int .i64 0,.string ⟨#[]⟩]:=blkAt _ _ _ rfl
 have hC:Code (w.alloc (.cells #[.int .i64 0,.string ⟨#[]⟩] 24)) (w.alloc (.cells #[.int .i64 0,.string ⟨#[]⟩] 24)).heap.size a n cap:=by
  obtain ⟨zs,c1,c2,c3,c4⟩:=hC0
  exact ⟨zs,c1.below bw,c2,c3,fun x hx h9=>by have:=c4 x hx h9;have:=bw.size;omega⟩
 go_enter Tryz.func10,Tryz.ntmps10
 go_wp2_with fail
 generalize (w.alloc (.cells #[.int .i64 0,.string ⟨#[]⟩] 24))=W1 at *
 refine (l00Source_far a n cap W1 hn).mono ?_
 rintro e w1 ⟨rfl,hS1,hb1⟩
 have hC1:=hC.below hb1
 have hl:=pR.lt
 replace bw:=bel8 bw hb1
 replace pR:=pR.below hb1
 go_wp2_with fail
 refine (record_any _ 0 a n cap _ hS1 hC1 (by omega)).mono ?_
 rintro e w2 ⟨⟨⟨k,t⟩,hr,rfl⟩,hW2⟩
 have HD:Hid (RecDr (.returned (.agg #[.int .i64 k,.string t]))):=RecDr.mk hr
 have hb2:=hW2.below (Nat.le_of_lt hS1.lt)
 have bw2:Below w.heap.size w w2:=bw.trans (hb2.mono (by omega))
 replace pR:=pR.went hW2 (by omega)
 unfold R2.val
 have r0:=pR.cell 0
 have r1:=pR.cell 1
 have fr0:=pR.frozen 0
 have fr1:=pR.frozen 1
 have pZ:=(pR.set 0 (.int .i64 k)).set 1 (.string t)
 simp only [List.set_cons_zero,List.set_cons_succ] at pZ
 have z0:=pZ.cell 0
 have z1:=pZ.cell 1
 simp only [List.getElem?_cons_zero,List.getElem?_cons_succ] at z0 z1 r0 r1
 have bz:=(bw2.setCell (p:=⟨w.heap.size,0,none⟩) (Nat.le_refl _) (.int .i64 k)).setCell (p:=⟨w.heap.size,1,none⟩) (Nat.le_refl _) (.string t)
 clear pZ pR hW2 hS1 hC1 hC hb2 bw bw2 hr
 go_wp2
 refine bodyPost_ret (by simp [results,Tryz.results10,go_sem,z0,z1];try rfl) rfl ?_
 exact ⟨HD.out,bz⟩
theorem recordDrawn_any (a:Option Addr) (n cap:Nat) (zs:List Int) (w:World) (hI:IsRow .u8 w a n cap zs) (hn:n≤1048576) :
  Calls Tryz.prog 10 #[.slice a n cap] w fun e w'=>RecDr e∧Below w.heap.size w w':=recordDrawn_code a n cap w (code_of hI hn) (by omega)


theorem implFlushDisk_is (s q:ByteArray) (w:World) (hd:s.size+q.size≤1048576) :
  Calls Tryz.prog 12 #[.agg #[.string s,.string q]] w fun e w'=>e=ResD (flushD (s,q))∧Below w.heap.size w w':=by
 have hF:=FrD.new w (s,q)
 go_enter Tryz.func12,Tryz.ntmps12
 go_wp2_with fail
 refine (implDiskOK_is (s,q) _ hd).mono ?_
 rintro e w1 ⟨rfl,b1⟩
 replace hF:=hF.below b1
 clear b1
 by_cases h:s.size+q.size≤60000
 ·have hk:decide (s.size+q.size≤60000)=true:=decide_eq_true h
  simp only [hk]
  have hA:flushD (s,q)=((s++q,noT),0):=by unfold flushD;simp [h]
  go_wp2_with fail
  refine (flush_is _ (s,q) _ hd hF.1).mono ?_
  rintro e w2 ⟨rfl,b2,g2⟩
  replace hF:=hF.grown g2 b2
  clear b2 g2
  go_wp2_with fail
  refine (own_is _ (s++q,noT) _ (few_app s q h) hF.1).mono ?_
  rintro e w3 ⟨rfl,b3⟩
  replace hF:=hF.below b3
  clear b3
  unfold D2.val
  obtain ⟨_,_,c2,c3,c4,c5⟩:=hF.cells
  go_wp2
  obtain ⟨W,hW,e0,e1,bW⟩:=hF.fin (s++q) (noT)
  rw [← hW]
  clear hW
  refine bodyPost_ret (by simp [results,Tryz.results12,go_sem,e0,e1];try rfl) rfl ?_
  exact ⟨by first | rfl | (rw [hA];rfl),bW⟩
 ·have hk:decide (s.size+q.size≤60000)=false:=decide_eq_false h
  simp only [hk]
  have hA:flushD (s,q)=(noD,1):=by unfold flushD;simp [h]
  obtain ⟨_,_,c2,c3,c4,c5⟩:=hF.cells
  go_wp2
  obtain ⟨W,hW,e0,e1,bW⟩:=hF.fin (noT) (noT)
  rw [← hW]
  clear hW
  refine bodyPost_ret (by simp [results,Tryz.results12,go_sem,e0,e1];try rfl) rfl ?_
  exact ⟨by first | rfl | (rw [hA];rfl),bW⟩

theorem implAppendDisk_is (s q:ByteArray) (t:ByteArray) (w:World) (hd:s.size+q.size≤1048576) (ht:t.size≤1048576) :
  Calls Tryz.prog 35 #[.agg #[.string s,.string q],.string t] w fun e w'=>e=ResD (appD (s,q) t)∧Below w.heap.size w w':=by
 have hF:=FrD.new w (s,q)
 go_enter Tryz.func35,Tryz.ntmps35
 by_cases hl:65536<t.size
 ·have hl2:(65536:Int)<(t.size:Int):=by omega
  have hA:appD (s,q) t=(noD,2):=by unfold appD;simp [hl]
  go_wp2
  go_returns
  exact ⟨by first | rfl | (rw [hA];rfl),by go_grown⟩
 have hl2:¬ (65536:Int)<(t.size:Int):=by omega
 go_wp2_with fail
 refine (implDiskOK_is (s,q) _ hd).mono ?_
 rintro e w1 ⟨rfl,b1⟩
 replace hF:=hF.below b1
 clear b1
 by_cases h:s.size+q.size≤60000
 ·have hk:decide (s.size+q.size≤60000)=true:=decide_eq_true h
  simp only [hk]
  by_cases hr:s.size+q.size+t.size≤60000
  ·have hA:appD (s,q) t=((s,q++t),0):=by unfold appD;simp [hl,h,hr]
   go_wp2_with fail
   refine (add_yes _ (s,q) t _ hd hF.1 hr).mono ?_
   rintro e w2 ⟨rfl,b2,g2⟩
   replace hF:=hF.grown g2 b2
   clear b2 g2
   go_wp2_with fail
   refine (own_is _ (s,q++t) _ (few_app2 s q t hr) hF.1).mono ?_
   rintro e w3 ⟨rfl,b3⟩
   replace hF:=hF.below b3
   clear b3
   unfold D2.val
   obtain ⟨_,_,c2,c3,c4,c5⟩:=hF.cells
   go_wp2
   obtain ⟨W,hW,e0,e1,bW⟩:=hF.fin (s) (q++t)
   rw [← hW]
   clear hW
   refine bodyPost_ret (by simp [results,Tryz.results35,go_sem,e0,e1];try rfl) rfl ?_
   exact ⟨by first | rfl | (rw [hA];rfl),bW⟩
  ·have hA:appD (s,q) t=((s,q),7):=by unfold appD;simp [hl,h,hr]
   go_wp2_with fail
   refine (add_no _ (s,q) t _ hd hF.1 hr ht).mono ?_
   rintro e w2 ⟨rfl,b2⟩
   replace hF:=hF.below b2
   clear b2
   go_wp2_with fail
   refine (own_is _ (s,q) _ (hd) hF.1).mono ?_
   rintro e w3 ⟨rfl,b3⟩
   replace hF:=hF.below b3
   clear b3
   unfold D2.val
   obtain ⟨_,_,c2,c3,c4,c5⟩:=hF.cells
   go_wp2
   obtain ⟨W,hW,e0,e1,bW⟩:=hF.fin (s) (q)
   rw [← hW]
   clear hW
   refine bodyPost_ret (by simp [results,Tryz.results35,go_sem,e0,e1];try rfl) rfl ?_
   exact ⟨by first | rfl | (rw [hA];rfl),bW⟩
 ·have hk:decide (s.size+q.size≤60000)=false:=decide_eq_false h
  simp only [hk]
  have hA:appD (s,q) t=(noD,1):=by unfold appD;simp [hl,h]
  obtain ⟨_,_,c2,c3,c4,c5⟩:=hF.cells
  go_wp2
  obtain ⟨W,hW,e0,e1,bW⟩:=hF.fin (noT) (noT)
  rw [← hW]
  clear hW
  refine bodyPost_ret (by simp [results,Tryz.results35,go_sem,e0,e1];try rfl) rfl ?_
  exact ⟨by first | rfl | (rw [hA];rfl),bW⟩

theorem implCrashDisk_is (s q:ByteArray) (k:Int) (w:World) (hd:s.size+q.size≤1048576) :
  Calls Tryz.prog 15 #[.agg #[.string s,.string q],.int .i64 k] w fun e w'=>e=ResD (crashD (s,q) k)∧Below w.heap.size w w':=by
 have hF:=FrD.new w (s,q)
 go_enter Tryz.func15,Tryz.ntmps15
 go_wp2_with fail
 refine (implDiskOK_is (s,q) _ hd).mono ?_
 rintro e w1 ⟨rfl,b1⟩
 replace hF:=hF.below b1
 clear b1
 by_cases h:s.size+q.size≤60000
 ·have hk:decide (s.size+q.size≤60000)=true:=decide_eq_true h
  simp only [hk]
  by_cases hk0:k<0
  ·have hin:¬ (0≤k∧k≤60000):=by omega
   have hA:crashD (s,q) k=(noD,4):=by unfold crashD;simp [h,hin]
   obtain ⟨_,_,c2,c3,c4,c5⟩:=hF.cells
   go_wp2
   obtain ⟨W,hW,e0,e1,bW⟩:=hF.fin (noT) (noT)
   rw [← hW]
   clear hW
   refine bodyPost_ret (by simp [results,Tryz.results15,go_sem,e0,e1];try rfl) rfl ?_
   exact ⟨by first | rfl | (rw [hA];rfl),bW⟩
  by_cases hk1:60000<k
  ·have hin:¬ (0≤k∧k≤60000):=by omega
   have hA:crashD (s,q) k=(noD,4):=by unfold crashD;simp [h,hin]
   obtain ⟨_,_,c2,c3,c4,c5⟩:=hF.cells
   go_wp2
   obtain ⟨W,hW,e0,e1,bW⟩:=hF.fin (noT) (noT)
   rw [← hW]
   clear hW
   refine bodyPost_ret (by simp [results,Tryz.results15,go_sem,e0,e1];try rfl) rfl ?_
   exact ⟨by first | rfl | (rw [hA];rfl),bW⟩
  have hin:0≤k∧k≤60000:=by omega
  have hA:crashD (s,q) k=((s++q.extract 0 (min k (q.size:Int)).toNat,noT),0):=by unfold crashD;simp [h,hin]
  go_wp2_with fail
  refine (settle_is _ (s,q) k (min k (q.size:Int)).toNat _ hd hF.1 hin.1 (by simp only;omega)).mono ?_
  rintro e w2 ⟨rfl,b2,g2⟩
  replace hF:=hF.grown g2 b2
  clear b2 g2
  go_wp2_with fail
  refine (own_is _ (s++q.extract 0 (min k (q.size:Int)).toNat,noT) _ (few_ext s q _ h) hF.1).mono ?_
  rintro e w3 ⟨rfl,b3⟩
  replace hF:=hF.below b3
  clear b3
  unfold D2.val
  obtain ⟨_,_,c2,c3,c4,c5⟩:=hF.cells
  go_wp2
  obtain ⟨W,hW,e0,e1,bW⟩:=hF.fin (s++q.extract 0 (min k (q.size:Int)).toNat) (noT)
  rw [← hW]
  clear hW
  refine bodyPost_ret (by simp [results,Tryz.results15,go_sem,e0,e1];try rfl) rfl ?_
  exact ⟨by first | rfl | (rw [hA];rfl),bW⟩
 ·have hk:decide (s.size+q.size≤60000)=false:=decide_eq_false h
  simp only [hk]
  have hA:crashD (s,q) k=(noD,1):=by unfold crashD;simp [h]
  obtain ⟨_,_,c2,c3,c4,c5⟩:=hF.cells
  go_wp2
  obtain ⟨W,hW,e0,e1,bW⟩:=hF.fin (noT) (noT)
  rw [← hW]
  clear hW
  refine bodyPost_ret (by simp [results,Tryz.results15,go_sem,e0,e1];try rfl) rfl ?_
  exact ⟨by first | rfl | (rw [hA];rfl),bW⟩

theorem implReplaceDisk_is (s q:ByteArray) (t:ByteArray) (w:World) (hd:s.size+q.size≤1048576) (ht:t.size≤1048576) :
  Calls Tryz.prog 19 #[.agg #[.string s,.string q],.string t] w fun e w'=>e=ResD (replD (s,q) t)∧Below w.heap.size w w':=by
 have hF:=FrD.new w (s,q)
 go_enter Tryz.func19,Tryz.ntmps19
 by_cases hl:65536<t.size
 ·have hl2:(65536:Int)<(t.size:Int):=by omega
  have hA:replD (s,q) t=(noD,2):=by unfold replD;simp [hl]
  go_wp2
  go_returns
  exact ⟨by first | rfl | (rw [hA];rfl),by go_grown⟩
 have hl2:¬ (65536:Int)<(t.size:Int):=by omega
 go_wp2_with fail
 refine (implDiskOK_is (s,q) _ hd).mono ?_
 rintro e w1 ⟨rfl,b1⟩
 replace hF:=hF.below b1
 clear b1
 by_cases h:s.size+q.size≤60000
 ·have hk:decide (s.size+q.size≤60000)=true:=decide_eq_true h
  simp only [hk]
  by_cases hr:t.size≤60000
  ·have hA:replD (s,q) t=((t,noT),0):=by unfold replD;simp [hl,h,hr]
   go_wp2_with fail
   refine (replace_yes _ (s,q) t _ hF.1 hr).mono ?_
   rintro e w2 ⟨rfl,b2,g2⟩
   replace hF:=hF.grown g2 b2
   clear b2 g2
   go_wp2_with fail
   refine (own_is _ (t,noT) _ (few_one t hr) hF.1).mono ?_
   rintro e w3 ⟨rfl,b3⟩
   replace hF:=hF.below b3
   clear b3
   unfold D2.val
   obtain ⟨_,_,c2,c3,c4,c5⟩:=hF.cells
   go_wp2
   obtain ⟨W,hW,e0,e1,bW⟩:=hF.fin (t) (noT)
   rw [← hW]
   clear hW
   refine bodyPost_ret (by simp [results,Tryz.results19,go_sem,e0,e1];try rfl) rfl ?_
   exact ⟨by first | rfl | (rw [hA];rfl),bW⟩
  ·have hA:replD (s,q) t=((s,q),7):=by unfold replD;simp [hl,h,hr]
   go_wp2_with fail
   refine (replace_no _ (s,q) t _ hr ht).mono ?_
   rintro e w2 ⟨rfl,b2⟩
   replace hF:=hF.below b2
   clear b2
   go_wp2_with fail
   refine (own_is _ (s,q) _ (hd) hF.1).mono ?_
   rintro e w3 ⟨rfl,b3⟩
   replace hF:=hF.below b3
   clear b3
   unfold D2.val
   obtain ⟨_,_,c2,c3,c4,c5⟩:=hF.cells
   go_wp2
   obtain ⟨W,hW,e0,e1,bW⟩:=hF.fin (s) (q)
   rw [← hW]
   clear hW
   refine bodyPost_ret (by simp [results,Tryz.results19,go_sem,e0,e1];try rfl) rfl ?_
   exact ⟨by first | rfl | (rw [hA];rfl),bW⟩
 ·have hk:decide (s.size+q.size≤60000)=false:=decide_eq_false h
  simp only [hk]
  have hA:replD (s,q) t=(noD,1):=by unfold replD;simp [hl,h]
  obtain ⟨_,_,c2,c3,c4,c5⟩:=hF.cells
  go_wp2
  obtain ⟨W,hW,e0,e1,bW⟩:=hF.fin (noT) (noT)
  rw [← hW]
  clear hW
  refine bodyPost_ret (by simp [results,Tryz.results19,go_sem,e0,e1];try rfl) rfl ?_
  exact ⟨by first | rfl | (rw [hA];rfl),bW⟩


def Chosen (n:Int) (e:Ending):Prop:=∃ v:Nat,((v:Int)<n∨v=0)∧e=.returned (.int .i64 v)
theorem chosen_mk {n x:Int} (h0:0≤x) (h:x<n):Chosen n (.returned (.int .i64 x)):=⟨x.toNat,.inl (by omega),by rw [Int.toNat_of_nonneg h0]⟩

theorem at_any (a:Option Addr) (len cap:Nat) (zs:List Int) (i n:Int) (w:World) (hI:IsRow .u8 w a len cap zs) (hlen:len≤1048576) (hi0:0≤i) (hi1:i≤1000000) (hn:n≤1000000000) :
  Calls Tryz.prog 14 #[.slice a len cap,.int .i64 i,.int .i64 n] w fun e w'=>Chosen n e∧∃ d,w'=w.drewN d:=by
 by_cases h1:n≤1
 ·go_enter Tryz.func14,Tryz.ntmps14
  go_wp2
  go_ret
  exact ⟨⟨0,.inr rfl,rfl⟩,0,rfl⟩
 by_cases h0:len=0
 ·subst h0
  go_enter Tryz.func14,Tryz.ntmps14
  go_wp2
  go_ret
  exact ⟨chosen_mk (Int.emod_nonneg (i*7) (by omega)) (Int.emod_lt_of_pos (i*7) (by omega)),0,rfl⟩
 ·have hbnd:∀ j,j<len→0≤(zs.take len).getD j 0∧(zs.take len).getD j 0≤255:=by
   intro j hj
   rcases hI with ⟨_,hl0,_,_⟩ | ⟨x,_,hlc,_,hzl,_,hw⟩
   ·exact absurd hl0 h0
   ·have hm:(zs.take len).getD j 0 ∈ zs:=by
     have hjz:j<zs.length:=by omega
     simp [List.getD,hj,List.getElem?_eq_getElem hjz]
    have hw':=hw _ hm
    generalize (zs.take len).getD j 0=y at hw' ⊢
    simp [Lit.wf,IntKind.min,IntKind.max,IntKind.signed,IntKind.bits] at hw'
    omega
  obtain ⟨hl,hlc,hcm,hcase⟩:=Ints.of_isRow hI
  unfold maxLen at hcm
  rcases hcase with h0' | ⟨b,off,rfl,hblt,hcell⟩
  ·exact absurd h0' h0
  obtain ⟨k,rfl⟩:=Int.eq_ofNat_of_zero_le hi0
  have hpos:0<len:=by omega
  obtain ⟨q,hq⟩:∃ q:Nat,q=k % len:=⟨_,rfl⟩
  obtain ⟨r,hr⟩:∃ r:Nat,r=(k+1) % len:=⟨_,rfl⟩
  obtain ⟨d,hd⟩:∃ d:Nat,d=k / len:=⟨_,rfl⟩
  have hql:q<len:=by rw [hq];exact Nat.mod_lt _ hpos
  have hrl:r<len:=by rw [hr];exact Nat.mod_lt _ hpos
  have hdk:d≤k:=by rw [hd];exact Nat.div_le_self _ _
  have t1:((k:Int)).tmod (len:Int)=(q:Int):=by rw [hq,Int.tmod_eq_emod_of_nonneg (by omega)];rfl
  have t2:((k:Int)+1).tmod (len:Int)=(r:Int):=by rw [hr,Int.tmod_eq_emod_of_nonneg (by omega)];rfl
  have t3:((k:Int)).tdiv (len:Int)=(d:Int):=by rw [hd,Int.tdiv_eq_ediv_of_nonneg (by omega)];rfl
  have cq:=hcell q hql
  have cr:=hcell r hrl
  obtain ⟨x1,x2⟩:=hbnd q hql
  obtain ⟨y1,y2⟩:=hbnd r hrl
  generalize (zs.take len).getD q 0=x at cq x1 x2
  generalize (zs.take len).getD r 0=y at cr y1 y2
  have hq1:(q:Int)<(len:Int):=by omega
  have hr1:(r:Int)<(len:Int):=by omega
  have w1:IntKind.i64.wrap ((k:Int)+1)=(k:Int)+1:=IntWalk.i64_in _ ⟨by omega,by omega⟩
  have w2:IntKind.i64.wrap (d:Int)=(d:Int):=IntWalk.i64_in _ ⟨by omega,by omega⟩
  have w3:IntKind.i64.wrap x=x:=IntWalk.i64_in _ ⟨by omega,by omega⟩
  have w4:IntKind.i64.wrap y=y:=IntWalk.i64_in _ ⟨by omega,by omega⟩
  have w5:IntKind.i64.wrap (x*31)=x*31:=IntWalk.i64_in _ ⟨by omega,by omega⟩
  have w6:IntKind.i64.wrap (x*31+y)=x*31+y:=IntWalk.i64_in _ ⟨by omega,by omega⟩
  have w7:IntKind.i64.wrap (x*31+y+(d:Int))=x*31+y+(d:Int):=IntWalk.i64_in _ ⟨by omega,by omega⟩
  have t4:(x*31+y+(d:Int)).tmod n=(x*31+y+(d:Int)) % n:=Int.tmod_eq_emod_of_nonneg (by omega)
  have hne:((len:Int) == 0)=false:=by simp;omega
  have hnn:(n == 0)=false:=by simp;omega
  have hne':¬ (len:Int)=0:=by omega
  have hnn':¬ n=0:=by omega
  clear hcell hbnd hI hq hr hd hl
  go_enter Tryz.func14,Tryz.ntmps14
  go_wp2
  go_quiet (fail)
  go_wp2
  go_ret
  exact ⟨chosen_mk (Int.emod_nonneg (x*31+y+(d:Int)) (by omega)) (Int.emod_lt_of_pos (x*31+y+(d:Int)) (by omega)),_,rfl⟩
end Go.Proofs.YtdopgkbegjfhjaaGreatDoor
