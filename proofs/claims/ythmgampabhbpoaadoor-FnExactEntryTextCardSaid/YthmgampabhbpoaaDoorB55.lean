/-
  Joined: TxeI.
-/
import Derived.Test.YthmgampabhbpoaaDoorB39
import Derived.Test.YthmgampabhbpoaaDoorB45
import Derived.Test.YthmgampabhbpoaaDoorB52

namespace Go.Proofs.YthmgampabhbpoaaDoor
set_option maxRecDepth 100000
set_option maxHeartbeats 16000000
open Go.RowKit
set_option linter.unusedVariables false
set_option linter.unusedSimpArgs false

theorem own_no9 {w:World} {B n:Nat} {a:Option Addr} {m c:Nat} {xs:List Int} (h:w.ownsRow B 3 1 (.slice a m c) n (xs.map (Value.int .i64))):a=none→m=0∧c=0:=by
 rcases h.2 with ⟨hv,h0⟩ | ⟨g,cap,cur,hv,_⟩
 ·injection hv with e1 e2 e3
  exact fun _=>⟨e2,e3⟩
 ·injection hv with e1 e2 e3
  intro ha
  rw [ha] at e1
  cases e1

theorem numbersOfBugs_is (a:Option Addr) (n cap:Nat) (xs:List I3) (w:World) (h:Instrs w a n cap xs) (hn:n≤30) :
  Calls Tryd.prog 68 #[.slice a n cap] w fun e w'=>RowGot e w' w.heap.size (rowNums xs)∧Below w.heap.size w w':=by
 obtain ⟨i1,hi1,hz10,hz11,hz12⟩:=info_parts info_int
 have hl:=h.1
 go_enter Tryd.func68,Tryd.ntmps68
 go_wp2_with fail
 go_loopw [3,8] (fun so si wr=>∃ (k:Nat) (va:Option Addr) (vn vc:Nat),k≤n∧si=.int .i64 k∧so=.slice va vn vc∧wr.ownsRow w.heap.size 3 1 (.slice va vn vc) (rowNums (xs.take k)).length ((rowNums (xs.take k)).map (Value.int .i64))∧Below w.heap.size w wr) (fun _ si _=>n - (intOf si).toNat)
 case atStart=>exact ⟨0,none,0,0,by omega,rfl,rfl,by simpa [rowNums] using World.ownsRow_nil _ _ _ _,Below.refl _ _⟩
 case round =>
  obtain ⟨k,xa,xn,xc,hk,rfl,rfl,ho,bw⟩:=hrel
  by_cases hlt:k<n
  ·obtain ⟨_,_,_,_,hcase⟩:=h.below bw
   rcases hcase with e0 | ⟨b,off,rfl,hb,hc⟩
   ·omega
   obtain ⟨x0,x1,x2⟩:=hc k hlt
   clear hc hb
   have hst:=rowNums_step (xs:=xs) (k:=k) (by omega)
   have hrl:(rowNums (xs.take k)).length≤90:=by rw [rowNums_length,List.length_take];omega
   generalize rowNums (xs.take k)=R at *
   generalize xs.getD k (0,0,0)=x at *
   obtain ⟨p0,p1,p2⟩:=x
   simp only at x0 x1 x2 hst
   have HS:Hid (rowNums (xs.take (k+1))=R++[p0,p1,p2]):=hst
   clear hst
   have hlt':(k:Int)<(n:Int):=by omega
   have hk0:(0:Int)≤(k:Int):=by omega
   have hb2:Below wr.heap.size wr ((wr.alloc (.cells #[.int .i64 p0,.int .i64 p1,.int .i64 p2] 108)).alloc (.cells #[.int .i64 p0,.int .i64 p1,.int .i64 p2] 3)):=by go_grown
   have ho2:=owns8 ho hb2
   have hs2:=bw.size
   have hs3:w.heap.size≤((wr.alloc (.cells #[.int .i64 p0,.int .i64 p1,.int .i64 p2] 108)).alloc (.cells #[.int .i64 p0,.int .i64 p1,.int .i64 p2] 3)).heap.size:=by have:=hb2.size;omega
   have hnw:∀ ad,some (⟨wr.heap.size+1,0,none⟩:Addr)=some ad→∀ j u,([p0,p1,p2].map (Value.int .i64))[j]?=some u→((wr.alloc (.cells #[.int .i64 p0,.int .i64 p1,.int .i64 p2] 108)).alloc (.cells #[.int .i64 p0,.int .i64 p1,.int .i64 p2] 3)).cell? (ad.add j)=some u:=by
    have h9:=news_new9 (wr.alloc (.cells #[.int .i64 p0,.int .i64 p1,.int .i64 p2] 108)) [.int .i64 p0,.int .i64 p1,.int .i64 p2] 3
    have e9:(wr.alloc (.cells #[.int .i64 p0,.int .i64 p1,.int .i64 p2] 108)).heap.size=wr.heap.size+1:=by simp
    rw [e9] at h9
    exact h9
   go_wp2_with (at_builtin;refine wpList_app9 rfl _ _ 23 rfl w.heap.size 3 i1 (.int .i64 0) 1 8 Tryd.underlying23 hi1 hz10 hz11 hz12 rfl (by decide) _ _ _ rfl ho2 _ 3 3 rfl (fun h9=>by cases h9) ([p0,p1,p2].map (Value.int .i64)) (by simp) hnw (one8 _) (by unfold maxLen;omega) (by omega) hs3 ?_)
   intro v3 w3 hown hgrow _
   have q3:w3.ownsRow w.heap.size 3 1 v3 (R++[p0,p1,p2]).length ((R++[p0,p1,p2]).map (Value.int .i64)):=by rw [List.map_append,List.length_append];exact hown
   obtain ⟨va9,vc9,rfl⟩:=slice8 q3
   have hgB:∀ g,(Value.ownBlock (.slice xa xn xc))=some g→w.heap.size≤g:=fun g hg=>(ho2.lt g hg).1
   have b3:Below w.heap.size w w3:=(bel8 bw hb2).grown hgrow hs3 (fun g hg=>hgB g hg)
   clear ho ho2 hs2 hs3 hown hgrow hgB hb2 hnw x0 x1 x2
   go_wp2
   go_roundw
   case rel=>exact ⟨k+1,_,_,_,by omega,by go_num,rfl,by rw [HS.out];exact q3,b3⟩
   case measure=>simp [intOf];omega
  ·obtain rfl:k=n:=by omega
   have e9:rowNums (xs.take k)=rowNums xs:=by rw [List.take_of_length_le (by omega)]
   rw [e9] at ho
   clear e9
   go_wp2
   go_ret
   exact ⟨⟨_,rfl,ho⟩,bw⟩

def etxT (e:E3):ByteArray:=if entOk e=true then txtE e else ⟨#[]⟩
def etxC (e:E3):Int:=if entOk e=true then 0 else 1

theorem implEntryText_is (e:E3) (s:Sl2) (w:World) (h:Emem w s e) (hV:VmShape w) :
  Calls Tryd.prog 29 #[entV e.1 s] w fun x w'=>x=.returned (.tuple #[.string (etxT e),.int .i64 (etxC e)])∧Below w.heap.size w w':=by
 obtain ⟨i1,hi1,hz10,hz11,hz12⟩:=info_parts info_int
 have kE:=fun W (hb:Below w.heap.size w W)=>implEntryOK_is e s W (h.below hb) (hV.below hb)
 clear hV
 unfold etxT etxC
 have hl1:=h.2.1.1
 have hl2:=h.2.2.1.1
 have hc1:=h.2.1.2.1
 have hc2:=h.2.2.1.2.1
 obtain ⟨⟨_,z1,z2⟩,hB,hF,hfw⟩:=h
 obtain ⟨ek,eb,ez⟩:=e
 obtain ⟨⟨a1,n1,c1⟩,⟨a2,n2,c2⟩⟩:=s
 unfold entV
 simp only at *
 have bw:Below w.heap.size w (w.alloc (.cells #[.string ek,.slice a1 n1 c1,.slice a2 n2 c2] 30)):=by go_grown
 have pX:Blk (w.alloc (.cells #[.string ek,.slice a1 n1 c1,.slice a2 n2 c2] 30)) w.heap.size 30 [.string ek,.slice a1 n1 c1,.slice a2 n2 c2]:=blkAt _ _ _ rfl
 unfold entV at kE
 simp only at kE
 cases hok:entOk (ek,eb,ez)
 ·rw [if_neg (by simp),if_neg (by simp)]
  rw [hok] at kE
  clear hok
  go_enter Tryd.func29,Tryd.ntmps29
  go_wp2_with fail
  refine (kE _ bw).mono ?_
  rintro e w1 ⟨rfl,hb⟩
  replace bw:=bel8 bw hb
  go_wp2
  go_ret2
  exact ⟨rfl,bw⟩
 ·rw [if_pos rfl,if_pos rfl]
  rw [hok] at kE
  have hb30:n1≤30:=by have:=entOk_bugs hok;simp only at this;omega
  have hf23:n2≤23:=by have:=entOk_foot hok;simp only at this;omega
  have hk15:ek.size=15:=entOk_key hok
  have hk16:ek.size≤15:=by omega
  have HOK:=txtN_ok hok
  have HLN:=txtN_len hok
  have hrl:(rowNums eb).length≤90:=by rw [rowNums_length];omega
  have no2:=nil_of0 (m:=0) (P:=True) z2 hc2
  have kN:=fun W (hb:Below w.heap.size w W)=>numbersOfBugs_is a1 n1 c1 eb W (hB.below hb) hb30
  obtain ⟨tn,htn⟩:∃ tn,tn=txtN (ek,eb,ez):=⟨_,rfl⟩
  obtain ⟨R7,hR7⟩:∃ R7,R7=(n1:Int)::rowNums eb:=⟨_,rfl⟩
  obtain ⟨L7,hL7⟩:∃ L7,L7=1+(rowNums eb).length:=⟨_,rfl⟩
  obtain ⟨L8,hL8⟩:∃ L8,L8=L7+n2:=⟨_,rfl⟩
  have HT:Hid (tn=R7++ez):=by rw [Hid,htn,hR7,txtN];simp only;rw [hl1]
  have HL8b:L8=tn.length:=by rw [HT.out,List.length_append,hR7,List.length_cons];omega
  have HL8m:L8≤114:=by rw [HL8b,htn];exact HLN
  have hL7m:L7≤91:=by omega
  obtain ⟨tx,htx⟩:∃ tx,tx=strOfNums (packL tn):=⟨_,rfl⟩
  have hts:tx.size≤575:=by rw [htx];have:=packL_size (zs:=tn);omega
  have HX:Hid (txtE (ek,eb,ez)=ek++tx):=by rw [Hid,txtE,htx,htn]
  have kP:∀ ma mc W,Ints .i64 W ma L8 mc tn→Calls Tryd.prog 69 #[.slice ma L8 mc] W fun e w'=>e=.returned (.tuple #[.string tx,.int .i64 0])∧Below W.heap.size W w':=fun ma mc W hI=>(implPackList_any ma L8 mc tn W hI (by omega)).mono (fun e w' h9=>by
   rcases h9.1 with ⟨_,h8⟩ | ⟨h8,_⟩
   ·exact ⟨by rw [h8,htx],h9.2⟩
   ·exact absurd (htn▸HOK) h8)
  obtain ⟨fx,hfx⟩:∃ fx,fx=txtE (ek,eb,ez):=⟨_,rfl⟩
  rw [← hfx]
  rw [← hfx] at HX
  have HR:Hid (R7=(n1:Int)::rowNums eb):=hR7
  have HL7:Hid (L7=1+(rowNums eb).length):=hL7
  replace HL8:Hid (L8=L7+n2):=hL8
  clear hok htn hR7 hL7 hL8 HL8b htx hfx HOK HLN hk15 hB z1 z2 hc1 hc2
  go_enter Tryd.func29,Tryd.ntmps29
  go_wp2_with fail
  refine (kE _ bw).mono ?_
  rintro e W ⟨rfl,hb⟩
  replace bw:=bel8 bw hb
  replace pX:=pX.below hb
  clear hb kE
  obtain ⟨B,hBq⟩:∃ B,B=W.heap.size:=⟨_,rfl⟩
  have hBw:w.heap.size<B:=by have:=pX.lt;omega
  have hBw2:w.heap.size≤B:=by omega
  have HBS:B≤W.drew.heap.size:=by simp;omega
  clear hBq
  go_wp2_with fail
  refine wp_region_held_drew (S:=(fun w'=>w'.cell? ⟨w.heap.size,0,none⟩=some (.string ek)∧w'.cell? ⟨w.heap.size,1,none⟩=some (.slice a1 n1 c1)∧w'.cell? ⟨w.heap.size,2,none⟩=some (.slice a2 n2 c2))) (by kernel_rfl) ⟨pX.cell 0,pX.cell 1,pX.cell 2⟩ (fun hS0=>?_)
  refine tkx 0 10 (.pointer (some ⟨w.heap.size,1,none⟩)) ?_ ?_
  ·(intro w' hSw;(try dsimp only at hSw);go_simp;first | done | rfl | omega | (intro h9;omega) | (rw [IntKind.wrap_i64];omega))
  simp only [Act.put,tka,tkb,tkc]
  refine tkx 1 11 (.slice a1 n1 c1) ?_ ?_
  ·(intro w' hSw;(try dsimp only at hSw);go_simp;first | done | rfl | omega | (intro h9;omega) | (rw [IntKind.wrap_i64];omega))
  simp only [Act.put,tka,tkb,tkc]
  refine tkx 2 12 (.int .i64 (n1:Int)) ?_ ?_
  ·(intro w' hSw;(try dsimp only at hSw);go_simp;first | done | rfl | omega | (intro h9;omega) | (rw [IntKind.wrap_i64];omega))
  simp only [Act.put,tka,tkb,tkc]
  refine tkx 4 14 (.pointer (some ⟨w.heap.size,1,none⟩)) ?_ ?_
  ·(intro w' hSw;(try dsimp only at hSw);go_simp;first | done | rfl | omega | (intro h9;omega) | (rw [IntKind.wrap_i64];omega))
  simp only [Act.put,tka,tkb,tkc]
  refine tkx 5 15 (.slice a1 n1 c1) ?_ ?_
  ·(intro w' hSw;(try dsimp only at hSw);go_simp;first | done | rfl | omega | (intro h9;omega) | (rw [IntKind.wrap_i64];omega))
  simp only [Act.put,tka,tkb,tkc]
  replace bw:=bel8 bw (show Below W.heap.size W W.drew by go_grown)
  replace pX:=pX.below (show Below W.heap.size W W.drew by go_grown)
  refine wpAnyH_ready (rs:=[3,6]) (by kernel_rfl) (by simp) ?_
  refine AllReadyH.cons (o:=⟨some 13,_,_,_,_,_⟩) rfl (fun K hK=>?_) (AllReadyH.cons (o:=⟨some 16,_,_,_,_,_⟩) rfl (fun K hK=>?_) AllReadyH.nil)
  ·skip
   have hbb:Below W.drew.heap.size W.drew (W.drew.alloc (.cells #[.int .i64 (n1:Int)] 3)):=by go_grown
   have q3:(W.drew.alloc (.cells #[.int .i64 (n1:Int)] 3)).ownsRow B 3 1 (.slice (some ⟨W.drew.heap.size,0,none⟩) 1 1) 1 ([(n1:Int)].map (Value.int .i64)):=World.ownsRow_lit W.drew #[.int .i64 (n1:Int)] 1 HBS (by unfold maxLen;omega) (by simp)
   have e9:(W.drew.alloc (.cells #[.int .i64 (n1:Int)] 3))=(W.alloc (.cells #[.int .i64 (n1:Int)] 3)).drew:=rfl
   rw [e9] at hbb q3
   clear e9
   go_simp
   refine hK.out _ _ ?_ (fun hS3=>?_)
   ·exact ⟨cells_kept hbb _ _ hS0.1,cells_kept hbb _ _ hS0.2.1,cells_kept hbb _ _ hS0.2.2⟩
   clear hK
   try simp only [Act.put,tka,tkb,tkc]
   replace bw:=bel8 bw hbb
   replace pX:=pX.below hbb
   have HB3:=hbb.size
   clear hbb
   have kN:=kN _ bw
   generalize (W.alloc (.cells #[.int .i64 (n1:Int)] 3)).drew=V1 at *
   refine tkr 6 16 (fun K hK=>?_)
   go_simp
   refine (kN).mono ?_
   rintro e V2 ⟨⟨v6,rfl,q6⟩,hb6⟩
   go_wp2_with fail
   refine hK.out _ _ ?_ (fun hS6=>?_)
   ·exact ⟨cells_kept hb6 _ _ hS3.1,cells_kept hb6 _ _ hS3.2.1,cells_kept hb6 _ _ hS3.2.2⟩
   clear hK
   obtain ⟨va6,vc6,rfl⟩:=slice8 q6
   replace bw:=bel8 bw hb6
   replace pX:=pX.below hb6
   replace q3:=owns8 q3 hb6
   have HB6:=hb6.size
   clear hb6 kN
   refine tkr 7 17 (fun K hK=>?_)
   refine step_app9 rfl _ _ 23 rfl B 3 i1 (.int .i64 0) 1 8 Tryd.underlying23 hi1 hz10 hz11 hz12 rfl (by decide) _ _ _ rfl q3 _ _ _ rfl (own_no9 q6) ((rowNums eb).map (Value.int .i64)) (by rw [List.length_map,Nat.mul_one]) (fun ad ha=>by subst ha;exact newsI9 (ints8 q6)) (one8 _) (by unfold maxLen;omega) (by omega) (by omega) ?_
   intro v7 W7 hown hgrow _
   have HB7:=hgrow.size
   have q7:W7.ownsRow B 3 1 v7 L7 (R7.map (Value.int .i64)):=by
    have e1:R7.map (Value.int .i64)=[(n1:Int)].map (Value.int .i64)++(rowNums eb).map (Value.int .i64):=by rw [← List.map_append,HR.out];rfl
    rw [e1,HL7.out]
    exact hown
   have hgB:∀ g,(Value.ownBlock (.slice (some ⟨W.drew.heap.size,0,none⟩) 1 1))=some g→B≤g:=fun g hg=>(q3.lt g hg).1
   replace bw:=bw.grown hgrow (by omega) (fun g hg=>by have:=hgB g hg;omega)
   replace pX:=pX.kept hgrow (fun e9=>by have:=hgB _ e9;omega)
   go_simp
   refine hK.out _ _ ?_ (fun hS7=>?_)
   ·exact ⟨pX.cell 0,pX.cell 1,pX.cell 2⟩
   clear hK
   try simp only [Act.put,tka,tkb,tkc]
   obtain ⟨la,lc,rfl⟩:=slice8 q7
   clear hown hgrow hgB q3 q6
   refine tkx 8 4 (.slice la L7 lc) ?_ ?_
   ·(intro w' hSw;(try dsimp only at hSw);go_simp;first | done | rfl | omega | (intro h9;omega) | (rw [IntKind.wrap_i64];omega))
   simp only [Act.put,tka,tkb,tkc]
   refine wpAnyH_done (by kernel_rfl) ?_ _
   clear hS0 hS3 hS6 hS7
   have b7s:=bw.size
   have y2:=pX.cell 2
   simp only [List.getElem?_cons_zero,List.getElem?_cons_succ] at y2
   have hB7:B≤W7.heap.size:=by omega
   go_wp2_with (at_builtin;refine wpList_app9 rfl _ _ 23 rfl B 3 i1 (.int .i64 0) 1 8 Tryd.underlying23 hi1 hz10 hz11 hz12 rfl (by decide) _ _ _ rfl q7 a2 n2 c2 rfl no2 (ez.map (Value.int .i64)) (by rw [List.length_map,Nat.mul_one];exact hl2) (fun ad ha=>by subst ha;exact newsI9 (hF.below bw)) (one8 ez) (by unfold maxLen;omega) (by omega) hB7 ?_)
   intro v8 W8 hown hgrow _
   have q8:W8.ownsRow B 3 1 v8 L8 (tn.map (Value.int .i64)):=by
    have e1:tn.map (Value.int .i64)=R7.map (Value.int .i64)++ez.map (Value.int .i64):=by rw [← List.map_append,HT.out]
    rw [e1,HL8.out]
    exact hown
   have hgB:∀ g,(Value.ownBlock (.slice la L7 lc))=some g→B≤g:=fun g hg=>(q7.lt g hg).1
   replace bw:=bw.grown hgrow (by omega) (fun g hg=>by have:=hgB g hg;omega)
   replace pX:=pX.kept hgrow (fun e9=>by have:=hgB _ e9;omega)
   obtain ⟨ma,mc,rfl⟩:=slice8 q8
   have hI:=ints8 q8
   clear hown hgrow hgB q7 q8 y2 b7s hB7
   go_wp2_with fail
   refine (kP ma mc W8 hI).mono ?_
   rintro e W9 ⟨rfl,hb⟩
   replace bw:=bel8 bw hb
   replace pX:=pX.below hb
   clear hb hI
   have y0:=pX.cell 0
   simp only [List.getElem?_cons_zero] at y0
   clear pX
   go_wp2
   go_ret2
   exact ⟨by rw [HX.out];rfl,bw⟩
  ·skip
   go_simp
   refine (kN _ bw).mono ?_
   rintro e V1 ⟨⟨v6,rfl,q6⟩,hb6⟩
   obtain ⟨va6,vc6,rfl⟩:=slice8 q6
   go_wp2_with fail
   refine hK.out _ _ ?_ (fun hS6=>?_)
   ·exact ⟨cells_kept hb6 _ _ hS0.1,cells_kept hb6 _ _ hS0.2.1,cells_kept hb6 _ _ hS0.2.2⟩
   clear hK
   replace bw:=bel8 bw hb6
   replace pX:=pX.below hb6
   have HB6:=hb6.size
   replace HBS:=Nat.le_trans HBS HB6
   clear hb6 kN
   refine tkr 3 13 (fun K hK=>?_)
   have hbb:Below V1.heap.size V1 (V1.alloc (.cells #[.int .i64 (n1:Int)] 3)):=by go_grown
   have q3:(V1.alloc (.cells #[.int .i64 (n1:Int)] 3)).ownsRow B 3 1 (.slice (some ⟨V1.heap.size,0,none⟩) 1 1) 1 ([(n1:Int)].map (Value.int .i64)):=World.ownsRow_lit V1 #[.int .i64 (n1:Int)] 1 HBS (by unfold maxLen;omega) (by simp)
   go_simp
   refine hK.out _ _ ?_ (fun hS3=>?_)
   ·exact ⟨cells_kept hbb _ _ hS6.1,cells_kept hbb _ _ hS6.2.1,cells_kept hbb _ _ hS6.2.2⟩
   clear hK
   try simp only [Act.put,tka,tkb,tkc]
   replace bw:=bel8 bw hbb
   replace pX:=pX.below hbb
   replace q6:=owns8 q6 hbb
   have HB3:=hbb.size
   clear hbb
   refine tkr 7 17 (fun K hK=>?_)
   refine step_app9 rfl _ _ 23 rfl B 3 i1 (.int .i64 0) 1 8 Tryd.underlying23 hi1 hz10 hz11 hz12 rfl (by decide) _ _ _ rfl q3 _ _ _ rfl (own_no9 q6) ((rowNums eb).map (Value.int .i64)) (by rw [List.length_map,Nat.mul_one]) (fun ad ha=>by subst ha;exact newsI9 (ints8 q6)) (one8 _) (by unfold maxLen;omega) (by omega) (by omega) ?_
   intro v7 W7 hown hgrow _
   have HB7:=hgrow.size
   have q7:W7.ownsRow B 3 1 v7 L7 (R7.map (Value.int .i64)):=by
    have e1:R7.map (Value.int .i64)=[(n1:Int)].map (Value.int .i64)++(rowNums eb).map (Value.int .i64):=by rw [← List.map_append,HR.out];rfl
    rw [e1,HL7.out]
    exact hown
   have hgB:∀ g,(Value.ownBlock (.slice (some ⟨V1.heap.size,0,none⟩) 1 1))=some g→B≤g:=fun g hg=>(q3.lt g hg).1
   replace bw:=bw.grown hgrow (by omega) (fun g hg=>by have:=hgB g hg;omega)
   replace pX:=pX.kept hgrow (fun e9=>by have:=hgB _ e9;omega)
   go_simp
   refine hK.out _ _ ?_ (fun hS7=>?_)
   ·exact ⟨pX.cell 0,pX.cell 1,pX.cell 2⟩
   clear hK
   try simp only [Act.put,tka,tkb,tkc]
   obtain ⟨la,lc,rfl⟩:=slice8 q7
   clear hown hgrow hgB q3 q6
   refine tkx 8 4 (.slice la L7 lc) ?_ ?_
   ·(intro w' hSw;(try dsimp only at hSw);go_simp;first | done | rfl | omega | (intro h9;omega) | (rw [IntKind.wrap_i64];omega))
   simp only [Act.put,tka,tkb,tkc]
   refine wpAnyH_done (by kernel_rfl) ?_ _
   clear hS0 hS3 hS6 hS7
   have b7s:=bw.size
   have y2:=pX.cell 2
   simp only [List.getElem?_cons_zero,List.getElem?_cons_succ] at y2
   have hB7:B≤W7.heap.size:=by omega
   go_wp2_with (at_builtin;refine wpList_app9 rfl _ _ 23 rfl B 3 i1 (.int .i64 0) 1 8 Tryd.underlying23 hi1 hz10 hz11 hz12 rfl (by decide) _ _ _ rfl q7 a2 n2 c2 rfl no2 (ez.map (Value.int .i64)) (by rw [List.length_map,Nat.mul_one];exact hl2) (fun ad ha=>by subst ha;exact newsI9 (hF.below bw)) (one8 ez) (by unfold maxLen;omega) (by omega) hB7 ?_)
   intro v8 W8 hown hgrow _
   have q8:W8.ownsRow B 3 1 v8 L8 (tn.map (Value.int .i64)):=by
    have e1:tn.map (Value.int .i64)=R7.map (Value.int .i64)++ez.map (Value.int .i64):=by rw [← List.map_append,HT.out]
    rw [e1,HL8.out]
    exact hown
   have hgB:∀ g,(Value.ownBlock (.slice la L7 lc))=some g→B≤g:=fun g hg=>(q7.lt g hg).1
   replace bw:=bw.grown hgrow (by omega) (fun g hg=>by have:=hgB g hg;omega)
   replace pX:=pX.kept hgrow (fun e9=>by have:=hgB _ e9;omega)
   obtain ⟨ma,mc,rfl⟩:=slice8 q8
   have hI:=ints8 q8
   clear hown hgrow hgB q7 q8 y2 b7s hB7
   go_wp2_with fail
   refine (kP ma mc W8 hI).mono ?_
   rintro e W9 ⟨rfl,hb⟩
   replace bw:=bel8 bw hb
   replace pX:=pX.below hb
   clear hb hI
   have y0:=pX.cell 0
   simp only [List.getElem?_cons_zero] at y0
   clear pX
   go_wp2
   go_ret2
   exact ⟨by rw [HX.out];rfl,bw⟩
end Go.Proofs.YthmgampabhbpoaaDoor
