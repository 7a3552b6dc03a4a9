/-
  Joined: KpsI, EntS, EsP.
-/
import Derived.Test.YthmgampabhbpoaaGreatDoorF37
import Derived.Test.YthmgampabhbpoaaGreatDoorF40
import Derived.Test.YthmgampabhbpoaaGreatDoorF42

namespace Go.Proofs.YthmgampabhbpoaaGreatDoor
set_option maxRecDepth 100000
set_option maxHeartbeats 16000000
open Go.RowKit
set_option linter.unusedVariables false
set_option linter.unusedSimpArgs false

def EntO (w0 w:World) (B:Nat) (v:Value) (es:List E3):Prop:=∃ L:List EQ,L.map (·.1)=es∧w.ownsRow B 33 3 v L.length (entL L)∧∀ x ∈ L,Emem w0 x.2 x.1
theorem EntO.below {w0 w w':World} {B:Nat} {v:Value} {es:List E3} (h:EntO w0 w B v es) (hb:Below w.heap.size w w'):EntO w0 w' B v es:=by
 obtain ⟨L,h1,h2,h3⟩:=h
 exact ⟨L,h1,owns8 h2 hb,h3⟩
theorem EntO.ents {w0 w:World} {B:Nat} {a:Option Addr} {n c:Nat} {es:List E3} (h:EntO w0 w B (.slice a n c) es) (hb:Below w0.heap.size w0 w):Ents w a n c es:=by
 obtain ⟨L,rfl,h2,h3⟩:=h
 obtain ⟨a',c',e⟩:=slice8 h2
 injection e with e1 e2 e3
 subst e1 e2 e3
 exact (EntQ.of_owns h2 (fun x hx=>(h3 x hx).below hb)).ents
theorem EntO.low {w0 w:World} {B:Nat} {v:Value} {es:List E3} (h:EntO w0 w B v es) {p:Addr} (hp:p.block<B) (u:Value):EntO w0 (w.setCell p u) B v es:=by
 obtain ⟨L,h1,h2,h3⟩:=h
 exact ⟨L,h1,ownsRow_setCell_below h2 hp u,h3⟩
theorem entL_snoc (L:List EQ) (x:EQ):entL (L++[x])=entL L++entC x.1.1 x.2:=by
 rw [entL_append]
 simp [entL]
def EntsGot (x:Ending) (w':World) (es:List E3):Prop:=∃ a n c,x=.returned (.agg #[.slice a n c])∧Ents w' a n c es
theorem EntsGot.mk9 {w':World} {a:Option Addr} {n c:Nat} {es:List E3} (h:Ents w' a n c es):EntsGot (.returned (.agg #[.slice a n c])) w' es:=⟨a,n,c,rfl,h⟩

theorem l10Keep_is (a:Option Addr) (n cap:Nat) (es:List E3) (ch:List Int) (a':Option Addr) (n' c':Nat) (w:World) (h:Ents w a n cap es) (hok:memOk es=true) (hC:Ints .i64 w a' n' c' ch) (hn':n'≤4096) :
  Calls Tryz.prog 36 #[.agg #[.slice a n cap],.slice a' n' c'] w fun e w'=>EntsGot e w' (keepE es ch)∧Below w.heap.size w w':=by
 obtain ⟨i0,hi0,hz0,hz1,hz2⟩:=info_parts info_entry
 have hl:=h.1
 have hcl:=hC.1
 have hn:n≤2000:=by have:=memOk_len hok;omega
 have bu:Below w.heap.size w ((w.alloc (.cells #[.slice a n cap] 25)).alloc (.cells #[.slice none 0 0] 25)):=by go_grown
 have pM:Blk ((w.alloc (.cells #[.slice a n cap] 25)).alloc (.cells #[.slice none 0 0] 25)) w.heap.size 25 [.slice a n cap]:=blkOld _ (blkAt _ _ _ rfl)
 have pR:Blk ((w.alloc (.cells #[.slice a n cap] 25)).alloc (.cells #[.slice none 0 0] 25)) (w.heap.size+1) 25 [.slice none 0 0]:=blkAt _ _ _ (by simp)
 have g0:=pM.cell 0
 simp only [List.getElem?_cons_zero] at g0
 have bE:Below ((w.alloc (.cells #[.slice a n cap] 25)).alloc (.cells #[.slice none 0 0] 25)).heap.size ((w.alloc (.cells #[.slice a n cap] 25)).alloc (.cells #[.slice none 0 0] 25)) (((w.alloc (.cells #[.slice a n cap] 25)).alloc (.cells #[.slice none 0 0] 25)).alloc (.cells #[] 33)):=by go_grown
 have M0:EntO w (((w.alloc (.cells #[.slice a n cap] 25)).alloc (.cells #[.slice none 0 0] 25)).alloc (.cells #[] 33)) (w.heap.size+2) (.slice (some ⟨w.heap.size+1+1,0,none⟩) 0 0) []:=by
  have h9:=empty8 ((w.alloc (.cells #[.slice a n cap] 25)).alloc (.cells #[.slice none 0 0] 25)) 33 3 (w.heap.size+2) (by simp)
  exact ⟨[],rfl,by simpa [entL] using h9,by simp⟩
 have bU:=bel8 bu bE
 have gU:=cell8 bE g0
 have rU:=pR.below bE
 go_enter Tryz.func36,Tryz.ntmps36
 go_wp2_with fail
 generalize (((w.alloc (.cells #[.slice a n cap] 25)).alloc (.cells #[.slice none 0 0] 25)).alloc (.cells #[] 33))=U at *
 have rUs:w.heap.size+2≤U.heap.size:=by have:=rU.lt;omega
 go_loopw [5,6] (fun so si wr=>∃ (k:Nat) (va:Option Addr) (vn vc:Nat),k≤n∧si=.int .i64 k∧so=.slice va vn vc∧EntO w wr (w.heap.size+2) (.slice va vn vc) (keepE (es.take k) ch)∧Below w.heap.size w wr∧wr.cell? ⟨w.heap.size,0,none⟩=some (.slice a n cap)∧Blk wr (w.heap.size+1) 25 [.slice none 0 0]∧w.heap.size+2≤wr.heap.size) (fun _ si _=>n - (intOf si).toNat)
 case atStart=>exact ⟨0,_,_,_,by omega,rfl,rfl,by simpa [keepE] using M0,bU,gU,rU,rUs⟩
 case round =>
  obtain ⟨k,xa,xn,xc,hk,rfl,rfl,hM,bw,gw,pW,hsW⟩:=hrel
  by_cases hlt:k<n
  ·have hM0:=h
   obtain ⟨_,_,_,hcase⟩:=h
   rcases hcase with e0 | ⟨b,off,rfl,hb,hc⟩
   ·omega
   obtain ⟨s,x0,x1,x2,hm⟩:=hc k hlt
   replace x0:=cell8 bw x0
   replace x1:=cell8 bw x1
   replace x2:=cell8 bw x2
   clear hc hb
   have y2:=entOk_foot (memOk_ent hok (i:=k) (by omega))
   have kT:=specTouches_is s.2.1 s.2.2.1 s.2.2.2 (es.getD k e3d).2.2 a' n' c' ch wr ((hm.below bw).2.2.1) (hC.below bw) (by have:=hm.2.2.1.1;omega) (by omega)
   have hTT:tchV (es.getD k e3d).2.2 ch=tchB (es.getD k e3d).2.2 ch:=by
    unfold tchV
    rw [decide_eq_true (show (es.getD k e3d).2.2.length≤4096 by omega),decide_eq_true (show ch.length≤4096 by omega),Bool.true_and,Bool.true_and]
   rw [hTT] at kT
   have hsn:=keep_snoc9 (es:=es) (ch:=ch) (k:=k) (by omega)
   clear hTT y2
   generalize es.getD k e3d=x at *
   generalize hps:keepE (es.take k) ch=ps at *
   have hpl:ps.length≤2000:=by rw [← hps];unfold keepE;refine Nat.le_trans (List.length_filter_le _ _) ?_;rw [List.length_take];omega
   clear hps
   have HS:Hid (keepE (es.take (k+1)) ch=if tchB x.2.2 ch then ps else ps++[x]):=hsn
   clear hsn
   obtain ⟨xk,xb,xz⟩:=x
   obtain ⟨⟨a1,n1,c1⟩,⟨a2,n2,c2⟩⟩:=s
   simp only at x0 x1 x2 kT HS
   have hlt':(k:Int)<(n:Int):=by omega
   have hk0:(0:Int)≤(k:Int):=by omega
   generalize tchB xz ch=tb at *
   cases tb
   ·replace HS:Hid (keepE (es.take (k+1)) ch=ps++[(xk,xb,xz)]):=HS.out
    obtain ⟨L,hL,ho,hLm⟩:=hM
    have hLl:L.length=ps.length:=by rw [← hL,List.length_map]
    have hLb:L.length≤2000:=by omega
    clear hLl hpl
    have hb2:Below wr.heap.size wr (wr.alloc (.cells #[.string xk,.slice a1 n1 c1,.slice a2 n2 c2] 33)):=by go_grown
    have ho2:=owns8 ho hb2
    have hs2:w.heap.size+2≤(wr.alloc (.cells #[.string xk,.slice a1 n1 c1,.slice a2 n2 c2] 33)).heap.size:=by have:=hb2.size;omega
    go_wp2_with fail
    refine kT.mono ?_
    rintro e wt ⟨rfl,rfl⟩
    go_wp2_with (at_builtin;refine wpList_app9 rfl _ _ 23 rfl (w.heap.size+2) 33 i0 (.agg #[.string ⟨#[]⟩,.slice none 0 0,.slice none 0 0]) 3 64 Tryz.underlying23 hi0 hz0 hz1 hz2 rfl (by decide) _ _ _ rfl ho2 _ 1 1 rfl (fun h9=>by cases h9) (entC xk ((a1,n1,c1),(a2,n2,c2))) (by simp [entC]) (news_new9 wr [.string xk,.slice a1 n1 c1,.slice a2 n2 c2] 33) (entC_one _ _) (by unfold maxLen;omega) (by omega) hs2 ?_)
    intro v3 w3 hown hgrow _
    obtain ⟨va9,vc9,rfl⟩:=slice8 hown
    have hM3:EntO w w3 (w.heap.size+2) (.slice va9 (L.length+1) vc9) (ps++[(xk,xb,xz)]):=⟨L++[((xk,xb,xz),((a1,n1,c1),(a2,n2,c2)))],by rw [List.map_append,hL];rfl,by rw [entL_snoc,List.length_append];exact hown,fun y hy=>by
     rcases List.mem_append.1 hy with h9 | h9
     ·exact hLm y h9
     ·rw [List.mem_singleton.1 h9];exact hm⟩
    have hgB:∀ g,(Value.ownBlock (.slice xa xn xc))=some g→w.heap.size+2≤g:=fun g hg=>(ho2.lt g hg).1
    have b3:Below w.heap.size w w3:=(bel8 bw hb2).grown hgrow (by omega) (fun g hg=>by have:=hgB g hg;omega)
    have g3:=(Blk.kept (pW.below hb2) hgrow (fun e9=>by have:=hgB _ e9;omega))
    have c3:w3.cell? ⟨w.heap.size,0,none⟩=some (.slice (some ⟨b,off,none⟩) n cap):=grown8 hgrow (cell8 hb2 gw) (fun e9=>by have:=hgB _ e9.symm;simp at this;omega)
    have s3:w.heap.size+2≤w3.heap.size:=Nat.le_trans hs2 hgrow.size
    clear ho ho2 hs2 hown hgrow hgB hb2 kT x0 x1 x2 hLm hL
    go_wp2
    go_roundw
    case rel=>exact ⟨k+1,_,_,_,by omega,by go_num,rfl,by rw [HS.out];exact hM3,b3,c3,g3,s3⟩
    case measure=>simp [intOf];omega
   ·replace HS:Hid (keepE (es.take (k+1)) ch=ps):=HS.out
    go_wp2_with fail
    refine kT.mono ?_
    rintro e wt ⟨rfl,rfl⟩
    clear kT x0 x1 x2
    go_wp2
    go_roundw
    case rel=>exact ⟨k+1,_,_,_,by omega,by go_num,rfl,by rw [HS.out];exact hM,bw,gw,pW,hsW⟩
    case measure=>simp [intOf];omega
  ·obtain rfl:k=n:=by omega
   have e9:keepE (es.take k) ch=keepE es ch:=by rw [List.take_of_length_le (by omega)]
   rw [e9] at hM
   have r0:=pW.cell 0
   have fr0:=pW.frozen 0
   have pZ:=pW.set 0 (.slice xa xn xc)
   simp only [List.set_cons_zero] at pZ
   have z0:=pZ.cell 0
   simp only [List.getElem?_cons_zero] at z0 r0
   have bz:=bw.setCell (p:=⟨w.heap.size+1,0,none⟩) (show w.heap.size≤w.heap.size+1 by omega) (.slice xa xn xc)
   have hM9:=(hM.low (p:=⟨w.heap.size+1,0,none⟩) (show w.heap.size+1<w.heap.size+2 by omega) (.slice xa xn xc)).ents bz
   clear hM pZ pW bw e9
   go_wp2
   refine bodyPost_ret (by simp [results,Tryz.results36,go_sem,z0];try rfl) rfl ?_
   exact ⟨EntsGot.mk9 hM9,bz⟩

def kpeM (es:List E3) (ch:List Int):List E3:=if ch.length≤4096∧memOk es=true∧allIt ch=true then keepE es ch else []
def kpeC (es:List E3) (ch:List Int):Int:=if 4096<ch.length then 2 else if memOk es=true then (if allIt ch=true then 0 else 4) else 1
def MemGotC (x:Ending) (w':World) (B:Nat) (es:List E3) (c:Int):Prop:=∃ v,x=.returned (.tuple #[.agg #[v],.int .i64 c])∧OwnM w' B v es
theorem MemGotC.mk9 {w':World} {B:Nat} {v:Value} {es:List E3} {c:Int} (h:OwnM w' B v es):MemGotC (.returned (.tuple #[.agg #[v],.int .i64 c])) w' B es c:=⟨v,rfl,h⟩

theorem specKeepEntries_is (a:Option Addr) (n cap:Nat) (es:List E3) (a':Option Addr) (n' c':Nat) (ch:List Int) (w:World) (h:Ents w a n cap es) (hC:Ints .i64 w a' n' c' ch) (hn':n'≤1048576) (hwf:wfs ch) :
  Calls Tryz.prog 9 #[.agg #[.slice a n cap],.slice a' n' c'] w fun e w'=>MemGotC e w' w.heap.size (kpeM es ch) (kpeC es ch)∧Below w.heap.size w w':=by
 have hcl:=hC.1
 have bw:Below w.heap.size w ((w.alloc (.cells #[.slice a n cap] 25)).alloc (.cells #[.slice none 0 0] 25)):=by go_grown
 have pM:Blk ((w.alloc (.cells #[.slice a n cap] 25)).alloc (.cells #[.slice none 0 0] 25)) w.heap.size 25 [.slice a n cap]:=blkOld _ (blkAt _ _ _ rfl)
 have pR:Blk ((w.alloc (.cells #[.slice a n cap] 25)).alloc (.cells #[.slice none 0 0] 25)) (w.heap.size+1) 25 [.slice none 0 0]:=blkAt _ _ _ (by simp)
 have g0:=pM.cell 0
 simp only [List.getElem?_cons_zero] at g0
 have kM:=fun W (hb:Below w.heap.size w W)=>specMemoOK_is a n cap es W (h.below hb)
 have kA:=fun W (hb:Below w.heap.size w W)=>l08All_is a' n' c' ch W (hC.below hb) hn' hwf
 unfold kpeM kpeC
 by_cases h1:4096<n'
 ·rw [if_neg (by omega),if_pos (by omega)]
  have h2:(4096:Int)<(n':Int):=by omega
  clear kM kA g0
  go_enter Tryz.func9,Tryz.ntmps9
  have r0:=pR.cell 0
  have fr0:=pR.frozen 0
  have pZ:=pR.set 0 (.slice none 0 0)
  simp only [List.set_cons_zero] at pZ
  have z0:=pZ.cell 0
  simp only [List.getElem?_cons_zero] at z0 r0
  have bz:=bw.setCell (p:=⟨w.heap.size+1,0,none⟩) (show w.heap.size≤w.heap.size+1 by omega) (.slice none 0 0)
  clear pZ pR pM
  go_wp2
  refine bodyPost_ret (by simp [results,Tryz.results9,go_sem,z0];try rfl) rfl ?_
  first | exact ⟨MemGotC.mk9 (OwnM.nil9 _ _),bz⟩ | exact ⟨MemGotC.mk9 (OwnM.nil9 _ _),by go_grown⟩
 ·have h2:¬ (4096:Int)<(n':Int):=by omega
  rw [if_neg (show ¬ 4096<ch.length by omega)]
  cases hok:memOk es
  ·rw [if_neg (by simp),if_neg (by simp)]
   rw [hok] at kM
   go_enter Tryz.func9,Tryz.ntmps9
   go_wp2_with fail
   generalize ((w.alloc (.cells #[.slice a n cap] 25)).alloc (.cells #[.slice none 0 0] 25))=U at *
   refine (kM _ bw).mono ?_
   rintro e w1 ⟨rfl,hb⟩
   replace bw:=bel8 bw hb
   replace pR:=pR.below hb
   replace pM:=pM.below hb
   clear hb kM kA g0 hok
   have r0:=pR.cell 0
   have fr0:=pR.frozen 0
   have pZ:=pR.set 0 (.slice none 0 0)
   simp only [List.set_cons_zero] at pZ
   have z0:=pZ.cell 0
   simp only [List.getElem?_cons_zero] at z0 r0
   have bz:=bw.setCell (p:=⟨w.heap.size+1,0,none⟩) (show w.heap.size≤w.heap.size+1 by omega) (.slice none 0 0)
   clear pZ pR pM
   go_wp2
   refine bodyPost_ret (by simp [results,Tryz.results9,go_sem,z0];try rfl) rfl ?_
   first | exact ⟨MemGotC.mk9 (OwnM.nil9 _ _),bz⟩ | exact ⟨MemGotC.mk9 (OwnM.nil9 _ _),by go_grown⟩
  ·rw [hok] at kM
   cases hA:allIt ch
   ·rw [if_neg (by simp),if_pos rfl,if_neg (by simp)]
    rw [hA] at kA
    go_enter Tryz.func9,Tryz.ntmps9
    go_wp2_with fail
    generalize ((w.alloc (.cells #[.slice a n cap] 25)).alloc (.cells #[.slice none 0 0] 25))=U at *
    refine (kM _ bw).mono ?_
    rintro e w1 ⟨rfl,hb⟩
    replace bw:=bel8 bw hb
    replace pR:=pR.below hb
    replace pM:=pM.below hb
    replace g0:=pM.cell 0
    simp only [List.getElem?_cons_zero] at g0
    clear hb kM
    go_wp2_with fail
    refine (kA _ bw).mono ?_
    rintro e w2 ⟨rfl,rfl⟩
    clear kA g0 hok hA
    have r0:=pR.cell 0
    have fr0:=pR.frozen 0
    have pZ:=pR.set 0 (.slice none 0 0)
    simp only [List.set_cons_zero] at pZ
    have z0:=pZ.cell 0
    simp only [List.getElem?_cons_zero] at z0 r0
    have bz:=bw.setCell (p:=⟨w.heap.size+1,0,none⟩) (show w.heap.size≤w.heap.size+1 by omega) (.slice none 0 0)
    clear pZ pR pM
    go_wp2
    refine bodyPost_ret (by simp [results,Tryz.results9,go_sem,z0];try rfl) rfl ?_
    first | exact ⟨MemGotC.mk9 (OwnM.nil9 _ _),bz⟩ | exact ⟨MemGotC.mk9 (OwnM.nil9 _ _),by go_grown⟩
   ·rw [if_pos ⟨by omega,rfl,rfl⟩,if_pos rfl,if_pos rfl]
    rw [hA] at kA
    go_enter Tryz.func9,Tryz.ntmps9
    go_wp2_with fail
    generalize ((w.alloc (.cells #[.slice a n cap] 25)).alloc (.cells #[.slice none 0 0] 25))=U at *
    refine (kM _ bw).mono ?_
    rintro e w1 ⟨rfl,hb⟩
    replace bw:=bel8 bw hb
    replace pR:=pR.below hb
    replace pM:=pM.below hb
    replace g0:=pM.cell 0
    simp only [List.getElem?_cons_zero] at g0
    clear hb kM
    have kK:=l10Keep_is a n cap es ch a' n' c' w1 (h.below bw) hok (hC.below bw) (by omega)
    have hok2:=keepE_ok hok ch
    clear hok hA
    go_wp2_with fail
    refine (kA _ bw).mono ?_
    rintro e w2 ⟨rfl,rfl⟩
    go_wp2_with fail
    refine kK.mono ?_
    rintro e w2 ⟨⟨ka,kn,kc,rfl,hK⟩,hb⟩
    have kO:=l10Own_is ka kn kc (keepE es ch) w2 hK hok2
    replace bw:=bel8 bw hb
    replace pR:=pR.below hb
    clear hb
    go_wp2_with fail
    refine kO.mono ?_
    rintro e w3 ⟨⟨v,rfl,hM⟩,hb⟩
    obtain ⟨va,vc,rfl⟩:=hM.slice9
    have hlow:=pR.lt
    replace bw:=bel8 bw hb
    replace pR:=pR.below hb
    have r0:=pR.cell 0
    have fr0:=pR.frozen 0
    have pZ:=pR.set 0 (.slice va (keepE es ch).length vc)
    simp only [List.set_cons_zero] at pZ
    have z0:=pZ.cell 0
    simp only [List.getElem?_cons_zero] at z0 r0
    have bz:=bw.setCell (p:=⟨w.heap.size+1,0,none⟩) (show w.heap.size≤w.heap.size+1 by omega) (.slice va (keepE es ch).length vc)
    have hM9:=(hM.low (p:=⟨w.heap.size+1,0,none⟩) (show w.heap.size+1<w2.heap.size from hlow) (.slice va (keepE es ch).length vc)).lower (show w.heap.size≤w2.heap.size by omega)
    clear pZ pR pM hM g0
    generalize (keepE es ch).length=kl at *
    go_wp2
    refine bodyPost_ret (by simp [results,Tryz.results9,go_sem,z0];try rfl) rfl ?_
    exact ⟨MemGotC.mk9 hM9,bz⟩

theorem implKeepEntries_is (a:Option Addr) (n cap:Nat) (es:List E3) (a':Option Addr) (n' c':Nat) (ch:List Int) (w:World) (h:Ents w a n cap es) (hC:Ints .i64 w a' n' c' ch) (hn':n'≤1048576) (hwf:wfs ch) (hV:VmShape w) :
  Calls Tryz.prog 8 #[.agg #[.slice a n cap],.slice a' n' c'] w fun e w'=>MemGotC e w' w.heap.size (kpeM es ch) (kpeC es ch)∧Below w.heap.size w w':=by
 have hcl:=hC.1
 have bw:Below w.heap.size w ((w.alloc (.cells #[.slice a n cap] 25)).alloc (.cells #[.slice none 0 0] 25)):=by go_grown
 have pM:Blk ((w.alloc (.cells #[.slice a n cap] 25)).alloc (.cells #[.slice none 0 0] 25)) w.heap.size 25 [.slice a n cap]:=blkOld _ (blkAt _ _ _ rfl)
 have pR:Blk ((w.alloc (.cells #[.slice a n cap] 25)).alloc (.cells #[.slice none 0 0] 25)) (w.heap.size+1) 25 [.slice none 0 0]:=blkAt _ _ _ (by simp)
 have g0:=pM.cell 0
 simp only [List.getElem?_cons_zero] at g0
 have kM:=fun W (hb:Below w.heap.size w W)=>implMemoOK_is a n cap es W (h.below hb) (hV.below hb)
 have kA:=fun W (hb:Below w.heap.size w W)=>itemsOK_is a' n' c' ch W (hC.below hb) hn' hwf
 unfold kpeM kpeC
 by_cases h1:4096<n'
 ·rw [if_neg (by omega),if_pos (by omega)]
  have h2:(4096:Int)<(n':Int):=by omega
  clear kM kA g0
  go_enter Tryz.func8,Tryz.ntmps8
  have r0:=pR.cell 0
  have fr0:=pR.frozen 0
  have pZ:=pR.set 0 (.slice none 0 0)
  simp only [List.set_cons_zero] at pZ
  have z0:=pZ.cell 0
  simp only [List.getElem?_cons_zero] at z0 r0
  have bz:=bw.setCell (p:=⟨w.heap.size+1,0,none⟩) (show w.heap.size≤w.heap.size+1 by omega) (.slice none 0 0)
  clear pZ pR pM
  go_wp2
  refine bodyPost_ret (by simp [results,Tryz.results8,go_sem,z0];try rfl) rfl ?_
  first | exact ⟨MemGotC.mk9 (OwnM.nil9 _ _),bz⟩ | exact ⟨MemGotC.mk9 (OwnM.nil9 _ _),by go_grown⟩
 ·have h2:¬ (4096:Int)<(n':Int):=by omega
  rw [if_neg (show ¬ 4096<ch.length by omega)]
  cases hok:memOk es
  ·rw [if_neg (by simp),if_neg (by simp)]
   rw [hok] at kM
   go_enter Tryz.func8,Tryz.ntmps8
   go_wp2_with fail
   generalize ((w.alloc (.cells #[.slice a n cap] 25)).alloc (.cells #[.slice none 0 0] 25))=U at *
   refine (kM _ bw).mono ?_
   rintro e w1 ⟨rfl,hb⟩
   replace bw:=bel8 bw hb
   replace pR:=pR.below hb
   replace pM:=pM.below hb
   clear hb kM kA g0 hok
   have r0:=pR.cell 0
   have fr0:=pR.frozen 0
   have pZ:=pR.set 0 (.slice none 0 0)
   simp only [List.set_cons_zero] at pZ
   have z0:=pZ.cell 0
   simp only [List.getElem?_cons_zero] at z0 r0
   have bz:=bw.setCell (p:=⟨w.heap.size+1,0,none⟩) (show w.heap.size≤w.heap.size+1 by omega) (.slice none 0 0)
   clear pZ pR pM
   go_wp2
   refine bodyPost_ret (by simp [results,Tryz.results8,go_sem,z0];try rfl) rfl ?_
   first | exact ⟨MemGotC.mk9 (OwnM.nil9 _ _),bz⟩ | exact ⟨MemGotC.mk9 (OwnM.nil9 _ _),by go_grown⟩
  ·rw [hok] at kM
   cases hA:allIt ch
   ·rw [if_neg (by simp),if_pos rfl,if_neg (by simp)]
    rw [hA] at kA
    go_enter Tryz.func8,Tryz.ntmps8
    go_wp2_with fail
    generalize ((w.alloc (.cells #[.slice a n cap] 25)).alloc (.cells #[.slice none 0 0] 25))=U at *
    refine (kM _ bw).mono ?_
    rintro e w1 ⟨rfl,hb⟩
    replace bw:=bel8 bw hb
    replace pR:=pR.below hb
    replace pM:=pM.below hb
    replace g0:=pM.cell 0
    simp only [List.getElem?_cons_zero] at g0
    clear hb kM
    go_wp2_with fail
    refine (kA _ bw).mono ?_
    rintro e w2 ⟨rfl,rfl⟩
    clear kA g0 hok hA
    have r0:=pR.cell 0
    have fr0:=pR.frozen 0
    have pZ:=pR.set 0 (.slice none 0 0)
    simp only [List.set_cons_zero] at pZ
    have z0:=pZ.cell 0
    simp only [List.getElem?_cons_zero] at z0 r0
    have bz:=bw.setCell (p:=⟨w.heap.size+1,0,none⟩) (show w.heap.size≤w.heap.size+1 by omega) (.slice none 0 0)
    clear pZ pR pM
    go_wp2
    refine bodyPost_ret (by simp [results,Tryz.results8,go_sem,z0];try rfl) rfl ?_
    first | exact ⟨MemGotC.mk9 (OwnM.nil9 _ _),bz⟩ | exact ⟨MemGotC.mk9 (OwnM.nil9 _ _),by go_grown⟩
   ·rw [if_pos ⟨by omega,rfl,rfl⟩,if_pos rfl,if_pos rfl]
    rw [hA] at kA
    go_enter Tryz.func8,Tryz.ntmps8
    go_wp2_with fail
    generalize ((w.alloc (.cells #[.slice a n cap] 25)).alloc (.cells #[.slice none 0 0] 25))=U at *
    refine (kM _ bw).mono ?_
    rintro e w1 ⟨rfl,hb⟩
    replace bw:=bel8 bw hb
    replace pR:=pR.below hb
    replace pM:=pM.below hb
    replace g0:=pM.cell 0
    simp only [List.getElem?_cons_zero] at g0
    clear hb kM
    have kK:=kept_is a n cap es ch a' n' c' w1 (h.below bw) hok (hC.below bw) (by omega) hwf
    clear hok hA
    go_wp2_with fail
    refine (kA _ bw).mono ?_
    rintro e w2 ⟨rfl,rfl⟩
    go_wp2_with fail
    refine kK.mono ?_
    rintro e w2 ⟨⟨v,rfl,hM⟩,hb⟩
    obtain ⟨va,vc,rfl⟩:=hM.slice9
    have hlow:=pR.lt
    replace bw:=bel8 bw hb
    replace pR:=pR.below hb
    have r0:=pR.cell 0
    have fr0:=pR.frozen 0
    have pZ:=pR.set 0 (.slice va (keepE es ch).length vc)
    simp only [List.set_cons_zero] at pZ
    have z0:=pZ.cell 0
    simp only [List.getElem?_cons_zero] at z0 r0
    have bz:=bw.setCell (p:=⟨w.heap.size+1,0,none⟩) (show w.heap.size≤w.heap.size+1 by omega) (.slice va (keepE es ch).length vc)
    have hM9:=(hM.low (p:=⟨w.heap.size+1,0,none⟩) (show w.heap.size+1<w1.heap.size from hlow) (.slice va (keepE es ch).length vc)).lower (show w.heap.size≤w1.heap.size by omega)
    clear pZ pR pM hM g0
    generalize (keepE es ch).length=kl at *
    go_wp2
    refine bodyPost_ret (by simp [results,Tryz.results8,go_sem,z0];try rfl) rfl ?_
    exact ⟨MemGotC.mk9 hM9,bz⟩


theorem entL_take {L:List EQ} {k j:Nat} {u:Value} (h:(entL (L.take k))[j]?=some u):(entL L)[j]?=some u:=by
 obtain ⟨t,i,x,rfl,hi,hx,hu⟩:=entL_inv h
 have hx2:L[t]?=some x:=by
  rw [List.getElem?_take] at hx
  split at hx
  ·exact hx
  ·cases hx
 rw [entL_at hx2 hi]
 exact hu
theorem entL_drop {L:List EQ} {k j:Nat} {u:Value} (h:(entL (L.drop k))[j]?=some u):(entL L)[k*3+j]?=some u:=by
 obtain ⟨t,i,x,rfl,hi,hx,hu⟩:=entL_inv h
 have hx2:L[k+t]?=some x:=by rw [List.getElem?_drop] at hx;exact hx
 rw [show k*3+(t*3+i)=(k+t)*3+i by omega,entL_at hx2 hi]
 exact hu
theorem sliceE_h {w:World} {a:Option Addr} {n c hi:Nat} {L:List EQ} (h:EntQ w a n c L) (hz:a=none→c=0) (h2:hi≤n) :
  (∀ W,(Instr.slice 23 (.slice a n c) none (some (.int .i64 (hi:Int))) none).run Tryz.prog W=.ok (.slice a hi c) W)∧EntQ w a hi c (L.take hi):=by
 obtain ⟨hl,hlc,hcm,hm,hcase⟩:=h
 have hhc:(hi:Int)≤(c:Int):=by omega
 refine ⟨fun W=>?_,by rw [List.length_take];omega,by omega,hcm,fun x hx=>hm x (List.mem_of_mem_take hx),?_⟩
 ·rcases a with _ | ⟨b,off,sp⟩
  ·have:=hz rfl
   subst this
   obtain rfl:hi=0:=by omega
   obtain rfl:n=0:=by omega
   go_simp
  ·go_simp
   try omega
 ·rcases hcase with h0 | ⟨b,off,ha,hb,hc⟩
  ·exact .inl (by omega)
  ·exact .inr ⟨b,off,ha,hb,fun j u hj=>hc j u (entL_take hj)⟩
theorem sliceE_l {w:World} {a:Option Addr} {n c lo:Nat} {L:List EQ} (h:EntQ w a n c L) (hz:a=none→c=0) (h1:lo≤n) :
  ∃ a2,(∀ W,(Instr.slice 23 (.slice a n c) (some (.int .i64 (lo:Int))) none none).run Tryz.prog W=.ok (.slice a2 (n - lo) (c - lo)) W)∧EntQ w a2 (n - lo) (c - lo) (L.drop lo)∧(a2=none→c - lo=0):=by
 obtain ⟨hl,hlc,hcm,hm,hcase⟩:=h
 have hlh:(lo:Int)≤(n:Int):=by omega
 rcases a with _ | ⟨b,off,sp⟩
 ·have:=hz rfl
  subst this
  obtain rfl:n=0:=by omega
  obtain rfl:lo=0:=by omega
  refine ⟨none,fun W=>?_,⟨by rw [List.length_drop];omega,by omega,by omega,fun x hx=>hm x (List.mem_of_mem_drop hx),.inl rfl⟩,fun _=>rfl⟩
  go_simp
 ·by_cases hz:c - lo=0
  ·refine ⟨some ⟨b,off,sp⟩,fun W=>?_,⟨by rw [List.length_drop];omega,by omega,by omega,fun x hx=>hm x (List.mem_of_mem_drop hx),.inl (by omega)⟩,fun h9=>by cases h9⟩
   go_simp
   try omega
  ·rcases hcase with h0 | ⟨b',off',ha,hb,hc⟩
   ·obtain rfl:lo=0:=by omega
    refine ⟨some ⟨b,off,sp⟩,fun W=>?_,⟨by rw [List.length_drop];omega,by omega,by omega,fun x hx=>hm x (List.mem_of_mem_drop hx),.inl (by omega)⟩,fun h9=>by cases h9⟩
    go_simp
    first | done | (intro _;unfold Addr.add;split<;>simp_all;done) | (unfold Addr.add;split<;>simp_all)
   ·cases ha
    refine ⟨some ⟨b,off+lo*3,none⟩,fun W=>?_,⟨by rw [List.length_drop];omega,by omega,by omega,fun x hx=>hm x (List.mem_of_mem_drop hx),.inr ⟨b,off+lo*3,rfl,hb,fun j u hj=>?_⟩⟩,fun h9=>by cases h9⟩
    ·go_simp
     omega
    ·rw [Nat.add_assoc]
     exact hc _ _ (entL_drop hj)


theorem l10Place_is (a:Option Addr) (n cap:Nat) (es:List E3) (key:ByteArray) (w:World) (h:Ents w a n cap es) (hok:memOk es=true) :
  Calls Tryz.prog 47 #[.agg #[.slice a n cap],.string key] w fun e w'=>e=.returned (.tuple #[.int .i64 (plcE es key),.bool (isE es key)])∧Below w.heap.size w w':=by
 have bu:Below w.heap.size w (w.alloc (.cells #[.slice a n cap] 25)):=by go_grown
 have g0:(w.alloc (.cells #[.slice a n cap] 25)).cell? ⟨w.heap.size,0,none⟩=some (.slice a n cap):=by first | (simp [go_sem];done) | (simp [World.cell?];done)
 replace h:=h.below bu
 have hn2:=memOk_len hok
 obtain ⟨hl,hlc,hcm,hcase⟩:=h
 rw [hl] at hn2
 unfold maxLen at hcm
 obtain ⟨pl,hpl⟩:∃ pl,pl=plcE es key:=⟨_,rfl⟩
 obtain ⟨fb,hfb⟩:∃ fb,fb=isE es key:=⟨_,rfl⟩
 rw [← hpl,← hfb]
 have HPL:Hid (pl=plcE es key):=hpl
 have HFB:Hid (fb=isE es key):=hfb
 clear hpl hfb
 go_enter Tryz.func47,Tryz.ntmps47
 go_wp2_with fail
 generalize (w.alloc (.cells #[.slice a n cap] 25))=U at *
 go_loopw [6,7] (fun sl sh wr=>∃ lo hi:Nat,lo≤hi∧hi≤n∧sl=.int .i64 lo∧sh=.int .i64 hi∧Hid ((∀ i,i<lo→ltS (es.getD i e3d).1 key=true)∧∀ i,hi≤i→i<n→ltS (es.getD i e3d).1 key=false)∧U=wr) (fun sl sh _=>(intOf sh).toNat - (intOf sl).toNat)
 case atStart=>exact ⟨0,n,by omega,by omega,rfl,rfl,⟨fun i hi=>by omega,fun i h1 h2=>by omega⟩,rfl⟩
 case round =>
  obtain ⟨lo,hi,h1,h2,rfl,rfl,HK,rfl⟩:=hrel
  by_cases hlt:lo<hi
  ·rcases hcase with e0 | ⟨b,off,rfl,hblt,hcell⟩
   ·omega
   obtain ⟨m,hm⟩:∃ m,m=(lo+hi) / 2:=⟨_,rfl⟩
   have hm1:lo≤m:=by omega
   have hm2:m<hi:=by omega
   have hq:((lo:Int)+(hi:Int)).tdiv 2=(m:Int):=by rw [Int.tdiv_eq_ediv_of_nonneg (by omega)];omega
   have hw1:IntKind.i64.wrap ((lo:Int)+(hi:Int))=(lo:Int)+(hi:Int):=by rw [IntKind.wrap_i64];omega
   have hw2:IntKind.i64.wrap (m:Int)=(m:Int):=by rw [IntKind.wrap_i64];omega
   clear hm
   obtain ⟨s,c0,_⟩:=hcell m (by omega)
   have hlt2:(lo:Int)<(hi:Int):=by omega
   have hmn:(m:Int)<(n:Int):=by omega
   have hm0:(0:Int)≤(m:Int):=by omega
   cases hT:ltS (es.getD m e3d).1 key
   ·have HK2:Hid ((∀ i,i<lo→ltS (es.getD i e3d).1 key=true)∧∀ i,m≤i→i<n→ltS (es.getD i e3d).1 key=false):=⟨HK.out.1,fun i h3 h4=>by
     by_cases e:i=m
     ·rw [e];exact hT
     ·cases hc:ltS (es.getD i e3d).1 key
      ·rfl
      ·have:=ltS_trans (memOk_lt hok (i:=m) (j:=i) (by omega) (by omega)) hc
       rw [hT] at this
       cases this⟩
    generalize (es.getD m e3d).1=xk at *
    unfold ltS at hT
    clear HK hcell
    go_wp2
    go_roundw
    case rel=>exact ⟨lo,m,by omega,by omega,rfl,rfl,HK2,by first | rfl | trivial⟩
    case measure=>simp [intOf];omega
   ·have HK2:Hid ((∀ i,i<m+1→ltS (es.getD i e3d).1 key=true)∧∀ i,hi≤i→i<n→ltS (es.getD i e3d).1 key=false):=⟨fun i h3=>by
     by_cases e:i=m
     ·rw [e];exact hT
     ·exact ltS_trans (memOk_lt hok (i:=i) (j:=m) (by omega) (by omega)) hT,HK.out.2⟩
    generalize (es.getD m e3d).1=xk at *
    unfold ltS at hT
    clear HK hcell
    go_wp2
    go_roundw
    case rel=>exact ⟨m+1,hi,by omega,by omega,by go_num,rfl,HK2,by first | rfl | trivial⟩
    case measure=>simp [intOf];omega
  ·obtain rfl:lo=hi:=by omega
   have hp:plcE es key=lo:=plcE_of HK.out.1 (by omega) (fun h3=>HK.out.2 lo (Nat.le_refl _) (by omega))
   have HI:Hid (isE es key=(decide (lo<n) && decide ((es.getD lo e3d).1=key))):=by rw [Hid,isE,hp,hl]
   rw [← HFB.out] at HI
   have HP:Hid (pl=lo):=by rw [Hid,HPL.out];exact hp
   clear HK hp HPL HFB
   have hll:¬ (lo:Int)<(lo:Int):=by omega
   have hb0:(0:Int)≤(lo:Int):=by omega
   have bd:Below U.heap.size U U.drew:=by go_grown
   by_cases hln:lo<n
   ·rcases hcase with e0 | ⟨b,off,rfl,hblt,hcell⟩
    ·omega
    obtain ⟨s,c0,_⟩:=hcell lo hln
    have hln2:(lo:Int)<(n:Int):=by omega
    have g1:=g0
    by_cases hE:(es.getD lo e3d).1=key
    ·have HR:Hid (fb=true):=by rw [Hid,HI.out,decide_eq_true hln,decide_eq_true hE];rfl
     clear HI hcell
     generalize (es.getD lo e3d).1=xk at *
     have hee:(xk.toList == key.toList)=true:=by rw [hE];simp
     clear hE
     go_wp2_with fail
     refine wp_region_held_drew (S:=(fun w'=>w'.cell? ⟨w.heap.size,0,none⟩=some (.slice (some ⟨b,off,none⟩) n cap)∧w'.cell? ⟨b,off+lo*3,none⟩=some (.string xk))) (by kernel_rfl) ⟨g1,c0⟩ (fun hS0=>?_)
     refine tkx 0 30 (.int .i64 (lo:Int)) ?_ ?_
     ·(intro w' hSw;(try dsimp only at hSw);go_simp;first | done | rfl | omega | (intro h9;omega))
     simp only [Act.put,tka,tkb,tkc]
     refine tkx 1 31 (.int .i64 (lo:Int)) ?_ ?_
     ·(intro w' hSw;(try dsimp only at hSw);go_simp;first | done | rfl | omega | (intro h9;omega))
     simp only [Act.put,tka,tkb,tkc]
     refine tkx 2 32 (.pointer (some ⟨w.heap.size,0,none⟩)) ?_ ?_
     ·(intro w' hSw;(try dsimp only at hSw);go_simp;first | done | rfl | omega | (intro h9;omega))
     simp only [Act.put,tka,tkb,tkc]
     refine tkx 3 33 (.slice (some ⟨b,off,none⟩) n cap) ?_ ?_
     ·(intro w' hSw;(try dsimp only at hSw);go_simp;first | done | rfl | omega | (intro h9;omega))
     simp only [Act.put,tka,tkb,tkc]
     refine tkx 4 34 (.int .i64 (n:Int)) ?_ ?_
     ·(intro w' hSw;(try dsimp only at hSw);go_simp;first | done | rfl | omega | (intro h9;omega))
     simp only [Act.put,tka,tkb,tkc]
     refine tkx 5 35 (.bool true) ?_ ?_
     ·(intro w' hSw;(try dsimp only at hSw);go_simp;first | done | rfl | omega | (intro h9;omega))
     simp only [Act.put,tka,tkb,tkc]
     refine tkx 6 36 (.bool true) ?_ ?_
     ·(intro w' hSw;(try dsimp only at hSw);go_simp;first | done | rfl | omega | (intro h9;omega))
     simp only [Act.put,tka,tkb,tkc]
     refine tkx 7 37 (.pointer (some ⟨w.heap.size,0,none⟩)) ?_ ?_
     ·(intro w' hSw;(try dsimp only at hSw);go_simp;first | done | rfl | omega | (intro h9;omega))
     simp only [Act.put,tka,tkb,tkc]
     refine tkx 8 38 (.slice (some ⟨b,off,none⟩) n cap) ?_ ?_
     ·(intro w' hSw;(try dsimp only at hSw);go_simp;first | done | rfl | omega | (intro h9;omega))
     simp only [Act.put,tka,tkb,tkc]
     refine tkx 9 39 (.int .i64 (lo:Int)) ?_ ?_
     ·(intro w' hSw;(try dsimp only at hSw);go_simp;first | done | rfl | omega | (intro h9;omega))
     simp only [Act.put,tka,tkb,tkc]
     refine tkx 10 40 (.pointer (some ⟨b,off+lo*3,none⟩)) ?_ ?_
     ·(intro w' hSw;(try dsimp only at hSw);go_simp;first | done | rfl | omega | (intro h9;omega))
     simp only [Act.put,tka,tkb,tkc]
     refine tkx 11 41 (.pointer (some ⟨b,off+lo*3,none⟩)) ?_ ?_
     ·(intro w' hSw;(try dsimp only at hSw);go_simp;first | done | rfl | omega | (intro h9;omega))
     simp only [Act.put,tka,tkb,tkc]
     refine tkx 12 42 (.string xk) ?_ ?_
     ·(intro w' hSw;(try dsimp only at hSw);go_simp;first | done | rfl | omega | (intro h9;omega))
     simp only [Act.put,tka,tkb,tkc]
     refine tkx 13 43 (.string key) ?_ ?_
     ·(intro w' hSw;(try dsimp only at hSw);go_simp;first | done | rfl | omega | (intro h9;omega))
     simp only [Act.put,tka,tkb,tkc]
     refine tkx 14 44 (.bool true) ?_ ?_
     ·(intro w' hSw;(try dsimp only at hSw);go_simp;first | done | rfl | omega | (intro h9;omega))
     simp only [Act.put,tka,tkb,tkc]
     refine tkx 15 45 (.bool true) ?_ ?_
     ·(intro w' hSw;(try dsimp only at hSw);go_simp;first | done | rfl | omega | (intro h9;omega))
     simp only [Act.put,tka,tkb,tkc]
     refine tkx 16 4 (.int .i64 (lo:Int)) ?_ ?_
     ·(intro w' hSw;(try dsimp only at hSw);go_simp;first | done | rfl | omega | (intro h9;omega))
     simp only [Act.put,tka,tkb,tkc]
     refine tkx 17 5 (.bool true) ?_ ?_
     ·(intro w' hSw;(try dsimp only at hSw);go_simp;first | done | rfl | omega | (intro h9;omega))
     simp only [Act.put,tka,tkb,tkc]
     refine wpAnyH_done (by kernel_rfl) ?_ _
     have bz:=bel8 bu bd
     clear hS0 c0 g1 bd
     go_wp2
     go_ret2
     exact ⟨by rw [HR.out,HP.out];rfl,bz⟩
    ·have HR:Hid (fb=false):=by rw [Hid,HI.out,decide_eq_false hE,Bool.and_false]
     clear HI hcell
     generalize (es.getD lo e3d).1=xk at *
     have hee:(xk.toList == key.toList)=false:=by
      cases hc:(xk.toList == key.toList)
      ·rfl
      ·exact absurd (toList_inj9 (by simpa using hc)) hE
     clear hE
     go_wp2_with fail
     refine wp_region_held_drew (S:=(fun w'=>w'.cell? ⟨w.heap.size,0,none⟩=some (.slice (some ⟨b,off,none⟩) n cap)∧w'.cell? ⟨b,off+lo*3,none⟩=some (.string xk))) (by kernel_rfl) ⟨g1,c0⟩ (fun hS0=>?_)
     refine tkx 0 30 (.int .i64 (lo:Int)) ?_ ?_
     ·(intro w' hSw;(try dsimp only at hSw);go_simp;first | done | rfl | omega | (intro h9;omega))
     simp only [Act.put,tka,tkb,tkc]
     refine tkx 1 31 (.int .i64 (lo:Int)) ?_ ?_
     ·(intro w' hSw;(try dsimp only at hSw);go_simp;first | done | rfl | omega | (intro h9;omega))
     simp only [Act.put,tka,tkb,tkc]
     refine tkx 2 32 (.pointer (some ⟨w.heap.size,0,none⟩)) ?_ ?_
     ·(intro w' hSw;(try dsimp only at hSw);go_simp;first | done | rfl | omega | (intro h9;omega))
     simp only [Act.put,tka,tkb,tkc]
     refine tkx 3 33 (.slice (some ⟨b,off,none⟩) n cap) ?_ ?_
     ·(intro w' hSw;(try dsimp only at hSw);go_simp;first | done | rfl | omega | (intro h9;omega))
     simp only [Act.put,tka,tkb,tkc]
     refine tkx 4 34 (.int .i64 (n:Int)) ?_ ?_
     ·(intro w' hSw;(try dsimp only at hSw);go_simp;first | done | rfl | omega | (intro h9;omega))
     simp only [Act.put,tka,tkb,tkc]
     refine tkx 5 35 (.bool true) ?_ ?_
     ·(intro w' hSw;(try dsimp only at hSw);go_simp;first | done | rfl | omega | (intro h9;omega))
     simp only [Act.put,tka,tkb,tkc]
     refine tkx 6 36 (.bool true) ?_ ?_
     ·(intro w' hSw;(try dsimp only at hSw);go_simp;first | done | rfl | omega | (intro h9;omega))
     simp only [Act.put,tka,tkb,tkc]
     refine tkx 7 37 (.pointer (some ⟨w.heap.size,0,none⟩)) ?_ ?_
     ·(intro w' hSw;(try dsimp only at hSw);go_simp;first | done | rfl | omega | (intro h9;omega))
     simp only [Act.put,tka,tkb,tkc]
     refine tkx 8 38 (.slice (some ⟨b,off,none⟩) n cap) ?_ ?_
     ·(intro w' hSw;(try dsimp only at hSw);go_simp;first | done | rfl | omega | (intro h9;omega))
     simp only [Act.put,tka,tkb,tkc]
     refine tkx 9 39 (.int .i64 (lo:Int)) ?_ ?_
     ·(intro w' hSw;(try dsimp only at hSw);go_simp;first | done | rfl | omega | (intro h9;omega))
     simp only [Act.put,tka,tkb,tkc]
     refine tkx 10 40 (.pointer (some ⟨b,off+lo*3,none⟩)) ?_ ?_
     ·(intro w' hSw;(try dsimp only at hSw);go_simp;first | done | rfl | omega | (intro h9;omega))
     simp only [Act.put,tka,tkb,tkc]
     refine tkx 11 41 (.pointer (some ⟨b,off+lo*3,none⟩)) ?_ ?_
     ·(intro w' hSw;(try dsimp only at hSw);go_simp;first | done | rfl | omega | (intro h9;omega))
     simp only [Act.put,tka,tkb,tkc]
     refine tkx 12 42 (.string xk) ?_ ?_
     ·(intro w' hSw;(try dsimp only at hSw);go_simp;first | done | rfl | omega | (intro h9;omega))
     simp only [Act.put,tka,tkb,tkc]
     refine tkx 13 43 (.string key) ?_ ?_
     ·(intro w' hSw;(try dsimp only at hSw);go_simp;first | done | rfl | omega | (intro h9;omega))
     simp only [Act.put,tka,tkb,tkc]
     refine tkx 14 44 (.bool false) ?_ ?_
     ·(intro w' hSw;(try dsimp only at hSw);go_simp;first | done | rfl | omega | (intro h9;omega))
     simp only [Act.put,tka,tkb,tkc]
     refine tkx 15 45 (.bool false) ?_ ?_
     ·(intro w' hSw;(try dsimp only at hSw);go_simp;first | done | rfl | omega | (intro h9;omega))
     simp only [Act.put,tka,tkb,tkc]
     refine tkx 16 4 (.int .i64 (lo:Int)) ?_ ?_
     ·(intro w' hSw;(try dsimp only at hSw);go_simp;first | done | rfl | omega | (intro h9;omega))
     simp only [Act.put,tka,tkb,tkc]
     refine tkx 17 5 (.bool false) ?_ ?_
     ·(intro w' hSw;(try dsimp only at hSw);go_simp;first | done | rfl | omega | (intro h9;omega))
     simp only [Act.put,tka,tkb,tkc]
     refine wpAnyH_done (by kernel_rfl) ?_ _
     have bz:=bel8 bu bd
     clear hS0 c0 g1 bd
     go_wp2
     go_ret2
     exact ⟨by rw [HR.out,HP.out];rfl,bz⟩
   ·have HR:Hid (fb=false):=by rw [Hid,HI.out,decide_eq_false hln,Bool.false_and]
    have hln2:¬ (lo:Int)<(n:Int):=by omega
    have g1:=g0
    clear HI hcase
    go_wp2_with fail
    refine wp_region_held_drew (S:=(fun w'=>w'.cell? ⟨w.heap.size,0,none⟩=some (.slice a n cap))) (by kernel_rfl) g1 (fun hS0=>?_)
    refine tkx 0 30 (.int .i64 (lo:Int)) ?_ ?_
    ·(intro w' hSw;(try dsimp only at hSw);go_simp;first | done | rfl | omega | (intro h9;omega))
    simp only [Act.put,tka,tkb,tkc]
    refine tkx 1 31 (.int .i64 (lo:Int)) ?_ ?_
    ·(intro w' hSw;(try dsimp only at hSw);go_simp;first | done | rfl | omega | (intro h9;omega))
    simp only [Act.put,tka,tkb,tkc]
    refine tkx 2 32 (.pointer (some ⟨w.heap.size,0,none⟩)) ?_ ?_
    ·(intro w' hSw;(try dsimp only at hSw);go_simp;first | done | rfl | omega | (intro h9;omega))
    simp only [Act.put,tka,tkb,tkc]
    refine tkx 3 33 (.slice a n cap) ?_ ?_
    ·(intro w' hSw;(try dsimp only at hSw);go_simp;first | done | rfl | omega | (intro h9;omega))
    simp only [Act.put,tka,tkb,tkc]
    refine tkx 4 34 (.int .i64 (n:Int)) ?_ ?_
    ·(intro w' hSw;(try dsimp only at hSw);go_simp;first | done | rfl | omega | (intro h9;omega))
    simp only [Act.put,tka,tkb,tkc]
    refine tkx 5 35 (.bool false) ?_ ?_
    ·(intro w' hSw;(try dsimp only at hSw);go_simp;first | done | rfl | omega | (intro h9;omega))
    simp only [Act.put,tka,tkb,tkc]
    refine tkx 6 36 (.bool false) ?_ ?_
    ·(intro w' hSw;(try dsimp only at hSw);go_simp;first | done | rfl | omega | (intro h9;omega))
    simp only [Act.put,tka,tkb,tkc]
    refine tku 7 37 ?_
    refine tku 8 38 ?_
    refine tku 9 39 ?_
    refine tku 10 40 ?_
    refine tku 11 41 ?_
    refine tku 12 42 ?_
    refine tku 13 43 ?_
    refine tku 14 44 ?_
    refine tkx 15 45 (.bool false) ?_ ?_
    ·(intro w' hSw;(try dsimp only at hSw);go_simp;first | done | rfl | omega | (intro h9;omega))
    simp only [Act.put,tka,tkb,tkc]
    refine tkx 16 4 (.int .i64 (lo:Int)) ?_ ?_
    ·(intro w' hSw;(try dsimp only at hSw);go_simp;first | done | rfl | omega | (intro h9;omega))
    simp only [Act.put,tka,tkb,tkc]
    refine tkx 17 5 (.bool false) ?_ ?_
    ·(intro w' hSw;(try dsimp only at hSw);go_simp;first | done | rfl | omega | (intro h9;omega))
    simp only [Act.put,tka,tkb,tkc]
    refine wpAnyH_done (by kernel_rfl) ?_ _
    have bz:=bel8 bu bd
    clear hS0 g1 bd
    go_wp2
    go_ret2
    exact ⟨by rw [HR.out,HP.out];rfl,bz⟩
end Go.Proofs.YthmgampabhbpoaaGreatDoor
