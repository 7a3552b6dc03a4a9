/-
  Joined: RdiI.
-/
import Derived.Test.YthlcdhddickdiaaDoorR35
import Derived.Test.YthlcdhddickdiaaDoorR42
import Derived.Test.YthlcdhddickdiaaDoorR45

namespace Go.Proofs.YthlcdhddickdiaaDoor
set_option maxRecDepth 100000
set_option maxHeartbeats 16000000
open Go.RowKit
set_option linter.unusedVariables false
set_option linter.unusedSimpArgs false

def RdGF (t:ByteArray) (x:Ending) (w':World) (B:Nat):Prop:=(∃ (e:E3) (s:Sl2),RdOk t e∧x=.returned (.tuple #[entV e.1 s,.int .i64 0])∧OwnF w' B w'.heap.size s e)∨((∀ e,¬ RdOk t e)∧x=(.returned (.tuple #[.agg #[.string ⟨#[]⟩,.slice none 0 0,.slice none 0 0],.int .i64 (rdC t)])))
theorem getD_9 {α:Type} {zs:List α} {t:Nat} {d:α} (h:t<zs.length):zs.getD t d=zs[t]:=by rw [List.getD,List.getElem?_eq_getElem h];rfl
theorem Own.blk9 {base:Nat} {w:World} {a:Option Addr} {n cap:Nat} {xs:List Int} (h:Own base w a n cap xs) (hn:1≤n):∃ g cs,a=some ⟨g,0,none⟩∧base≤g∧Blk w g 3 cs∧∀ t,t<n→cs[t]?=some (.int .i64 (xs.getD t 0)):=by
 obtain ⟨h1,h2,h3,h4⟩:=h
 rcases h4 with h4 | ⟨g,rfl,q⟩
 ·omega
 ·rcases q.2 with ⟨hv,_⟩ | ⟨g',cap',cur,hv,hg,hh,hn',hc,hs,ht⟩
  ·cases hv
  ·cases hv
   refine ⟨g,cur.toList,rfl,hg,by simpa [Blk] using hh,fun t ht'=>?_⟩
   have e:=congrArg (fun l=>l[t]?) ht
   simp only [Nat.mul_one] at e
   rw [List.getElem?_take_of_lt ht'] at e
   rw [e,List.getElem?_map,List.getElem?_eq_getElem (by omega),getD_9 (by omega)]
   rfl

theorem OwnF.low3 {w:World} {B T:Nat} {s:Sl2} {e:E3} (h:OwnF w B T s e) {p:Addr} (hp:p.block<B) (u:Value):OwnF (w.setCell p u) B T s e:=by
 obtain ⟨q1,t1,y1,y2,y3,y4,y5⟩:=h
 refine ⟨ownsRow_setCell_below q1 hp u,t1,y1,y2,y3,y4,?_⟩
 rcases y5 with y5 | ⟨g,off,cs,e,hg,ht,hB,hc⟩
 ·exact .inl y5
 ·exact .inr ⟨g,off,cs,e,hg,ht,hB.off p u (by omega),hc⟩
theorem OwnF.wide {w:World} {B B' T T':Nat} {s:Sl2} {e:E3} (h:OwnF w B T s e) (hB:B'≤B) (hT:T≤T'):OwnF w B' T' s e:=by
 obtain ⟨q1,t1,y1,y2,y3,y4,y5⟩:=h
 refine ⟨lower8 q1 hB,fun x hx=>Nat.lt_of_lt_of_le (t1 x hx) hT,y1,y2,y3,y4,?_⟩
 rcases y5 with y5 | ⟨g,off,cs,e,hg,ht,hB',hc⟩
 ·exact .inl y5
 ·exact .inr ⟨g,off,cs,e,by omega,by omega,hB',hc⟩

theorem implReadEntry_is (t:ByteArray) (w:World) (ht:t.size≤1048576) (hV:VmShape w) (hE:ErrType w) :
  Calls Tryd.prog 18 #[.string t] w fun x w'=>RdGF t x w' w.heap.size∧Below w.heap.size w w':=by
 have bw:Below w.heap.size w (w.alloc (.cells #[.string ⟨#[]⟩,.slice none 0 0,.slice none 0 0] 39)):=by go_grown
 have pR:Blk (w.alloc (.cells #[.string ⟨#[]⟩,.slice none 0 0,.slice none 0 0] 39)) w.heap.size 39 [.string ⟨#[]⟩,.slice none 0 0,.slice none 0 0]:=blkAt _ _ _ rfl
 by_cases hs:65536<t.size
 ·have HN:Hid (∀ W,RdGF t (.returned (.tuple #[.agg #[.string ⟨#[]⟩,.slice none 0 0,.slice none 0 0],.int .i64 (rdC t)])) W w.heap.size):=fun W=>.inr ⟨fun e he=>by have:=he.1;omega,rfl⟩
  have e2:rdC t=2:=by unfold rdC;rw [if_pos hs]
  rw [e2] at HN
  have hs2:(65536:Int)<(t.size:Int):=by omega
  go_enter Tryd.func18,Tryd.ntmps18
  have r0:=pR.cell 0
  have r1:=pR.cell 1
  have r2:=pR.cell 2
  have fr0:=pR.frozen 0
  have fr1:=pR.frozen 1
  have fr2:=pR.frozen 2
  have pZ:=((pR.set 0 (.string ⟨#[]⟩)).set 1 (.slice none 0 0)).set 2 (.slice none 0 0)
  simp only [List.set_cons_zero,List.set_cons_succ] at pZ
  have z0:=pZ.cell 0
  have z1:=pZ.cell 1
  have z2:=pZ.cell 2
  simp only [List.getElem?_cons_zero,List.getElem?_cons_succ] at z0 z1 z2 r0 r1 r2
  have bz:=((bw.setCell (p:=⟨w.heap.size,0,none⟩) (Nat.le_refl _) (.string ⟨#[]⟩)).setCell (p:=⟨w.heap.size,1,none⟩) (Nat.le_refl _) (.slice none 0 0)).setCell (p:=⟨w.heap.size,2,none⟩) (Nat.le_refl _) (.slice none 0 0)
  clear pZ pR
  go_wp2
  refine bodyPost_ret (by simp [results,Tryd.results18,go_sem,z0,z1,z2];try rfl) rfl ?_
  first | exact ⟨HN.out _,bz⟩ | exact ⟨HN.out _,by go_grown⟩
 have hs2:¬ (65536:Int)<(t.size:Int):=by omega
 have e3:rdC t=3:=by unfold rdC;rw [if_neg hs]
 have HN:Hid ((∀ e,¬ RdOk t e)→∀ W,RdGF t (.returned (.tuple #[.agg #[.string ⟨#[]⟩,.slice none 0 0,.slice none 0 0],.int .i64 (3)])) W w.heap.size):=fun h W=>.inr ⟨h,by rw [e3]⟩
 clear e3
 have kC:=fun W=>cutKey_is t W (by omega)
 have kU:=fun (s:ByteArray) W (hb:Below w.heap.size w W) (h:s.size≤65536)=>implUnpackList_any s W h (hE.below hb)
 go_enter Tryd.func18,Tryd.ntmps18
 go_wp2_with fail
 generalize (w.alloc (.cells #[.string ⟨#[]⟩,.slice none 0 0,.slice none 0 0] 39))=U at *
 refine (kC _).mono ?_
 rintro x w1 ⟨hK,hb⟩
 replace bw:=bel8 bw hb
 replace pR:=pR.below hb
 have hlo1:w.heap.size<w1.heap.size:=pR.lt
 clear hb kC
 rcases hK with ⟨h15,hdg,rfl⟩ | ⟨hno,rfl⟩
 ·have hps:(t.extract 15 t.size).size≤65536:=by simp;omega
  have hks:(t.extract 0 15).size≤maxLen:=by unfold maxLen;simp;omega
  have kU1:=kU (t.extract 15 t.size)
  clear kU
  obtain ⟨kk,hkk⟩:∃ k,k=t.extract 0 15:=⟨_,rfl⟩
  obtain ⟨pp,hpp⟩:∃ k,k=t.extract 15 t.size:=⟨_,rfl⟩
  rw [← hkk] at hks ⊢
  rw [← hpp] at hps kU1 ⊢
  have HK:Hid (kk=t.extract 0 15∧pp=t.extract 15 t.size):=⟨hkk,hpp⟩
  clear hkk hpp
  go_wp2_with fail
  refine (kU1 _ bw hps).mono ?_
  rintro x w2 ⟨⟨ua,uc,zs,cd,hun,rfl,hOw⟩,hb⟩
  have hlen:=hun.len
  replace bw:=bel8 bw hb
  replace pR:=pR.below hb
  have hb12:w1.heap.size≤w2.heap.size:=hb.size
  clear hb kU1
  rcases hun with ⟨rfl,hL⟩ | ⟨rfl,hNL,rfl⟩
  ·have hIn:=hOw.ints
   obtain ⟨m,hm⟩:∃ m,m=zs.getD 0 0:=⟨_,rfl⟩
   have hmb:m≤999999999:=by
    rw [hm]
    rcases Nat.lt_or_ge 0 zs.length with h9 | h9
    ·have:=listed_small9 hL (zs.getD 0 0:Nat) (List.mem_map.2 ⟨_,by rw [getD_9 h9];exact List.getElem_mem _,rfl⟩)
     omega
    ·rw [List.getD,List.getElem?_eq_none (by omega)];simp
   have kO:=fun W (hb:Below w2.heap.size w2 W)=>entryOf_is kk ua zs.length uc (ofNats zs) m W (hIn.below hb) hlen (fun h9=>by rw [ofNats_head h9,hm]) hmb
   have hcz:((0:Int) != 0)=false:=by rfl
   obtain ⟨zl,hzl⟩:∃ k,k=zs.length:=⟨_,rfl⟩
   have hfz:(entZ kk zs).fits:=entZ_fits hL hks
   have HR:Hid (1≤zl→1+3*m≤zl→entOk (entZ kk zs)=true→RdOk t (entZ kk zs)):=fun g1 g2 g3=>⟨by omega,by omega,zs,by rw [← HK.out.2];exact hL,by omega,by rw [← hm];omega,by rw [← HK.out.1],g3⟩
   have HQ:Hid (∀ e,RdOk t e→(1≤zl∧1+3*m≤zl)∧entOk (entZ kk zs)=true):=fun e he=>by
    have h9:=he.ok
    obtain ⟨_,_,ys,g1,g2,g3,g4,_⟩:=he
    rw [← HK.out.2] at g1
    have ey:=hL.only g1
    subst ey
    rw [g4,← HK.out.1] at h9
    exact ⟨⟨by omega,by rw [hm];omega⟩,h9⟩
   rw [← hzl] at kO hOw ⊢
   have HZ:Hid (zl=zs.length∧m=zs.getD 0 0):=⟨hzl,hm⟩
   have hzb:zl≤4096:=by omega
   clear hzl hm hlen
   go_wp2_with fail
   refine (kO _ (Below.refl _ _)).mono ?_
   rintro x w3 ⟨hG,hb⟩
   replace bw:=bel8 bw hb
   replace pR:=pR.below hb
   clear kO
   rcases hG with ⟨hno,rfl⟩ | ⟨⟨g1,g2⟩,s,b,off,hua,rfl,hOB,hf2,hf1⟩
   ·have HN9:=HN.out (fun e he=>hno (HQ.out e he).1)
    replace HN:Hid (∀ W,RdGF t (.returned (.tuple #[.agg #[.string ⟨#[]⟩,.slice none 0 0,.slice none 0 0],.int .i64 (3)])) W w.heap.size):=HN9
    clear HN9 hb HQ HR hOw hIn
    have hba:Below w3.heap.size w3 (w3.alloc (.cells #[.string ⟨#[]⟩,.slice none 0 0,.slice none 0 0] 39)):=by go_grown
    replace bw:=bel8 bw hba
    replace pR:=pR.below hba
    clear hba
    have r0:=pR.cell 0
    have r1:=pR.cell 1
    have r2:=pR.cell 2
    have fr0:=pR.frozen 0
    have fr1:=pR.frozen 1
    have fr2:=pR.frozen 2
    have pZ:=((pR.set 0 (.string ⟨#[]⟩)).set 1 (.slice none 0 0)).set 2 (.slice none 0 0)
    simp only [List.set_cons_zero,List.set_cons_succ] at pZ
    have z0:=pZ.cell 0
    have z1:=pZ.cell 1
    have z2:=pZ.cell 2
    simp only [List.getElem?_cons_zero,List.getElem?_cons_succ] at z0 z1 z2 r0 r1 r2
    have bz:=((bw.setCell (p:=⟨w.heap.size,0,none⟩) (Nat.le_refl _) (.string ⟨#[]⟩)).setCell (p:=⟨w.heap.size,1,none⟩) (Nat.le_refl _) (.slice none 0 0)).setCell (p:=⟨w.heap.size,2,none⟩) (Nat.le_refl _) (.slice none 0 0)
    clear pZ pR
    go_wp2
    refine bodyPost_ret (by simp [results,Tryd.results18,go_sem,z0,z1,z2];try rfl) rfl ?_
    first | exact ⟨HN.out _,bz⟩ | exact ⟨HN.out _,by go_grown⟩
   ·-- the entry is there
    have hOw3:=hOw.kept hb
    obtain ⟨g,cs,hua2,hgB,hBk,hcs⟩:=hOw3.blk9 g1
    subst hua2
    cases hua
    obtain ⟨⟨sa,sn,sc⟩,⟨fa,fn,fc⟩⟩:=s
    simp only at hOB hf1 hf2
    injection hf2 with hf2a hf2b
    have hFl:(entZ kk zs).2.2.length=fn:=by show ((ofNats zs).drop (1+3*zs.getD 0 0)).length=fn;rw [List.length_drop,ofNats_len,← HZ.out.2,hf2a,HZ.out.1]
    have hOF:OwnF w3 w1.heap.size w3.heap.size ((sa,sn,sc),(fa,fn,fc)) (entZ kk zs):=by
     refine ⟨?_,fun x hx=>(hOB.lt x hx).2,hFl,?_,?_,?_,?_⟩
     ·show w3.ownsRow w1.heap.size 93 3 (.slice sa sn sc) (triples (((ofNats zs).drop 1).take (3*zs.getD 0 0))).length (flat (triples (((ofNats zs).drop 1).take (3*zs.getD 0 0))))
      rw [← HZ.out.2]
      exact lower8 hOB hb12
     ·show fn≤fc
      have:=hOw.2.1
      omega
     ·show fc≤maxLen
      have:=hOw.2.2.1
      omega
     ·intro h9
      rcases hf1 with ⟨_,h8⟩ | h8
      ·rw [h8] at h9;cases h9
      ·rw [h8] at h9;cases h9
     ·rcases Nat.eq_zero_or_pos fn with h9 | h9
      ·exact .inl h9
      ·right
       have h2c:=hOw.2.1
       rcases hf1 with ⟨h8,_⟩ | h8
       ·omega
       ·refine ⟨_,0+(1+3*m),cs,h8,hgB,hBk.lt,hBk,fun t ht'=>?_⟩
        have ht9:t<fn:=ht'
        rw [Nat.zero_add]
        rw [hcs (1+3*m+t) (by omega)]
        show some (Value.int .i64 _)=some (.int .i64 (((ofNats zs).drop (1+3*zs.getD 0 0)).getD t 0))
        rw [← HZ.out.2]
        simp [List.getD]
    have hFle:(entZ kk zs).2.2.length≤4096:=by rw [hFl];omega
    clear hOB hf1 hf2a hf2b hOw hOw3 hBk hcs hIn hFl
    replace HR:Hid (entOk (entZ kk zs)=true→RdOk t (entZ kk zs)):=HR.out g1 g2
    have hba:Below w3.heap.size w3 (w3.alloc (.cells #[.string kk,.slice sa sn sc,.slice fa fn fc] 39)):=by go_grown
    have pE:Blk (w3.alloc (.cells #[.string kk,.slice sa sn sc,.slice fa fn fc] 39)) w3.heap.size 39 [.string kk,.slice sa sn sc,.slice fa fn fc]:=blkAt _ _ _ rfl
    have kK:=fun W (hb:Below w.heap.size w W) (hm:Emem W ((sa,sn,sc),(fa,fn,fc)) (entZ kk zs))=>implEntryOK_is (entZ kk zs) ((sa,sn,sc),(fa,fn,fc)) W hm (hV.below hb)
    have ekk:(entZ kk zs).1=kk:=rfl
    rw [ekk] at kK
    unfold entV at kK ⊢
    simp only at kK ⊢
    replace bw:=bel8 bw hba
    replace pR:=pR.below hba
    replace hOF:=hOF.below hba
    have x0:=pE.cell 0
    have x1:=pE.cell 1
    have x2:=pE.cell 2
    simp only [List.getElem?_cons_zero,List.getElem?_cons_succ] at x0 x1 x2
    go_wp2_with fail
    generalize (w3.alloc (.cells #[.string kk,.slice sa sn sc,.slice fa fn fc] 39))=W3 at *
    clear x0 x1 x2
    refine (kK _ bw (hOF.mem hfz)).mono ?_
    rintro x w4 ⟨rfl,hb4⟩
    replace bw:=bel8 bw hb4
    replace pR:=pR.below hb4
    replace pE:=pE.below hb4
    replace hOF:=hOF.below hb4
    have hlo:=hlo1
    have hT4:w3.heap.size≤w4.heap.size:=Nat.le_trans hba.size hb4.size
    clear hb4 kK hba
    cases hok:entOk (entZ kk zs)
    ·have HN9:=HN.out (fun e he=>by have:=(HQ.out e he).2;rw [hok] at this;cases this)
     replace HN:Hid (∀ W,RdGF t (.returned (.tuple #[.agg #[.string ⟨#[]⟩,.slice none 0 0,.slice none 0 0],.int .i64 (3)])) W w.heap.size):=HN9
     clear HN9 hb HQ HR hOF hok
     have r0:=pR.cell 0
     have r1:=pR.cell 1
     have r2:=pR.cell 2
     have fr0:=pR.frozen 0
     have fr1:=pR.frozen 1
     have fr2:=pR.frozen 2
     have pZ:=((pR.set 0 (.string ⟨#[]⟩)).set 1 (.slice none 0 0)).set 2 (.slice none 0 0)
     simp only [List.set_cons_zero,List.set_cons_succ] at pZ
     have z0:=pZ.cell 0
     have z1:=pZ.cell 1
     have z2:=pZ.cell 2
     simp only [List.getElem?_cons_zero,List.getElem?_cons_succ] at z0 z1 z2 r0 r1 r2
     have bz:=((bw.setCell (p:=⟨w.heap.size,0,none⟩) (Nat.le_refl _) (.string ⟨#[]⟩)).setCell (p:=⟨w.heap.size,1,none⟩) (Nat.le_refl _) (.slice none 0 0)).setCell (p:=⟨w.heap.size,2,none⟩) (Nat.le_refl _) (.slice none 0 0)
     clear pZ pR pE
     go_wp2
     refine bodyPost_ret (by simp [results,Tryd.results18,go_sem,z0,z1,z2];try rfl) rfl ?_
     first | exact ⟨HN.out _,bz⟩ | exact ⟨HN.out _,by go_grown⟩
    ·have hRd:=HR.out hok
     have x0:=pE.cell 0
     have x1:=pE.cell 1
     have x2:=pE.cell 2
     simp only [List.getElem?_cons_zero,List.getElem?_cons_succ] at x0 x1 x2
     have r0:=pR.cell 0
     have r1:=pR.cell 1
     have r2:=pR.cell 2
     have fr0:=pR.frozen 0
     have fr1:=pR.frozen 1
     have fr2:=pR.frozen 2
     have pZ:=((pR.set 0 (.string kk)).set 1 (.slice sa sn sc)).set 2 (.slice fa fn fc)
     simp only [List.set_cons_zero,List.set_cons_succ] at pZ
     have z0:=pZ.cell 0
     have z1:=pZ.cell 1
     have z2:=pZ.cell 2
     simp only [List.getElem?_cons_zero,List.getElem?_cons_succ] at z0 z1 z2 r0 r1 r2
     have bz:=((bw.setCell (p:=⟨w.heap.size,0,none⟩) (Nat.le_refl _) (.string kk)).setCell (p:=⟨w.heap.size,1,none⟩) (Nat.le_refl _) (.slice sa sn sc)).setCell (p:=⟨w.heap.size,2,none⟩) (Nat.le_refl _) (.slice fa fn fc)
     have hOF9:=(((hOF.low3 (p:=⟨w.heap.size,0,none⟩) hlo (.string kk)).low3 (p:=⟨w.heap.size,1,none⟩) hlo (.slice sa sn sc)).low3 (p:=⟨w.heap.size,2,none⟩) hlo (.slice fa fn fc)).wide (B':=w.heap.size) (T':=((w4.setCell ⟨w.heap.size,0,none⟩ (.string kk)).setCell ⟨w.heap.size,1,none⟩ (.slice sa sn sc)).setCell ⟨w.heap.size,2,none⟩ (.slice fa fn fc) |>.heap.size) (Nat.le_of_lt hlo) (by simp;exact hT4)
     have HE:Hid (RdGF t (.returned (.tuple #[entV (entZ kk zs).1 ((sa,sn,sc),(fa,fn,fc)),.int .i64 0])) (((w4.setCell ⟨w.heap.size,0,none⟩ (.string kk)).setCell ⟨w.heap.size,1,none⟩ (.slice sa sn sc)).setCell ⟨w.heap.size,2,none⟩ (.slice fa fn fc)) w.heap.size):=.inl ⟨_,_,hRd,rfl,hOF9⟩
     clear hOF hOF9 pZ pR pE hRd HR HQ hok
     go_wp2
     refine bodyPost_ret (by simp [results,Tryd.results18,go_sem,z0,z1,z2];try rfl) rfl ?_
     exact ⟨HE.out,bz⟩
  ·have HN9:=HN.out (fun e he=>by
    obtain ⟨_,_,ys,g1,_⟩:=he
    rw [← HK.out.2] at g1
    exact hNL ys g1)
   replace HN:Hid (∀ W,RdGF t (.returned (.tuple #[.agg #[.string ⟨#[]⟩,.slice none 0 0,.slice none 0 0],.int .i64 (3)])) W w.heap.size):=HN9
   clear HN9 hOw
   have r0:=pR.cell 0
   have r1:=pR.cell 1
   have r2:=pR.cell 2
   have fr0:=pR.frozen 0
   have fr1:=pR.frozen 1
   have fr2:=pR.frozen 2
   have pZ:=((pR.set 0 (.string ⟨#[]⟩)).set 1 (.slice none 0 0)).set 2 (.slice none 0 0)
   simp only [List.set_cons_zero,List.set_cons_succ] at pZ
   have z0:=pZ.cell 0
   have z1:=pZ.cell 1
   have z2:=pZ.cell 2
   simp only [List.getElem?_cons_zero,List.getElem?_cons_succ] at z0 z1 z2 r0 r1 r2
   have bz:=((bw.setCell (p:=⟨w.heap.size,0,none⟩) (Nat.le_refl _) (.string ⟨#[]⟩)).setCell (p:=⟨w.heap.size,1,none⟩) (Nat.le_refl _) (.slice none 0 0)).setCell (p:=⟨w.heap.size,2,none⟩) (Nat.le_refl _) (.slice none 0 0)
   clear pZ pR
   go_wp2
   refine bodyPost_ret (by simp [results,Tryd.results18,go_sem,z0,z1,z2];try rfl) rfl ?_
   first | exact ⟨HN.out _,bz⟩ | exact ⟨HN.out _,by go_grown⟩
 ·have HN9:=HN.out (fun e he=>hno ⟨he.more,he.dig⟩)
  replace HN:Hid (∀ W,RdGF t (.returned (.tuple #[.agg #[.string ⟨#[]⟩,.slice none 0 0,.slice none 0 0],.int .i64 (3)])) W w.heap.size):=HN9
  clear HN9
  have kU1:=fun W (hb:Below w.heap.size w W)=>kU ⟨#[]⟩ W hb (show (0:Nat)≤65536 by omega)
  clear kU
  go_wp2_with fail
  refine (kU1 _ bw).mono ?_
  rintro x w2 ⟨⟨ua,uc,zs,cd,hun,rfl,hOw⟩,hb⟩
  replace bw:=bel8 bw hb
  replace pR:=pR.below hb
  clear hb kU1
  rcases hun with ⟨rfl,hL⟩ | ⟨rfl,hNL,rfl⟩
  ·exact absurd hL (noList_nil (by rfl) zs)
  clear hOw
  have r0:=pR.cell 0
  have r1:=pR.cell 1
  have r2:=pR.cell 2
  have fr0:=pR.frozen 0
  have fr1:=pR.frozen 1
  have fr2:=pR.frozen 2
  have pZ:=((pR.set 0 (.string ⟨#[]⟩)).set 1 (.slice none 0 0)).set 2 (.slice none 0 0)
  simp only [List.set_cons_zero,List.set_cons_succ] at pZ
  have z0:=pZ.cell 0
  have z1:=pZ.cell 1
  have z2:=pZ.cell 2
  simp only [List.getElem?_cons_zero,List.getElem?_cons_succ] at z0 z1 z2 r0 r1 r2
  have bz:=((bw.setCell (p:=⟨w.heap.size,0,none⟩) (Nat.le_refl _) (.string ⟨#[]⟩)).setCell (p:=⟨w.heap.size,1,none⟩) (Nat.le_refl _) (.slice none 0 0)).setCell (p:=⟨w.heap.size,2,none⟩) (Nat.le_refl _) (.slice none 0 0)
  clear pZ pR
  go_wp2
  refine bodyPost_ret (by simp [results,Tryd.results18,go_sem,z0,z1,z2];try rfl) rfl ?_
  first | exact ⟨HN.out _,bz⟩ | exact ⟨HN.out _,by go_grown⟩
end Go.Proofs.YthlcdhddickdiaaDoor
