/-
  Joined: RdiI, Pack0, PackI, RciI, Vars.
-/
import Derived.Lib.AppendStr
import Derived.WalkSmall
import Derived.ChangeOld
import Derived.Test.YtdopgkbegjfhjaaGreatDoorR33

namespace Go.Proofs.YtdopgkbegjfhjaaGreatDoor
set_option maxRecDepth 100000
set_option maxHeartbeats 16000000
open Go.RowKit
set_option linter.unusedVariables false
set_option linter.unusedSimpArgs false

def RdGF (t:ByteArray) (x:Ending) (w':World) (B:Nat):Prop:=(∃ (e:E3) (s:Sl2),RdOk t e∧x=.returned (.tuple #[entV e.1 s,.int .i64 0])∧OwnF w' B w'.heap.size s e)∨((∀ e,¬ RdOk t e)∧x=(.returned (.tuple #[.agg #[.string ⟨#[]⟩,.slice none 0 0,.slice none 0 0],.int .i64 (rdC t)])))
theorem getD_9 {α:Type} {zs:List α} {t:Nat} {d:α} (h:t<zs.length):zs.getD t d=zs[t]:=by rw [List.getD,List.getElem?_eq_getElem h];rfl
theorem Own.blk9 {base:Nat} {w:World} {a:Option Addr} {n cap:Nat} {xs:List Int} (h:Own base w a n cap xs) (hn:1≤n):∃ g cs,a=some ⟨g,0,none⟩∧base≤g∧Blk w g 3 cs∧∀ t,t<n→cs[t]?=some (.int .i64 (xs.getD t 0)):=by
 obtain ⟨h1,h2,h3,h4⟩:=h
 rcases h4 with h4 | ⟨g,rfl,q⟩
 ·omega
 ·rcases q.2 with ⟨hv,_⟩ | ⟨g',cap',cur,hv,hg,hh,hn',hc,hs,ht⟩
  ·cases hv
  ·cases hv
   refine ⟨g,cur.toList,rfl,hg,by simpa [Blk] using hh,fun t ht'=>?_⟩
   have e:=congrArg (fun l=>l[t]?) ht
   simp only [Nat.mul_one] at e
   rw [List.getElem?_take_of_lt ht'] at e
   rw [e,List.getElem?_map,List.getElem?_eq_getElem (by omega),getD_9 (by omega)]
   rfl

theorem OwnF.low3 {w:World} {B T:Nat} {s:Sl2} {e:E3} (h:OwnF w B T s e) {p:Addr} (hp:p.block<B) (u:Value):OwnF (w.setCell p u) B T s e:=by
 obtain ⟨q1,t1,y1,y2,y3,y4,y5⟩:=h
 refine ⟨ownsRow_setCell_below q1 hp u,t1,y1,y2,y3,y4,?_⟩
 rcases y5 with y5 | ⟨g,off,cs,e,hg,ht,hB,hc⟩
 ·exact .inl y5
 ·exact .inr ⟨g,off,cs,e,hg,ht,hB.off p u (by omega),hc⟩
theorem OwnF.wide {w:World} {B B' T T':Nat} {s:Sl2} {e:E3} (h:OwnF w B T s e) (hB:B'≤B) (hT:T≤T'):OwnF w B' T' s e:=by
 obtain ⟨q1,t1,y1,y2,y3,y4,y5⟩:=h
 refine ⟨lower8 q1 hB,fun x hx=>Nat.lt_of_lt_of_le (t1 x hx) hT,y1,y2,y3,y4,?_⟩
 rcases y5 with y5 | ⟨g,off,cs,e,hg,ht,hB',hc⟩
 ·exact .inl y5
 ·exact .inr ⟨g,off,cs,e,by omega,by omega,hB',hc⟩

theorem implReadEntry_is (t:ByteArray) (w:World) (ht:t.size≤1048576) (hV:VmShape w) (hE:ErrType w) :
  Calls Tryz.prog 75 #[.string t] w fun x w'=>RdGF t x w' w.heap.size∧Below w.heap.size w w':=by
 have bw:Below w.heap.size w (w.alloc (.cells #[.string ⟨#[]⟩,.slice none 0 0,.slice none 0 0] 74)):=by go_grown
 have pR:Blk (w.alloc (.cells #[.string ⟨#[]⟩,.slice none 0 0,.slice none 0 0] 74)) w.heap.size 74 [.string ⟨#[]⟩,.slice none 0 0,.slice none 0 0]:=blkAt _ _ _ rfl
 by_cases hs:65536<t.size
 ·have HN:Hid (∀ W,RdGF t (.returned (.tuple #[.agg #[.string ⟨#[]⟩,.slice none 0 0,.slice none 0 0],.int .i64 (rdC t)])) W w.heap.size):=fun W=>.inr ⟨fun e he=>by have:=he.1;omega,rfl⟩
  have e2:rdC t=2:=by unfold rdC;rw [if_pos hs]
  rw [e2] at HN
  have hs2:(65536:Int)<(t.size:Int):=by omega
  go_enter Tryz.func75,Tryz.ntmps75
  have r0:=pR.cell 0
  have r1:=pR.cell 1
  have r2:=pR.cell 2
  have fr0:=pR.frozen 0
  have fr1:=pR.frozen 1
  have fr2:=pR.frozen 2
  have pZ:=((pR.set 0 (.string ⟨#[]⟩)).set 1 (.slice none 0 0)).set 2 (.slice none 0 0)
  simp only [List.set_cons_zero,List.set_cons_succ] at pZ
  have z0:=pZ.cell 0
  have z1:=pZ.cell 1
  have z2:=pZ.cell 2
  simp only [List.getElem?_cons_zero,List.getElem?_cons_succ] at z0 z1 z2 r0 r1 r2
  have bz:=((bw.setCell (p:=⟨w.heap.size,0,none⟩) (Nat.le_refl _) (.string ⟨#[]⟩)).setCell (p:=⟨w.heap.size,1,none⟩) (Nat.le_refl _) (.slice none 0 0)).setCell (p:=⟨w.heap.size,2,none⟩) (Nat.le_refl _) (.slice none 0 0)
  clear pZ pR
  go_wp2
  refine bodyPost_ret (by simp [results,Tryz.results75,go_sem,z0,z1,z2];try rfl) rfl ?_
  first | exact ⟨HN.out _,bz⟩ | exact ⟨HN.out _,by go_grown⟩
 have hs2:¬ (65536:Int)<(t.size:Int):=by omega
 have e3:rdC t=3:=by unfold rdC;rw [if_neg hs]
 have HN:Hid ((∀ e,¬ RdOk t e)→∀ W,RdGF t (.returned (.tuple #[.agg #[.string ⟨#[]⟩,.slice none 0 0,.slice none 0 0],.int .i64 (3)])) W w.heap.size):=fun h W=>.inr ⟨h,by rw [e3]⟩
 clear e3
 have kC:=fun W=>cutKey_is t W (by omega)
 have kU:=fun (s:ByteArray) W (hb:Below w.heap.size w W) (h:s.size≤65536)=>implUnpackList_any s W h (hE.below hb)
 go_enter Tryz.func75,Tryz.ntmps75
 go_wp2_with fail
 generalize (w.alloc (.cells #[.string ⟨#[]⟩,.slice none 0 0,.slice none 0 0] 74))=U at *
 refine (kC _).mono ?_
 rintro x w1 ⟨hK,hb⟩
 replace bw:=bel8 bw hb
 replace pR:=pR.below hb
 have hlo1:w.heap.size<w1.heap.size:=pR.lt
 clear hb kC
 rcases hK with ⟨h15,hdg,rfl⟩ | ⟨hno,rfl⟩
 ·have hps:(t.extract 15 t.size).size≤65536:=by simp;omega
  have hks:(t.extract 0 15).size≤maxLen:=by unfold maxLen;simp;omega
  have kU1:=kU (t.extract 15 t.size)
  clear kU
  obtain ⟨kk,hkk⟩:∃ k,k=t.extract 0 15:=⟨_,rfl⟩
  obtain ⟨pp,hpp⟩:∃ k,k=t.extract 15 t.size:=⟨_,rfl⟩
  rw [← hkk] at hks ⊢
  rw [← hpp] at hps kU1 ⊢
  have HK:Hid (kk=t.extract 0 15∧pp=t.extract 15 t.size):=⟨hkk,hpp⟩
  clear hkk hpp
  go_wp2_with fail
  refine (kU1 _ bw hps).mono ?_
  rintro x w2 ⟨⟨ua,uc,zs,cd,hun,rfl,hOw⟩,hb⟩
  have hlen:=hun.len
  replace bw:=bel8 bw hb
  replace pR:=pR.below hb
  have hb12:w1.heap.size≤w2.heap.size:=hb.size
  clear hb kU1
  rcases hun with ⟨rfl,hL⟩ | ⟨rfl,hNL,rfl⟩
  ·have hIn:=hOw.ints
   obtain ⟨m,hm⟩:∃ m,m=zs.getD 0 0:=⟨_,rfl⟩
   have hmb:m≤999999999:=by
    rw [hm]
    rcases Nat.lt_or_ge 0 zs.length with h9 | h9
    ·have:=listed_small9 hL (zs.getD 0 0:Nat) (List.mem_map.2 ⟨_,by rw [getD_9 h9];exact List.getElem_mem _,rfl⟩)
     omega
    ·rw [List.getD,List.getElem?_eq_none (by omega)];simp
   have kO:=fun W (hb:Below w2.heap.size w2 W)=>entryOf_is kk ua zs.length uc (ofNats zs) m W (hIn.below hb) hlen (fun h9=>by rw [ofNats_head h9,hm]) hmb
   have hcz:((0:Int) != 0)=false:=by rfl
   obtain ⟨zl,hzl⟩:∃ k,k=zs.length:=⟨_,rfl⟩
   have hfz:(entZ kk zs).fits:=entZ_fits hL hks
   have HR:Hid (1≤zl→1+3*m≤zl→entOk (entZ kk zs)=true→RdOk t (entZ kk zs)):=fun g1 g2 g3=>⟨by omega,by omega,zs,by rw [← HK.out.2];exact hL,by omega,by rw [← hm];omega,by rw [← HK.out.1],g3⟩
   have HQ:Hid (∀ e,RdOk t e→(1≤zl∧1+3*m≤zl)∧entOk (entZ kk zs)=true):=fun e he=>by
    have h9:=he.ok
    obtain ⟨_,_,ys,g1,g2,g3,g4,_⟩:=he
    rw [← HK.out.2] at g1
    have ey:=hL.only g1
    subst ey
    rw [g4,← HK.out.1] at h9
    exact ⟨⟨by omega,by rw [hm];omega⟩,h9⟩
   rw [← hzl] at kO hOw ⊢
   have HZ:Hid (zl=zs.length∧m=zs.getD 0 0):=⟨hzl,hm⟩
   have hzb:zl≤4096:=by omega
   clear hzl hm hlen
   go_wp2_with fail
   refine (kO _ (Below.refl _ _)).mono ?_
   rintro x w3 ⟨hG,hb⟩
   replace bw:=bel8 bw hb
   replace pR:=pR.below hb
   clear kO
   rcases hG with ⟨hno,rfl⟩ | ⟨⟨g1,g2⟩,s,b,off,hua,rfl,hOB,hf2,hf1⟩
   ·have HN9:=HN.out (fun e he=>hno (HQ.out e he).1)
    replace HN:Hid (∀ W,RdGF t (.returned (.tuple #[.agg #[.string ⟨#[]⟩,.slice none 0 0,.slice none 0 0],.int .i64 (3)])) W w.heap.size):=HN9
    clear HN9 hb HQ HR hOw hIn
    have hba:Below w3.heap.size w3 (w3.alloc (.cells #[.string ⟨#[]⟩,.slice none 0 0,.slice none 0 0] 74)):=by go_grown
    replace bw:=bel8 bw hba
    replace pR:=pR.below hba
    clear hba
    have r0:=pR.cell 0
    have r1:=pR.cell 1
    have r2:=pR.cell 2
    have fr0:=pR.frozen 0
    have fr1:=pR.frozen 1
    have fr2:=pR.frozen 2
    have pZ:=((pR.set 0 (.string ⟨#[]⟩)).set 1 (.slice none 0 0)).set 2 (.slice none 0 0)
    simp only [List.set_cons_zero,List.set_cons_succ] at pZ
    have z0:=pZ.cell 0
    have z1:=pZ.cell 1
    have z2:=pZ.cell 2
    simp only [List.getElem?_cons_zero,List.getElem?_cons_succ] at z0 z1 z2 r0 r1 r2
    have bz:=((bw.setCell (p:=⟨w.heap.size,0,none⟩) (Nat.le_refl _) (.string ⟨#[]⟩)).setCell (p:=⟨w.heap.size,1,none⟩) (Nat.le_refl _) (.slice none 0 0)).setCell (p:=⟨w.heap.size,2,none⟩) (Nat.le_refl _) (.slice none 0 0)
    clear pZ pR
    go_wp2
    refine bodyPost_ret (by simp [results,Tryz.results75,go_sem,z0,z1,z2];try rfl) rfl ?_
    first | exact ⟨HN.out _,bz⟩ | exact ⟨HN.out _,by go_grown⟩
   ·-- the entry is there
    have hOw3:=hOw.kept hb
    obtain ⟨g,cs,hua2,hgB,hBk,hcs⟩:=hOw3.blk9 g1
    subst hua2
    cases hua
    obtain ⟨⟨sa,sn,sc⟩,⟨fa,fn,fc⟩⟩:=s
    simp only at hOB hf1 hf2
    injection hf2 with hf2a hf2b
    have hFl:(entZ kk zs).2.2.length=fn:=by show ((ofNats zs).drop (1+3*zs.getD 0 0)).length=fn;rw [List.length_drop,ofNats_len,← HZ.out.2,hf2a,HZ.out.1]
    have hOF:OwnF w3 w1.heap.size w3.heap.size ((sa,sn,sc),(fa,fn,fc)) (entZ kk zs):=by
     refine ⟨?_,fun x hx=>(hOB.lt x hx).2,hFl,?_,?_,?_,?_⟩
     ·show w3.ownsRow w1.heap.size 112 3 (.slice sa sn sc) (triples (((ofNats zs).drop 1).take (3*zs.getD 0 0))).length (flat (triples (((ofNats zs).drop 1).take (3*zs.getD 0 0))))
      rw [← HZ.out.2]
      exact lower8 hOB hb12
     ·show fn≤fc
      have:=hOw.2.1
      omega
     ·show fc≤maxLen
      have:=hOw.2.2.1
      omega
     ·intro h9
      rcases hf1 with ⟨_,h8⟩ | h8
      ·rw [h8] at h9;cases h9
      ·rw [h8] at h9;cases h9
     ·rcases Nat.eq_zero_or_pos fn with h9 | h9
      ·exact .inl h9
      ·right
       have h2c:=hOw.2.1
       rcases hf1 with ⟨h8,_⟩ | h8
       ·omega
       ·refine ⟨_,0+(1+3*m),cs,h8,hgB,hBk.lt,hBk,fun t ht'=>?_⟩
        have ht9:t<fn:=ht'
        rw [Nat.zero_add]
        rw [hcs (1+3*m+t) (by omega)]
        show some (Value.int .i64 _)=some (.int .i64 (((ofNats zs).drop (1+3*zs.getD 0 0)).getD t 0))
        rw [← HZ.out.2]
        simp [List.getD]
    have hFle:(entZ kk zs).2.2.length≤4096:=by rw [hFl];omega
    clear hOB hf1 hf2a hf2b hOw hOw3 hBk hcs hIn hFl
    replace HR:Hid (entOk (entZ kk zs)=true→RdOk t (entZ kk zs)):=HR.out g1 g2
    have hba:Below w3.heap.size w3 (w3.alloc (.cells #[.string kk,.slice sa sn sc,.slice fa fn fc] 74)):=by go_grown
    have pE:Blk (w3.alloc (.cells #[.string kk,.slice sa sn sc,.slice fa fn fc] 74)) w3.heap.size 74 [.string kk,.slice sa sn sc,.slice fa fn fc]:=blkAt _ _ _ rfl
    have kK:=fun W (hb:Below w.heap.size w W) (hm:Emem W ((sa,sn,sc),(fa,fn,fc)) (entZ kk zs))=>implEntryOK_is (entZ kk zs) ((sa,sn,sc),(fa,fn,fc)) W hm (hV.below hb)
    have ekk:(entZ kk zs).1=kk:=rfl
    rw [ekk] at kK
    unfold entV at kK ⊢
    simp only at kK ⊢
    replace bw:=bel8 bw hba
    replace pR:=pR.below hba
    replace hOF:=hOF.below hba
    have x0:=pE.cell 0
    have x1:=pE.cell 1
    have x2:=pE.cell 2
    simp only [List.getElem?_cons_zero,List.getElem?_cons_succ] at x0 x1 x2
    go_wp2_with fail
    generalize (w3.alloc (.cells #[.string kk,.slice sa sn sc,.slice fa fn fc] 74))=W3 at *
    clear x0 x1 x2
    refine (kK _ bw (hOF.mem hfz)).mono ?_
    rintro x w4 ⟨rfl,hb4⟩
    replace bw:=bel8 bw hb4
    replace pR:=pR.below hb4
    replace pE:=pE.below hb4
    replace hOF:=hOF.below hb4
    have hlo:=hlo1
    have hT4:w3.heap.size≤w4.heap.size:=Nat.le_trans hba.size hb4.size
    clear hb4 kK hba
    cases hok:entOk (entZ kk zs)
    ·have HN9:=HN.out (fun e he=>by have:=(HQ.out e he).2;rw [hok] at this;cases this)
     replace HN:Hid (∀ W,RdGF t (.returned (.tuple #[.agg #[.string ⟨#[]⟩,.slice none 0 0,.slice none 0 0],.int .i64 (3)])) W w.heap.size):=HN9
     clear HN9 hb HQ HR hOF hok
     have r0:=pR.cell 0
     have r1:=pR.cell 1
     have r2:=pR.cell 2
     have fr0:=pR.frozen 0
     have fr1:=pR.frozen 1
     have fr2:=pR.frozen 2
     have pZ:=((pR.set 0 (.string ⟨#[]⟩)).set 1 (.slice none 0 0)).set 2 (.slice none 0 0)
     simp only [List.set_cons_zero,List.set_cons_succ] at pZ
     have z0:=pZ.cell 0
     have z1:=pZ.cell 1
     have z2:=pZ.cell 2
     simp only [List.getElem?_cons_zero,List.getElem?_cons_succ] at z0 z1 z2 r0 r1 r2
     have bz:=((bw.setCell (p:=⟨w.heap.size,0,none⟩) (Nat.le_refl _) (.string ⟨#[]⟩)).setCell (p:=⟨w.heap.size,1,none⟩) (Nat.le_refl _) (.slice none 0 0)).setCell (p:=⟨w.heap.size,2,none⟩) (Nat.le_refl _) (.slice none 0 0)
     clear pZ pR pE
     go_wp2
     refine bodyPost_ret (by simp [results,Tryz.results75,go_sem,z0,z1,z2];try rfl) rfl ?_
     first | exact ⟨HN.out _,bz⟩ | exact ⟨HN.out _,by go_grown⟩
    ·have hRd:=HR.out hok
     have x0:=pE.cell 0
     have x1:=pE.cell 1
     have x2:=pE.cell 2
     simp only [List.getElem?_cons_zero,List.getElem?_cons_succ] at x0 x1 x2
     have r0:=pR.cell 0
     have r1:=pR.cell 1
     have r2:=pR.cell 2
     have fr0:=pR.frozen 0
     have fr1:=pR.frozen 1
     have fr2:=pR.frozen 2
     have pZ:=((pR.set 0 (.string kk)).set 1 (.slice sa sn sc)).set 2 (.slice fa fn fc)
     simp only [List.set_cons_zero,List.set_cons_succ] at pZ
     have z0:=pZ.cell 0
     have z1:=pZ.cell 1
     have z2:=pZ.cell 2
     simp only [List.getElem?_cons_zero,List.getElem?_cons_succ] at z0 z1 z2 r0 r1 r2
     have bz:=((bw.setCell (p:=⟨w.heap.size,0,none⟩) (Nat.le_refl _) (.string kk)).setCell (p:=⟨w.heap.size,1,none⟩) (Nat.le_refl _) (.slice sa sn sc)).setCell (p:=⟨w.heap.size,2,none⟩) (Nat.le_refl _) (.slice fa fn fc)
     have hOF9:=(((hOF.low3 (p:=⟨w.heap.size,0,none⟩) hlo (.string kk)).low3 (p:=⟨w.heap.size,1,none⟩) hlo (.slice sa sn sc)).low3 (p:=⟨w.heap.size,2,none⟩) hlo (.slice fa fn fc)).wide (B':=w.heap.size) (T':=((w4.setCell ⟨w.heap.size,0,none⟩ (.string kk)).setCell ⟨w.heap.size,1,none⟩ (.slice sa sn sc)).setCell ⟨w.heap.size,2,none⟩ (.slice fa fn fc) |>.heap.size) (Nat.le_of_lt hlo) (by simp;exact hT4)
     have HE:Hid (RdGF t (.returned (.tuple #[entV (entZ kk zs).1 ((sa,sn,sc),(fa,fn,fc)),.int .i64 0])) (((w4.setCell ⟨w.heap.size,0,none⟩ (.string kk)).setCell ⟨w.heap.size,1,none⟩ (.slice sa sn sc)).setCell ⟨w.heap.size,2,none⟩ (.slice fa fn fc)) w.heap.size):=.inl ⟨_,_,hRd,rfl,hOF9⟩
     clear hOF hOF9 pZ pR pE hRd HR HQ hok
     go_wp2
     refine bodyPost_ret (by simp [results,Tryz.results75,go_sem,z0,z1,z2];try rfl) rfl ?_
     exact ⟨HE.out,bz⟩
  ·have HN9:=HN.out (fun e he=>by
    obtain ⟨_,_,ys,g1,_⟩:=he
    rw [← HK.out.2] at g1
    exact hNL ys g1)
   replace HN:Hid (∀ W,RdGF t (.returned (.tuple #[.agg #[.string ⟨#[]⟩,.slice none 0 0,.slice none 0 0],.int .i64 (3)])) W w.heap.size):=HN9
   clear HN9 hOw
   have r0:=pR.cell 0
   have r1:=pR.cell 1
   have r2:=pR.cell 2
   have fr0:=pR.frozen 0
   have fr1:=pR.frozen 1
   have fr2:=pR.frozen 2
   have pZ:=((pR.set 0 (.string ⟨#[]⟩)).set 1 (.slice none 0 0)).set 2 (.slice none 0 0)
   simp only [List.set_cons_zero,List.set_cons_succ] at pZ
   have z0:=pZ.cell 0
   have z1:=pZ.cell 1
   have z2:=pZ.cell 2
   simp only [List.getElem?_cons_zero,List.getElem?_cons_succ] at z0 z1 z2 r0 r1 r2
   have bz:=((bw.setCell (p:=⟨w.heap.size,0,none⟩) (Nat.le_refl _) (.string ⟨#[]⟩)).setCell (p:=⟨w.heap.size,1,none⟩) (Nat.le_refl _) (.slice none 0 0)).setCell (p:=⟨w.heap.size,2,none⟩) (Nat.le_refl _) (.slice none 0 0)
   clear pZ pR
   go_wp2
   refine bodyPost_ret (by simp [results,Tryz.results75,go_sem,z0,z1,z2];try rfl) rfl ?_
   first | exact ⟨HN.out _,bz⟩ | exact ⟨HN.out _,by go_grown⟩
 ·have HN9:=HN.out (fun e he=>hno ⟨he.more,he.dig⟩)
  replace HN:Hid (∀ W,RdGF t (.returned (.tuple #[.agg #[.string ⟨#[]⟩,.slice none 0 0,.slice none 0 0],.int .i64 (3)])) W w.heap.size):=HN9
  clear HN9
  have kU1:=fun W (hb:Below w.heap.size w W)=>kU ⟨#[]⟩ W hb (show (0:Nat)≤65536 by omega)
  clear kU
  go_wp2_with fail
  refine (kU1 _ bw).mono ?_
  rintro x w2 ⟨⟨ua,uc,zs,cd,hun,rfl,hOw⟩,hb⟩
  replace bw:=bel8 bw hb
  replace pR:=pR.below hb
  clear hb kU1
  rcases hun with ⟨rfl,hL⟩ | ⟨rfl,hNL,rfl⟩
  ·exact absurd hL (noList_nil (by rfl) zs)
  clear hOw
  have r0:=pR.cell 0
  have r1:=pR.cell 1
  have r2:=pR.cell 2
  have fr0:=pR.frozen 0
  have fr1:=pR.frozen 1
  have fr2:=pR.frozen 2
  have pZ:=((pR.set 0 (.string ⟨#[]⟩)).set 1 (.slice none 0 0)).set 2 (.slice none 0 0)
  simp only [List.set_cons_zero,List.set_cons_succ] at pZ
  have z0:=pZ.cell 0
  have z1:=pZ.cell 1
  have z2:=pZ.cell 2
  simp only [List.getElem?_cons_zero,List.getElem?_cons_succ] at z0 z1 z2 r0 r1 r2
  have bz:=((bw.setCell (p:=⟨w.heap.size,0,none⟩) (Nat.le_refl _) (.string ⟨#[]⟩)).setCell (p:=⟨w.heap.size,1,none⟩) (Nat.le_refl _) (.slice none 0 0)).setCell (p:=⟨w.heap.size,2,none⟩) (Nat.le_refl _) (.slice none 0 0)
  clear pZ pR
  go_wp2
  refine bodyPost_ret (by simp [results,Tryz.results75,go_sem,z0,z1,z2];try rfl) rfl ?_
  first | exact ⟨HN.out _,bz⟩ | exact ⟨HN.out _,by go_grown⟩


theorem progNums_ok {rows:List (List I3)} (h:progOk rows=true):allOk (progNums rows):=by
 obtain ⟨_,hr⟩:=progOk_parts h
 intro z hz
 unfold progNums at hz
 obtain ⟨r,hrm,hz⟩:=List.mem_flatMap.1 hz
 obtain ⟨hl,hx⟩:=hr r hrm
 rcases List.mem_cons.1 hz with rfl | hz
 ·omega
 ·unfold rowNums at hz
  obtain ⟨x,hxm,hz⟩:=List.mem_flatMap.1 hz
  obtain ⟨h0,h1,h2⟩:=okI_small (hx x hxm)
  simp at hz
  rcases hz with rfl | rfl | rfl<;>omega


theorem progNums_pos {rows:List (List I3)} (h:rows.length=3):0<(progNums rows).length:=by
 match rows,h with
 | [_,_,_],_=>simp [progNums]
theorem own_some {w:World} {B e n:Nat} {v:Value} {cs:List Value} (h:w.ownsRow B e 1 v n cs) (hn:0<n):∃ g c,v=.slice (some ⟨g,0,none⟩) n c:=by
 rcases h.2 with ⟨_,h0⟩ | ⟨g,cap,cur,hv,_⟩
 ·omega
 ·exact ⟨g,cap,hv⟩

theorem implPack_ok (a:Option Addr) (len cap:Nat) (rows:List (List I3)) (w:World) (h:Codes w a len cap rows) (hok:progOk rows=true) :
  Calls Tryz.prog 71 #[.agg #[.slice a len cap]] w fun e w'=>e=.returned (.tuple #[.string (strOfNums (packL (progNums rows))),.int .i64 0])∧Below w.heap.size w w':=by
 obtain ⟨i0,hi,hz0,hz1,hz2⟩:=info_parts info_int
 obtain ⟨h3,hrows⟩:=progOk_parts hok
 have hall:=progNums_ok hok
 have hplen:=progNums_len (rows:=rows) (fun r hr=>(hrows r hr).1)
 have k:=implProgramOK_is a len cap rows
 rw [hok] at k
 clear hok
 go_enter Tryz.func71,Tryz.ntmps71
 go_wp2_with fail
 refine (k _ (h.below (by go_grown))).mono ?_
 rintro e w1 ⟨rfl,hb1⟩
 have cP:w1.cell? ⟨w.heap.size,0,none⟩=some (.slice a len cap):=by rw [hb1.cell (by simp)];simp [go_sem]
 have b1:Below w.heap.size w w1:=bel_trans (by go_grown) hb1
 clear hb1 k
 replace h:=h.below b1
 have b1s:=b1.size
 obtain ⟨hl,hlc,hcm,hcase⟩:=h
 obtain rfl:len=3:=by omega
 rcases hcase with h0 | ⟨b,off,rfl,hblt,hcell⟩
 ·omega
 unfold maxLen at hcm
 have hE:Hid (progNums rows=progNums (rows.take 3)):=by rw [Hid,List.take_of_length_le (by omega)]
 go_wp2
 go_loopw [4,15] (fun sv si wr=>∃ (k:Nat),k≤3∧si=.int .i64 k∧wr.ownsRow w1.heap.size 3 1 sv (progNums (rows.take k)).length ((progNums (rows.take k)).map (Value.int .i64))∧Below w1.heap.size w1 wr) (fun _ si _=>3 - (intOf si).toNat)
 case atStart=>exact ⟨0,by omega,rfl,by simpa [progNums] using World.ownsRow_nil _ _ _ _,by go_grown⟩
 case round =>
  obtain ⟨k,hk,rfl,hr,hbel⟩:=hrel
  by_cases hlt:k<3
  ·have hlt2:(k:Int)<3:=by omega
   have hk0:(0:Int)≤(k:Int):=by omega
   obtain ⟨a',len',cap',hc,hI⟩:=hcell k hlt
   have hst:=progNums_step (rows:=rows) (k:=k) (by omega)
   have hl6 : (rows.getD k []).length ≤ 6 := (hrows _ (by have : k < rows.length := by omega
                                                          simp [List.getD,this])).1
   have htl:(progNums (rows.take k)).length≤57:=by
    have:=progNums_len (rows:=rows.take k) (fun r hr=>(hrows r (List.mem_of_mem_take hr)).1)
    simp at this
    omega
   rw [hI.1] at hst hl6
   generalize rows.getD k []=xs at hI hst
   obtain ⟨ns,hns⟩:∃ ns,ns=progNums (rows.take k):=⟨_,rfl⟩
   rw [← hns] at hr htl hst
   have hst':Hid (progNums (rows.take (k+1))=(ns++[(len':Int)])++rowNums (xs.take len')):=by rw [Hid,hst,← hI.1,List.take_length]
   clear hst hns
   have hc':wr.cell? ⟨b,off+k,none⟩=some (.slice a' len' cap'):=by rw [hbel.cell (p:=⟨b,_,none⟩) hblt];exact hc
   have hbs:=hbel.size
   go_wp2_with (at_builtin;refine wpList_append_own _ rfl _ _ 40 rfl w1.heap.size 3 i0 (.int .i64 0) 1 8 Tryz.underlying40 hi hz0 hz1 hz2 rfl (by decide) _ _ _ rfl (hr.alloc _) ⟨wr.heap.size,0,none⟩ 1 1 [.int .i64 (len':Int)] rfl rfl (cell_one_new _ _ _) (one_i64'' _) ?c3 ?c4 ?c5 ?_)
   case c3=>unfold maxLen;omega
   case c4=>omega
   case c5=>simp;omega
   intro v2 w2 hown2 hgrow2 _
   have hb2:Below w1.heap.size w1 w2:=(hbel.alloc hbs _).grown hgrow2 (by simp;omega) (fun j hj=>(hr.lt _ hj).1)
   have hr2:w2.ownsRow w1.heap.size 3 1 v2 (ns.length+1) ((ns++[(len':Int)]).map (Value.int .i64)):=by simpa using hown2
   clear hown2 hgrow2 hr hbel hc' hbs
   obtain ⟨hl',hlc',hcm',_,hcase'⟩:=hI
   unfold maxLen at hcm'
   obtain ⟨ms,hms⟩:∃ ms,ms=ns++[(len':Int)]:=⟨_,rfl⟩
   have hml:ms.length=ns.length+1:=by rw [hms];simp
   rw [← hms] at hr2 hst'
   rw [← hml] at hr2
   clear hms
   go_wp2
   go_loopw [4,26] (fun sv si wi=>∃ (i:Nat),i≤len'∧si=.int .i64 i∧wi.ownsRow w1.heap.size 3 1 sv (ms++rowNums (xs.take i)).length ((ms++rowNums (xs.take i)).map (Value.int .i64))∧Below w1.heap.size w1 wi) (fun _ si _=>len' - (intOf si).toNat)
   case atStart=>exact ⟨0,by omega,rfl,by simpa [rowNums] using hr2,hb2⟩
   case round =>
    clear hr2 hb2
    obtain ⟨i,hi',rfl,hr,hbel⟩:=hrel
    by_cases hil:i<len'
    ·have hil2:(i:Int)<(len':Int):=by omega
     rcases hcase' with h0 | ⟨b',off',rfl,hblt',hcell'⟩
     ·omega
     obtain ⟨c0,c1,c2⟩:=hcell' i hil
     have hsi:=rowNums_step (xs:=xs) (k:=i) (by omega)
     generalize xs.getD i (0,0,0)=x at c0 c1 c2 hsi
     have htl2:(ms++rowNums (xs.take i)).length≤100:=by rw [List.length_append,rowNums_length,List.length_take];omega
     have hsi':Hid (ms++rowNums (xs.take (i+1))=(ms++rowNums (xs.take i))++[x.1,x.2.1,x.2.2]):=by rw [Hid,hsi,List.append_assoc]
     clear hsi hcell'
     have d0:wr.cell? ⟨b',off'+i*3,none⟩=some (.int .i64 x.1):=by rw [hbel.cell (p:=⟨b',_,none⟩) hblt'];exact c0
     have d1:wr.cell? ⟨b',off'+i*3+1,none⟩=some (.int .i64 x.2.1):=by rw [hbel.cell (p:=⟨b',_,none⟩) hblt'];exact c1
     have d2:wr.cell? ⟨b',off'+i*3+2,none⟩=some (.int .i64 x.2.2):=by rw [hbel.cell (p:=⟨b',_,none⟩) hblt'];exact c2
     clear c0 c1 c2
     generalize ms++rowNums (xs.take i)=ys at hr htl2 hsi'
     have hbs:=hbel.size
     go_wp2_with (at_builtin;refine wpList_append_own _ rfl _ _ 40 rfl w1.heap.size 3 i0 (.int .i64 0) 1 8 Tryz.underlying40 hi hz0 hz1 hz2 rfl (by decide) _ _ _ rfl ((hr.alloc _).alloc _) ⟨wr.heap.size+1,0,none⟩ 3 3 [.int .i64 x.1,.int .i64 x.2.1,.int .i64 x.2.2] rfl rfl ?c2 (three_i64 _ _ _) ?c3 ?c4 ?c5 ?_)
     case c2 =>
      have:=cell_three_new (wr.alloc (.cells #[.int .i64 x.1,.int .i64 x.2.1,.int .i64 x.2.2] 109)) (.int .i64 x.1) (.int .i64 x.2.1) (.int .i64 x.2.2) 3
      simpa using this
     case c3=>unfold maxLen;omega
     case c4=>omega
     case c5=>simp;omega
     intro v3 w3 hown3 hgrow3 _
     have hb3:Below w1.heap.size w1 w3:=((hbel.alloc hbs _).alloc (by simp;omega) _).grown hgrow3 (by simp;omega) (fun j hj=>(hr.lt _ hj).1)
     have hr3:w3.ownsRow w1.heap.size 3 1 v3 (ms++rowNums (xs.take (i+1))).length ((ms++rowNums (xs.take (i+1))).map (Value.int .i64)):=by rw [hsi'.out];simpa using hown3
     clear hown3 hgrow3 hr hbel d0 d1 d2 hbs hsi'
     go_wp2
     go_roundw
     case rel=>exact ⟨i+1,by omega,by go_num,hr3,hb3⟩
     case measure=>simp [intOf];omega
    ·obtain rfl:i=len':=by omega
     rw [← hst'.out] at hr
     clear hst' hcase'
     go_wp2
     go_roundw
     case rel=>exact ⟨k+1,by omega,by go_num,hr,hbel⟩
     case measure=>simp [intOf];omega
  ·obtain rfl:k=3:=by omega
   rw [← hE.out] at hr
   have hpos:0<(progNums rows).length:=progNums_pos h3
   obtain ⟨g,c2,hu4⟩:=own_some hr hpos
   subst hu4
   have hI2:Ints .i64 wr (some ⟨g,0,none⟩) (progNums rows).length c2 (progNums rows):=Ints.of_owns hr
   have bw:Below w.heap.size w wr:=b1.trans (hbel.mono b1s)
   clear hr hE hcell
   go_wp2_with fail
   refine (implPackList_any _ _ _ (progNums rows) _ hI2 (by omega)).mono ?_
   rintro e w4 ⟨hk4,hb4⟩
   rcases hk4 with ⟨_,rfl⟩ | ⟨hn,_⟩
   ·clear hall hI2
    go_wp2
    go_ret2
    exact ⟨rfl,bw.trans (hb4.mono bw.size)⟩
   ·exact absurd hall hn


theorem com_back13 {xs:List I3} (hr:riseB xs=true) (hl:xs.length≤30):ComOk (strOfNums (packL (unT xs))):=by
 obtain ⟨ns,en,mn⟩:=nats_of (unT_rise hr)
 have hlen:=unT_len xs
 have ln:ns.length=(unT xs).length:=by rw [en];simp
 have L:=listed_pack mn (by omega)
 rw [← packL_nats,← en] at L
 refine ⟨ns,L,by omega,by omega,?_⟩
 have e:triples (ofNats ns)=xs:=by
  rw [show ofNats ns=unT xs from en.symm]
  have:∀ ys:List I3,triples (unT ys)=ys:=by
   intro ys
   induction ys with
   | nil=>rfl
   | cons y ys ih =>
    show (y.1,y.2.1,y.2.2)::triples (unT ys)=_
    rw [ih]
  exact this xs
 rw [e]
 exact hr
theorem comC_yes {t:ByteArray} {zs:List Nat} (hL:Listed t zs) (h:ComOk t):comC (triples (ofNats zs))=(t,0):=by
 obtain ⟨ys,gL,g3,g9,gr⟩:=h
 obtain rfl:=gL.only hL
 have hl:(ofNats ys).length=ys.length:=List.length_map ..
 have:=triples_len9 (ys.length / 3) 0 (ofNats ys) (by omega) (by omega)
 unfold comC
 rw [if_neg (by omega),if_pos ⟨gr,by omega⟩,com_text hL g3]
theorem comC_back {t:ByteArray} {xs:List I3} (h:comC xs=(t,0)):ComOk t:=by
 unfold comC at h
 split at h
 ·injection h with _ h;cases h
 ·split at h
  ·rename_i hb
   injection h with h _
   rw [← h]
   exact com_back13 hb.1 hb.2
  ·injection h with _ h;cases h

theorem implCommitText_is (a:Option Addr) (n cap:Nat) (xs:List I3) (w:World) (h:Instrs w a n cap xs) :
  Calls Tryz.prog 73 #[.slice a n cap] w fun e w'=>e=ResC (comC xs)∧Below w.heap.size w w':=by
 have hl:=h.1
 have hcm:n≤9223372036854775807:=by have:=h.2.1;have:=h.2.2.1;unfold maxLen at this;omega
 have kE:=entryBugsOK_is a n cap xs w h
 by_cases hlong:4096<n
 ·have HA:Hid (comC xs=(⟨#[]⟩,2)):=by unfold comC;rw [Hid,if_pos (by omega)]
  have h2:(4096:Int)<(n:Int):=by omega
  clear h kE
  go_enter Tryz.func73,Tryz.ntmps73
  go_wp2
  go_ret2
  exact ⟨by rw [HA.out];rfl,Below.refl _ _⟩
 have h2:¬ (4096:Int)<(n:Int):=by omega
 by_cases hr:riseB xs=true∧n≤30
 ·have HA:Hid (comC xs=(strOfNums (packL (unT xs)),0)):=by unfold comC;rw [Hid,if_neg (by omega),if_pos ⟨hr.1,by omega⟩]
  have hd:(decide (xs.length≤30) && riseB xs)=true:=by rw [hr.1,hl,decide_eq_true hr.2];rfl
  rw [hd] at kE
  have kN:=fun W (hb:Below w.heap.size w W)=>numbersOfBugs_is a n cap xs W (h.below hb) hr.2
  have hok:allOk (rowNums xs):=by rw [unT_row];exact unT_rise hr.1
  have hrl:(rowNums xs).length≤4096:=by rw [rowNums_length];omega
  rw [← unT_row] at HA
  clear h hd hr
  go_enter Tryz.func73,Tryz.ntmps73
  go_wp2_with fail
  refine kE.mono ?_
  rintro e w1 ⟨rfl,b1⟩
  go_wp2_with fail
  refine (kN _ b1).mono ?_
  rintro e w2 ⟨⟨v,rfl,ho⟩,b2⟩
  obtain ⟨a2,c2,rfl⟩:∃ a2 c2,v=.slice a2 (rowNums xs).length c2:=by
   rcases ho.2 with ⟨hv,h0⟩ | ⟨g,cc,cur,hv,_⟩
   ·exact ⟨none,0,by rw [hv,h0]⟩
   ·exact ⟨_,_,hv⟩
  have hI:=ints8 ho
  have kP:=implPackList_any a2 _ c2 (rowNums xs) w2 hI hrl
  generalize (rowNums xs).length=m2 at *
  clear hI ho kE kN hrl
  go_wp2_with fail
  refine kP.mono ?_
  rintro e w3 ⟨hh,b3⟩
  rcases hh with ⟨_,rfl⟩ | ⟨hno,_⟩
  ·clear kP
   generalize strOfNums (packL (rowNums xs))=t at *
   go_wp2
   go_ret2
   exact ⟨by rw [HA.out];rfl,(b1.trans (b2.mono b1.size)).trans (b3.mono (Nat.le_trans b1.size b2.size))⟩
  ·exact absurd hok hno
 ·have HA:Hid (comC xs=(⟨#[]⟩,1)):=by unfold comC;rw [Hid,if_neg (by omega),if_neg (fun g=>hr ⟨g.1,by omega⟩)]
  have hd:(decide (xs.length≤30) && riseB xs)=false:=by
   rw [hl]
   by_cases g:n≤30
   ·rw [decide_eq_true g,Bool.true_and]
    cases hx:riseB xs
    ·rfl
    ·exact absurd ⟨hx,g⟩ hr
   ·rw [decide_eq_false g,Bool.false_and]
  rw [hd] at kE
  clear h hd hr
  go_enter Tryz.func73,Tryz.ntmps73
  go_wp2_with fail
  refine kE.mono ?_
  rintro e w1 ⟨rfl,b1⟩
  go_wp2
  go_ret2
  exact ⟨by rw [HA.out];rfl,b1⟩


def varsFit (P:Program) (ns:List String):Bool:=ns.all fun n =>
 match P.globalNamed n with
 | some g=>match (P.globals[g]?).map (·.type) with
  | some t=>P.readableRec t && decide (t<P.types.size)
  | none=>false
 | none=>false

theorem var?_lt {P:Program} {W:World} {n:String} {g:Nat} {cs:Array Value} (hg:P.globalNamed n=some g) (hv:W.var? P n=some cs):g<W.heap.size:=by
 rcases Nat.lt_or_ge g W.heap.size with h | h
 ·exact h
 ·unfold World.var? at hv
  simp [hg,Array.getElem?_eq_none h] at hv

theorem vars_below {H:Type} {enc:TypeId × Value→H} {P:Program} {W W':World} (hl:laidOutB P=true) (bel:Below W.heap.size W W') :
  ∀ {ns:List String} {gs:List (DataW H)} {ps:List MemPlace},varsFit P ns=true→DataW.TrodVars enc P W (fun _=>true) ns gs ps→DataW.TrodVars enc P W' (fun b=>decide (b<W.heap.size)) ns gs ps
 | [],[],ps,_,h=>h
 | [],_::_,_,_,h=>by cases h
 | _::_,[],_,_,h=>by cases h
 | n::ns,d::ds,ps,hf,h=>by
  obtain ⟨g,t,cs,fuel,p,q,hg,ht,hv,hd,hr,e⟩:=h
  simp only [varsFit,List.all_cons,Bool.and_eq_true] at hf
  obtain ⟨hf1,hf2⟩:=hf
  rw [hg] at hf1
  simp only [ht,Bool.and_eq_true,decide_eq_true_eq] at hf1
  obtain ⟨fuel',hd'⟩:=Below.trod hl hf1.1 hf1.2 (v:=.agg cs) (⟨fuel,by simpa [Value.cells] using hd⟩:DataW.Trod enc P W 0 (fun _=>true) true t (.agg cs) d p) bel (DataW.trod_lt fuel _ _ _ hd)
  exact ⟨g,t,cs,fuel',p,q,hg,ht,var?_below bel hg (var?_lt hg hv) hv,by simpa [Value.cells] using hd',vars_below hl bel hf2 hr,e⟩

theorem vars_len {H:Type} {enc:TypeId × Value→H} {P:Program} {W:World} {spare:Nat→Bool}:∀ {ns:List String} {gs:List (DataW H)} {ps:List MemPlace},DataW.TrodVars enc P W spare ns gs ps→gs.length=ns.length
 | [],[],_,_=>rfl
 | [],_::_,_,h=>by cases h
 | _::_,[],_,h=>by cases h
 | _::_,_::_,_,h=>by
  obtain ⟨_,_,_,_,_,_,_,_,_,_,hr,_⟩:=h
  simp [vars_len hr]
end Go.Proofs.YtdopgkbegjfhjaaGreatDoor
