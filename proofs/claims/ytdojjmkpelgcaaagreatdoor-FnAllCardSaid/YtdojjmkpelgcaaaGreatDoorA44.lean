/-
  Joined: DrawQ, SmB, FalP, StxI, SmlP.
-/
import Derived.Test.YtdojjmkpelgcaaaGreatDoorA43

namespace Go.Proofs.YtdojjmkpelgcaaaGreatDoor
set_option maxRecDepth 100000
set_option maxHeartbeats 16000000
open Go.RowKit
set_option linter.unusedVariables false
set_option linter.unusedSimpArgs false

def capT (t:Nat):Nat:=if t=2 then 2 else 3
def GoodD (done:List (List I3)):Prop:=(∀ r ∈ done,codeOk r=true)∧∀ t r,done[t]?=some r→r.length≤capT t
theorem GoodD.nil:GoodD []:=⟨(fun r hr=>by cases hr),(fun t r h=>by simp at h)⟩
theorem GoodD.snoc {done:List (List I3)} {xs:List I3} (h:GoodD done) (h1:codeOk xs=true) (h2:xs.length≤capT done.length):GoodD (done++[xs]):=by
 refine ⟨fun r hr=>?_,fun t r hr=>?_⟩
 ·rcases List.mem_append.1 hr with h' | h'
  ·exact h.1 r h'
  ·simp at h';subst h';exact h1
 ·by_cases ht:t<done.length
  ·rw [List.getElem?_append_left ht] at hr
   exact h.2 t r hr
  ·rw [List.getElem?_append_right (by omega)] at hr
   have hl:=(List.getElem?_eq_some_iff.1 hr).1
   simp at hl
   have e:t=done.length:=by omega
   subst e
   simp at hr
   subst hr
   exact h2
def SmallP (rows:List (List I3)):Prop:=(codeM rows 0).length≤3∧(codeM rows 1).length≤3∧(codeM rows 2).length≤2
theorem GoodD.small {rows:List (List I3)} (h:GoodD rows) (hl:rows.length=3):SmallP rows:=by
 have hk:∀ k,k<3→(codeM rows k).length≤capT k:=fun k hk=>h.2 k _ (by unfold codeM;rw [List.getD,List.getElem?_eq_getElem (show k<rows.length by omega)];rfl)
 exact ⟨hk 0 (by decide),hk 1 (by decide),hk 2 (by decide)⟩
def ProgS (rows:List (List I3)):Prop:=progOk rows=true∧SmallP rows

theorem programQ_went (p:Nat) (a:Option Addr) (n cap:Nat) (w:World) (hS:Src w p (.slice a n cap) 0) (hC:Code w p a n cap) :
  Calls Tryz.prog 49 #[.pointer (some ⟨p,0,none⟩)] w fun e w'=>(∃ (v:Value) (rows:List (List I3)),ProgS rows∧e=.returned (.agg #[v])∧OwnProg w' w.heap.size v rows)∧Went p w w':=by
 obtain ⟨i0,hi,hz0,hz1,hz2⟩:=info_parts info_instr
 obtain ⟨j0,hj,hy0,hy1,hy2⟩:=info_parts info_instrs
 have hpl:=hS.lt
 have hpB:p<w.heap.size:=hS.lt
 go_enter Tryz.func49,Tryz.ntmps49
 go_wp2_with fail
 have hRr:(((w.alloc (.cells #[.slice none 0 0] 25)).alloc (.cells #[] 87)).alloc (.cells #[.slice (some ⟨w.heap.size+1,0,none⟩) 0 0] 25)).ownsRow w.heap.size 25 1 (.slice (some ⟨w.heap.size,0,none⟩) 1 1) 1 [.slice none 0 0]:=((box_n w (.slice none 0 0) 25 w.heap.size (Nat.le_refl _)).alloc _).alloc _
 have hV:(((w.alloc (.cells #[.slice none 0 0] 25)).alloc (.cells #[] 87)).alloc (.cells #[.slice (some ⟨w.heap.size+1,0,none⟩) 0 0] 25)).ownsRow w.heap.size 87 1 (.slice (some ⟨w.heap.size+1,0,none⟩) 0 0) 0 []:=by
  have h9:=(empty_n (w.alloc (.cells #[.slice none 0 0] 25)) 87 1 w.heap.size (by simp)).alloc (.cells #[.slice (some ⟨w.heap.size+1,0,none⟩) 0 0] 25)
  simp only [World.size_alloc] at h9
  exact h9
 have hX:(((w.alloc (.cells #[.slice none 0 0] 25)).alloc (.cells #[] 87)).alloc (.cells #[.slice (some ⟨w.heap.size+1,0,none⟩) 0 0] 25)).ownsRow w.heap.size 25 1 (.slice (some ⟨w.heap.size+1+1,0,none⟩) 1 1) 1 [.slice (some ⟨w.heap.size+1,0,none⟩) 0 0]:=by
  have h9:=box_n ((w.alloc (.cells #[.slice none 0 0] 25)).alloc (.cells #[] 87)) (.slice (some ⟨w.heap.size+1,0,none⟩) 0 0) 25 w.heap.size (by simp;omega)
  simp only [World.size_alloc] at h9
  exact h9
 have hWt:Went p w (((w.alloc (.cells #[.slice none 0 0] 25)).alloc (.cells #[] 87)).alloc (.cells #[.slice (some ⟨w.heap.size+1,0,none⟩) 0 0] 25)):=(((Went.refl p w).alloc _).alloc _).alloc _
 replace hC:=hC.below (((hWt.below (Nat.le_of_lt hpl))))
 replace hS:=((hS.alloc (.cells #[.slice none 0 0] 25)).alloc (.cells #[] 87)).alloc (.cells #[.slice (some ⟨w.heap.size+1,0,none⟩) 0 0] 25)
 replace hpl:p<(((w.alloc (.cells #[.slice none 0 0] 25)).alloc (.cells #[] 87)).alloc (.cells #[.slice (some ⟨w.heap.size+1,0,none⟩) 0 0] 25)).heap.size:=by simp;omega
 have hXw:w.heap.size<w.heap.size+1+1:=by omega
 generalize (((w.alloc (.cells #[.slice none 0 0] 25)).alloc (.cells #[] 87)).alloc (.cells #[.slice (some ⟨w.heap.size+1,0,none⟩) 0 0] 25))=w3 at hRr hV hX hWt hC hS hpl
 generalize w.heap.size+1+1=X at hX hXw
 generalize some (Addr.mk (w.heap.size+1) 0 none)=aV0 at hV hX
 go_loopw [4] (fun si wr=>∃ (k T:Nat) (done:List (List I3)) (vs:List Value) (aV:Option Addr) (capV:Nat),k≤3∧si=.int .i64 k∧T≤k*100∧done.length=k∧Hid (GoodD done) ∧
   RowsOwn wr w.heap.size k vs done∧wr.ownsRow w.heap.size 87 1 (.slice aV k capV) k vs∧wr.ownsRow w.heap.size 25 1 (.slice (some ⟨X,0,none⟩) 1 1) 1 [.slice aV k capV]∧wr.ownsRow w.heap.size 25 1 (.slice (some ⟨w.heap.size,0,none⟩) 1 1) 1 [.slice none 0 0]∧Src wr p (.slice a n cap) T∧Code wr p a n cap∧p<wr.heap.size∧Went p w wr) (fun si _=>3 - (intOf si).toNat)
 case atStart=>exact ⟨0,0,[],[],aV0,0,by omega,rfl,by omega,rfl,GoodD.nil,⟨fun t ht=>by omega,fun t _ ht=>by omega⟩,hV,hX,hRr,hS,hC,hpl,hWt⟩
 case round =>
  clear hRr hV hX hWt hC hS hpl
  obtain ⟨k,T,done,vs,aV,capV,hk,rfl,hT,hdl,hok,hR,hV,hX,hRr,hS,hC,hpl,hWt⟩:=hrel
  by_cases hlt:k<3
  ·have hlt2:(k:Int)<3:=by omega
   have hk0:(0:Int)≤(k:Int):=by omega
   go_wp2_with fail
   refine (next_any p T a n cap 4 _ hS hC (by omega) (by omega)).mono ?_
   rintro e w4 ⟨⟨v1,hv1,rfl⟩,hSn,hWn⟩
   replace hS:=hSn
   replace hR:=hR.went hWn hpB
   replace hV:=owns_wn hV hWn hpB
   replace hX:=owns_wn hX hWn hpB
   replace hRr:=owns_wn hRr hWn hpB
   replace hC:=hC.went hWn (Nat.le_of_lt hpl)
   replace hpl:=Nat.lt_of_lt_of_le hpl hWn.size
   replace hWt:=hWt.trans hWn
   clear hSn hWn
   by_cases hk2:k=2
   ·have hk2':((k:Int) == 2)=true:=by subst hk2;rfl
    go_wp2_with fail
    refine (next_any p (T+3) a n cap 3 _ hS hC (by omega) (by omega)).mono ?_
    rintro e w5 ⟨⟨v2,hv2,rfl⟩,hSn,hWn⟩
    replace hS:=hSn
    replace hR:=hR.went hWn hpB
    replace hV:=owns_wn hV hWn hpB
    replace hX:=owns_wn hX hWn hpB
    replace hRr:=owns_wn hRr hWn hpB
    replace hC:=hC.went hWn (Nat.le_of_lt hpl)
    replace hpl:=Nat.lt_of_lt_of_le hpl hWn.size
    replace hWt:=hWt.trans hWn
    clear hSn hWn
    have hnn:v2≤3:=by omega
    have hn2:v2≤2:=by omega
    obtain ⟨nn,hnnd⟩:∃ nn:Nat,nn=v2:=⟨_,rfl⟩
    rw [← hnnd] at hnn hn2
    rw [← hnnd]
    have HK2:Hid (k=2):=hk2
    clear hnnd hv2 hv1 hk2 hk2'
    replace hS:=hS.mono (show T+3+3≤T+6 by omega)
    have hCo:=empty_n w5 158 3 w5.heap.size (Nat.le_refl _)
    have hWo:=(Went.refl p w5).alloc (.cells #[] 158)
    have hSo:=hS.alloc (.cells #[] 158)
    have hpo:p<(w5.alloc (.cells #[] 158)).heap.size:=by simp;omega
    have hCdo:=hC.below ((Below.refl p w5).alloc (Nat.le_of_lt hpl) (.cells #[] 158))
    go_wp2
    go_loopw [6,7] (fun sv si wi=>∃ (i:Nat) (xs:List I3),i≤nn∧si=.int .i64 i∧xs.length=i∧Hid (okTo nn xs)∧wi.ownsRow w5.heap.size 158 3 sv i (flat xs)∧Src wi p (.slice a n cap) (T+6+i*9)∧Code wi p a n cap∧p<wi.heap.size∧Went p w5 wi) (fun _ si _=>nn - (intOf si).toNat)
    case atStart=>exact ⟨0,[],by omega,rfl,rfl,(fun i hi=>by simp at hi),hCo,hSo,hCdo,hpo,hWo⟩
    case round =>
     clear hCo hWo hSo hpo hCdo
     obtain ⟨i,xs,hin,rfl,hxl,hxo,hr,hSi,hCi,hpi,hWi⟩:=hrel
     by_cases him:i<nn
     ·have him2:(i:Int)<(nn:Int):=by omega
      go_wp2_with fail
      refine (instr_any p (T+6+i*9) a n cap i nn _ hSi hCi (by omega) him hnn).mono ?_
      rintro e w6 ⟨⟨x,⟨hx1,hx2⟩,rfl⟩,hS6,hW6⟩
      have hxo2:Hid (okTo nn (xs++[x])):=okTo_snoc hxo.out hx1 (by rw [hxl];exact hx2)
      replace hr:=owns_wn hr hW6 hpl
      replace hCi:=hCi.went hW6 (Nat.le_of_lt hpi)
      replace hpi:=Nat.lt_of_lt_of_le hpi hW6.size
      replace hWi:=hWi.trans hW6
      have hbs6:=hWi.size
      clear hSi hW6 hx1 hx2 hxo
      have HXL:Hid (xs.length=i):=hxl
      clear hxl
      obtain ⟨x0,x1,x2⟩:=x
      unfold I3.val
      go_wp2_with (at_builtin;refine wpList_append_own _ rfl _ _ 87 rfl w5.heap.size 158 i0 (.agg #[.int .i64 0,.int .i64 0,.int .i64 0]) 3 24 Tryz.underlying87 hi hz0 hz1 hz2 rfl (by decide) _ _ _ rfl (hr.alloc _) ⟨w6.heap.size,0,none⟩ 1 1 [.int .i64 x0,.int .i64 x1,.int .i64 x2] rfl rfl (cell_three_new _ _ _ _ _) (three_i64 _ _ _) ?c3 ?c4 ?c5 ?_)
      case c3=>unfold maxLen;omega
      case c4=>omega
      case c5=>simp;omega
      intro v7 w7 hown7 hgrow7 _
      have hr7:w7.ownsRow w5.heap.size 158 3 v7 (i+1) (flat (xs++[(x0,x1,x2)])):=by rw [flat_snoc];exact hown7
      have hW7:Went p w5 w7:=(hWi.alloc (.cells #[.int .i64 x0,.int .i64 x1,.int .i64 x2] 158)).grown hgrow7 (fun j hj=>(hr.lt _ hj).1)
      have hS7:=((hS6.alloc (.cells #[.int .i64 x0,.int .i64 x1,.int .i64 x2] 158)).grown hgrow7 (fun k e=>by have:=(hr.lt k e).1;omega)).mono (show T+6+i*9+9≤T+6+(i+1)*9 by omega)
      have hC7:=hCi.below ((((Below.refl p w6).alloc (Nat.le_of_lt hpi) (.cells #[.int .i64 x0,.int .i64 x1,.int .i64 x2] 158))).grown hgrow7 (by simp;omega) (fun j hj=>by have:=(hr.lt j hj).1;omega))
      have hp7:p<w7.heap.size:=by have:=hgrow7.size;simp at this;omega
      clear hown7 hgrow7 hr hWi hS6 hCi hpi
      go_wp2
      go_roundw
      case rel=>exact ⟨i+1,xs++[(x0,x1,x2)],by omega,by go_num,by simp [HXL.out],hxo2,hr7,hS7,hC7,hp7,hW7⟩
      case measure=>simp [intOf];omega
     ·obtain rfl:i=nn:=by omega
      have hcok:codeOk xs=true:=codeOk_of (by omega) (by rw [hxl];exact hxo.out)
      have hok2:Hid (GoodD (done++[xs])):=GoodD.snoc hok.out hcok (by rw [hdl,HK2.out,hxl];exact hn2)
      obtain ⟨aC,capC,hv⟩:∃ aC capC,u6=.slice aC i capC:=by
       rcases hr.2 with ⟨hv,h0⟩ | ⟨g,cp,cur,hv,_⟩
       ·exact ⟨none,0,by rw [h0];exact hv⟩
       ·exact ⟨_,cp,hv⟩
      subst hv
      have hlow:∀ t x,t<k→(vs.getD t undef).ownBlock=some x→x<w5.heap.size:=fun t x ht hx=>((hR.1 t ht).lt x hx).2
      have hw5B:w.heap.size≤w5.heap.size:=hWt.size
      have hR':=hR.went hWi hpB
      have hV':=owns_wn hV hWi hpB
      have hX':=owns_wn hX hWi hpB
      have hRr':=owns_wn hRr hWi hpB
      have hWt':=hWt.trans hWi
      have hcX:wr.cell? ⟨X,0,none⟩=some (.slice aV k capV):=by simpa using hX'.cellAt 0 (by omega)
      have hbs8:=hWt'.size
      clear hR hV hX hRr hWt hWi hS hC hpl hok hxo hcok
      go_wp2_with (at_builtin;refine wpList_append_own _ rfl _ _ 23 rfl w.heap.size 87 j0 (.slice none 0 0) 1 24 Tryz.underlying23 hj hy0 hy1 hy2 rfl (by decide) _ _ _ rfl (hV'.alloc _) ⟨wr.heap.size,0,none⟩ 1 1 [.slice aC i capC] rfl rfl (one_cell_v _ _ _) (one_slv _ _ _) ?c3 ?c4 ?c5 ?_)
      case c3=>unfold maxLen;omega
      case c4=>omega
      case c5=>simp;omega
      intro v8 w8 hown8 hgrow8 _
      have hA:=hr.alloc (.cells #[.slice aC i capC] 87)
      have hV2:=hV'.alloc (.cells #[.slice aC i capC] 87)
      have hC4:=hA.kept hgrow8 (owns_ne hA hV2 (by decide))
      have hR4:RowsOwn w8 w.heap.size k vs done:=⟨fun t ht=>((hR'.1 t ht).alloc _).kept hgrow8 (owns_ne ((hR'.1 t ht).alloc _) hV2 (by decide)),hR'.2⟩
      have hX4:=(hX'.alloc (.cells #[.slice aC i capC] 87)).kept hgrow8 (owns_ne (hX'.alloc _) hV2 (by decide))
      have hRr4:=(hRr'.alloc (.cells #[.slice aC i capC] 87)).kept hgrow8 (owns_ne (hRr'.alloc _) hV2 (by decide))
      have hW4:Went p w w8:=(hWt'.alloc (.cells #[.slice aC i capC] 87)).grown hgrow8 (fun j hj=>(hV'.lt _ hj).1)
      have hS4:=(hSi.alloc (.cells #[.slice aC i capC] 87)).grown hgrow8 (fun j e=>by have:=(hV'.lt j e).1;omega)
      have hCd4:=hCi.below (((Below.refl p wr).alloc (Nat.le_of_lt hpi) (.cells #[.slice aC i capC] 87)).grown hgrow8 (by simp;omega) (fun j hj=>by have:=(hV'.lt j hj).1;omega))
      have hp4:p<w8.heap.size:=by have:=hgrow8.size;simp at this;omega
      clear hA hV2 hV' hR' hX' hRr' hWt' hgrow8 hr hcX hSi hCi hpi
      obtain ⟨aW,capW,hv4⟩:∃ aW capW,v8=.slice aW (k+1) capW:=by
       rcases hown8.2 with ⟨hv,h0⟩ | ⟨g,cp,cur,hv,_⟩
       ·omega
       ·exact ⟨_,cp,hv⟩
      subst hv4
      have hlv:vs.length=k:=by have:=hown8.1;simp at this;omega
      have hpush:=hR4.push' (s0:=w5.heap.size) hlv hdl hlow (r:=xs) (sv:=.slice aC i capC) (by rw [hxl];exact hC4) hw5B
      have fX:=hX4.frozenAt 0
      have cX:w8.cell? ⟨X,0,none⟩=some (.slice aV k capV):=by simpa using hX4.cellAt 0 (by omega)
      have hX5:=(hX4.stored 0 (.slice aW (k+1) capW)).1
      have hV5:(w8.setCell ⟨X,0,none⟩ (.slice aW (k+1) capW)).ownsRow w.heap.size 87 1 (.slice aW (k+1) capW) (k+1) (vs++[.slice aC i capC]):=ownsRow_setCell_other hown8 (ne_block hown8 hX4 (by decide)) _
      have hR5:RowsOwn (w8.setCell ⟨X,0,none⟩ (.slice aW (k+1) capW)) w.heap.size (k+1) (vs++[.slice aC i capC]) (done++[xs]):=⟨fun t ht=>ownsRow_setCell_other (hpush.1 t ht) (ne_block (hpush.1 t ht) hX4 (by decide)) _,hpush.2⟩
      have hRr5:(w8.setCell ⟨X,0,none⟩ (.slice aW (k+1) capW)).ownsRow w.heap.size 25 1 (.slice (some ⟨w.heap.size,0,none⟩) 1 1) 1 [.slice none 0 0]:=ownsRow_setCell_other hRr4 (by simp [Value.ownBlock];omega) _
      have g5:=grownBy_set w8 X 0 (.slice aW (k+1) capW)
      have hW5:=hW4.grown g5 (fun j e=>by cases e;omega)
      have hS5:=hS4.grown g5 (fun j e=>by cases e;omega)
      have hC5:=hCd4.below (grown_below g5 (show p≤X by omega) (Nat.le_of_lt hp4))
      have hp5:p<(w8.setCell ⟨X,0,none⟩ (.slice aW (k+1) capW)).heap.size:=Nat.lt_of_lt_of_le hp4 g5.size
      simp only [List.set_cons_zero] at hX5
      clear hpush hX4 hown8 hR4 hRr4 hC4 hlow g5 hW4 hS4 hCd4 hp4
      have hdl2:(done++[xs]).length=k+1:=by simp [hdl]
      generalize done++[xs]=done2 at hok2 hR5 hdl2
      generalize vs++[.slice aC i capC]=vs2 at hV5 hR5
      go_wp2
      go_roundw
      case rel=>exact ⟨k+1,T+6+i*9,done2,vs2,aW,capW,by omega,(by first | go_num | (rw [HK2.out];rfl)),by omega,hdl2,hok2,hR5,hV5,hX5,hRr5,hS5,hC5,hp5,hW5⟩
      case measure=>have h9:=HK2.out;simp [intOf];omega
   ·have hk2':((k:Int) == 2)=false:=beq_eq_false_iff_ne.2 (by omega)
    have HK3:Hid (k≠2):=hk2
    have hnn:v1≤3:=by omega
    obtain ⟨nn,hnnd⟩:∃ nn:Nat,nn=v1:=⟨_,rfl⟩
    rw [← hnnd] at hnn
    rw [← hnnd]
    clear hnnd hv1
    replace hS:=hS.mono (show T+3≤T+6 by omega)
    obtain ⟨w5,hw5⟩:∃ w5,w5=w4:=⟨_,rfl⟩
    subst hw5
    have hCo:=empty_n w5 158 3 w5.heap.size (Nat.le_refl _)
    have hWo:=(Went.refl p w5).alloc (.cells #[] 158)
    have hSo:=hS.alloc (.cells #[] 158)
    have hpo:p<(w5.alloc (.cells #[] 158)).heap.size:=by simp;omega
    have hCdo:=hC.below ((Below.refl p w5).alloc (Nat.le_of_lt hpl) (.cells #[] 158))
    go_wp2
    go_loopw [6,7] (fun sv si wi=>∃ (i:Nat) (xs:List I3),i≤nn∧si=.int .i64 i∧xs.length=i∧Hid (okTo nn xs)∧wi.ownsRow w5.heap.size 158 3 sv i (flat xs)∧Src wi p (.slice a n cap) (T+6+i*9)∧Code wi p a n cap∧p<wi.heap.size∧Went p w5 wi) (fun _ si _=>nn - (intOf si).toNat)
    case atStart=>exact ⟨0,[],by omega,rfl,rfl,(fun i hi=>by simp at hi),hCo,hSo,hCdo,hpo,hWo⟩
    case round =>
     clear hCo hWo hSo hpo hCdo
     obtain ⟨i,xs,hin,rfl,hxl,hxo,hr,hSi,hCi,hpi,hWi⟩:=hrel
     by_cases him:i<nn
     ·have him2:(i:Int)<(nn:Int):=by omega
      go_wp2_with fail
      refine (instr_any p (T+6+i*9) a n cap i nn _ hSi hCi (by omega) him hnn).mono ?_
      rintro e w6 ⟨⟨x,⟨hx1,hx2⟩,rfl⟩,hS6,hW6⟩
      have hxo2:Hid (okTo nn (xs++[x])):=okTo_snoc hxo.out hx1 (by rw [hxl];exact hx2)
      replace hr:=owns_wn hr hW6 hpl
      replace hCi:=hCi.went hW6 (Nat.le_of_lt hpi)
      replace hpi:=Nat.lt_of_lt_of_le hpi hW6.size
      replace hWi:=hWi.trans hW6
      have hbs6:=hWi.size
      clear hSi hW6 hx1 hx2 hxo
      have HXL:Hid (xs.length=i):=hxl
      clear hxl
      obtain ⟨x0,x1,x2⟩:=x
      unfold I3.val
      go_wp2_with (at_builtin;refine wpList_append_own _ rfl _ _ 87 rfl w5.heap.size 158 i0 (.agg #[.int .i64 0,.int .i64 0,.int .i64 0]) 3 24 Tryz.underlying87 hi hz0 hz1 hz2 rfl (by decide) _ _ _ rfl (hr.alloc _) ⟨w6.heap.size,0,none⟩ 1 1 [.int .i64 x0,.int .i64 x1,.int .i64 x2] rfl rfl (cell_three_new _ _ _ _ _) (three_i64 _ _ _) ?c3 ?c4 ?c5 ?_)
      case c3=>unfold maxLen;omega
      case c4=>omega
      case c5=>simp;omega
      intro v7 w7 hown7 hgrow7 _
      have hr7:w7.ownsRow w5.heap.size 158 3 v7 (i+1) (flat (xs++[(x0,x1,x2)])):=by rw [flat_snoc];exact hown7
      have hW7:Went p w5 w7:=(hWi.alloc (.cells #[.int .i64 x0,.int .i64 x1,.int .i64 x2] 158)).grown hgrow7 (fun j hj=>(hr.lt _ hj).1)
      have hS7:=((hS6.alloc (.cells #[.int .i64 x0,.int .i64 x1,.int .i64 x2] 158)).grown hgrow7 (fun k e=>by have:=(hr.lt k e).1;omega)).mono (show T+6+i*9+9≤T+6+(i+1)*9 by omega)
      have hC7:=hCi.below ((((Below.refl p w6).alloc (Nat.le_of_lt hpi) (.cells #[.int .i64 x0,.int .i64 x1,.int .i64 x2] 158))).grown hgrow7 (by simp;omega) (fun j hj=>by have:=(hr.lt j hj).1;omega))
      have hp7:p<w7.heap.size:=by have:=hgrow7.size;simp at this;omega
      clear hown7 hgrow7 hr hWi hS6 hCi hpi
      go_wp2
      go_roundw
      case rel=>exact ⟨i+1,xs++[(x0,x1,x2)],by omega,by go_num,by simp [HXL.out],hxo2,hr7,hS7,hC7,hp7,hW7⟩
      case measure=>simp [intOf];omega
     ·obtain rfl:i=nn:=by omega
      have hcok:codeOk xs=true:=codeOk_of (by omega) (by rw [hxl];exact hxo.out)
      have hok2:Hid (GoodD (done++[xs])):=GoodD.snoc hok.out hcok (by rw [hdl,hxl];unfold capT;rw [if_neg HK3.out];exact hnn)
      obtain ⟨aC,capC,hv⟩:∃ aC capC,u6=.slice aC i capC:=by
       rcases hr.2 with ⟨hv,h0⟩ | ⟨g,cp,cur,hv,_⟩
       ·exact ⟨none,0,by rw [h0];exact hv⟩
       ·exact ⟨_,cp,hv⟩
      subst hv
      have hlow:∀ t x,t<k→(vs.getD t undef).ownBlock=some x→x<w5.heap.size:=fun t x ht hx=>((hR.1 t ht).lt x hx).2
      have hw5B:w.heap.size≤w5.heap.size:=hWt.size
      have hR':=hR.went hWi hpB
      have hV':=owns_wn hV hWi hpB
      have hX':=owns_wn hX hWi hpB
      have hRr':=owns_wn hRr hWi hpB
      have hWt':=hWt.trans hWi
      have hcX:wr.cell? ⟨X,0,none⟩=some (.slice aV k capV):=by simpa using hX'.cellAt 0 (by omega)
      have hbs8:=hWt'.size
      clear hR hV hX hRr hWt hWi hS hC hpl hok hxo hcok
      go_wp2_with (at_builtin;refine wpList_append_own _ rfl _ _ 23 rfl w.heap.size 87 j0 (.slice none 0 0) 1 24 Tryz.underlying23 hj hy0 hy1 hy2 rfl (by decide) _ _ _ rfl (hV'.alloc _) ⟨wr.heap.size,0,none⟩ 1 1 [.slice aC i capC] rfl rfl (one_cell_v _ _ _) (one_slv _ _ _) ?c3 ?c4 ?c5 ?_)
      case c3=>unfold maxLen;omega
      case c4=>omega
      case c5=>simp;omega
      intro v8 w8 hown8 hgrow8 _
      have hA:=hr.alloc (.cells #[.slice aC i capC] 87)
      have hV2:=hV'.alloc (.cells #[.slice aC i capC] 87)
      have hC4:=hA.kept hgrow8 (owns_ne hA hV2 (by decide))
      have hR4:RowsOwn w8 w.heap.size k vs done:=⟨fun t ht=>((hR'.1 t ht).alloc _).kept hgrow8 (owns_ne ((hR'.1 t ht).alloc _) hV2 (by decide)),hR'.2⟩
      have hX4:=(hX'.alloc (.cells #[.slice aC i capC] 87)).kept hgrow8 (owns_ne (hX'.alloc _) hV2 (by decide))
      have hRr4:=(hRr'.alloc (.cells #[.slice aC i capC] 87)).kept hgrow8 (owns_ne (hRr'.alloc _) hV2 (by decide))
      have hW4:Went p w w8:=(hWt'.alloc (.cells #[.slice aC i capC] 87)).grown hgrow8 (fun j hj=>(hV'.lt _ hj).1)
      have hS4:=(hSi.alloc (.cells #[.slice aC i capC] 87)).grown hgrow8 (fun j e=>by have:=(hV'.lt j e).1;omega)
      have hCd4:=hCi.below (((Below.refl p wr).alloc (Nat.le_of_lt hpi) (.cells #[.slice aC i capC] 87)).grown hgrow8 (by simp;omega) (fun j hj=>by have:=(hV'.lt j hj).1;omega))
      have hp4:p<w8.heap.size:=by have:=hgrow8.size;simp at this;omega
      clear hA hV2 hV' hR' hX' hRr' hWt' hgrow8 hr hcX hSi hCi hpi
      obtain ⟨aW,capW,hv4⟩:∃ aW capW,v8=.slice aW (k+1) capW:=by
       rcases hown8.2 with ⟨hv,h0⟩ | ⟨g,cp,cur,hv,_⟩
       ·omega
       ·exact ⟨_,cp,hv⟩
      subst hv4
      have hlv:vs.length=k:=by have:=hown8.1;simp at this;omega
      have hpush:=hR4.push' (s0:=w5.heap.size) hlv hdl hlow (r:=xs) (sv:=.slice aC i capC) (by rw [hxl];exact hC4) hw5B
      have fX:=hX4.frozenAt 0
      have cX:w8.cell? ⟨X,0,none⟩=some (.slice aV k capV):=by simpa using hX4.cellAt 0 (by omega)
      have hX5:=(hX4.stored 0 (.slice aW (k+1) capW)).1
      have hV5:(w8.setCell ⟨X,0,none⟩ (.slice aW (k+1) capW)).ownsRow w.heap.size 87 1 (.slice aW (k+1) capW) (k+1) (vs++[.slice aC i capC]):=ownsRow_setCell_other hown8 (ne_block hown8 hX4 (by decide)) _
      have hR5:RowsOwn (w8.setCell ⟨X,0,none⟩ (.slice aW (k+1) capW)) w.heap.size (k+1) (vs++[.slice aC i capC]) (done++[xs]):=⟨fun t ht=>ownsRow_setCell_other (hpush.1 t ht) (ne_block (hpush.1 t ht) hX4 (by decide)) _,hpush.2⟩
      have hRr5:(w8.setCell ⟨X,0,none⟩ (.slice aW (k+1) capW)).ownsRow w.heap.size 25 1 (.slice (some ⟨w.heap.size,0,none⟩) 1 1) 1 [.slice none 0 0]:=ownsRow_setCell_other hRr4 (by simp [Value.ownBlock];omega) _
      have g5:=grownBy_set w8 X 0 (.slice aW (k+1) capW)
      have hW5:=hW4.grown g5 (fun j e=>by cases e;omega)
      have hS5:=hS4.grown g5 (fun j e=>by cases e;omega)
      have hC5:=hCd4.below (grown_below g5 (show p≤X by omega) (Nat.le_of_lt hp4))
      have hp5:p<(w8.setCell ⟨X,0,none⟩ (.slice aW (k+1) capW)).heap.size:=Nat.lt_of_lt_of_le hp4 g5.size
      simp only [List.set_cons_zero] at hX5
      clear hpush hX4 hown8 hR4 hRr4 hC4 hlow g5 hW4 hS4 hCd4 hp4
      have hdl2:(done++[xs]).length=k+1:=by simp [hdl]
      generalize done++[xs]=done2 at hok2 hR5 hdl2
      generalize vs++[.slice aC i capC]=vs2 at hV5 hR5
      go_wp2
      go_roundw
      case rel=>exact ⟨k+1,T+6+i*9,done2,vs2,aW,capW,by omega,by go_num,by omega,hdl2,hok2,hR5,hV5,hX5,hRr5,hS5,hC5,hp5,hW5⟩
      case measure=>simp [intOf];omega
  ·obtain rfl:k=3:=by omega
   have hp3:ProgS done:=⟨progOk_of hdl hok.out.1,GoodD.small hok.out hdl⟩
   have HP:Hid (ProgS done):=hp3
   have hcX:wr.cell? ⟨X,0,none⟩=some (.slice aV 3 capV):=by simpa using hX.cellAt 0 (by omega)
   have kR:wr.cell? ⟨w.heap.size,0,none⟩=some (.slice none 0 0):=by simpa using hRr.cellAt 0 (by omega)
   have fR:=hRr.frozenAt 0
   have hOP:OwnProg (wr.setCell ⟨w.heap.size,0,none⟩ (.slice aV 3 capV)) w.heap.size (.slice aV 3 capV) done:=⟨vs,by rw [hdl];exact ownsRow_setCell_other hV (ne_block hV hRr (by decide)) _,by have:=hV.1;omega,fun t ht=>ownsRow_setCell_other (hR.1 t (by omega)) (ne_block (hR.1 t (by omega)) hRr (by decide)) _,fun t t' ht ht'=>hR.2 t t' (by omega) (by omega)⟩
   have g9:=grownBy_set wr w.heap.size 0 (.slice aV 3 capV)
   have hb9:Went p w (wr.setCell ⟨w.heap.size,0,none⟩ (.slice aV 3 capV)):=hWt.grown g9 (fun k e=>by cases e;exact Nat.le_refl _)
   have k3:(wr.setCell ⟨w.heap.size,0,none⟩ (.slice aV 3 capV)).cell? ⟨w.heap.size,0,none⟩=some (.slice aV 3 capV):=World.cell?_setCell_same' _ _ _ (by rw [kR];rfl)
   clear hRr hR hV hX hS hC hWt g9 hp3 hok
   go_wp2
   clear kR fR hcX
   generalize wr.setCell ⟨w.heap.size,0,none⟩ (.slice aV 3 capV)=w9 at hb9 k3 hOP
   refine bodyPost_ret (by simp [results,Tryz.results49,go_sem,k3];try rfl) rfl ?_
   exact ⟨⟨_,done,HP.out,rfl,hOP⟩,hb9⟩


theorem sameBugs_same (a0 a1:Option Addr) (n c0 c1:Nat) (xs:List I3) (w:World) (h0:Instrs w a0 n c0 xs) (h1:Instrs w a1 n c1 xs) (hn:n≤1000000) :
  Calls Tryz.prog 34 #[.slice a0 n c0,.slice a1 n c1] w fun e w'=>e=.returned (.bool true)∧Below w.heap.size w w':=by
 have hl:=h0.1
 go_enter Tryz.func34,Tryz.ntmps34
 go_wp2_with fail
 go_loopw [5] (fun si wr=>∃ k:Nat,k≤n∧si=.int .i64 k∧Below w.heap.size w wr) (fun si _=>n - (intOf si).toNat)
 case atStart=>exact ⟨0,by omega,rfl,Below.refl _ _⟩
 case round =>
  obtain ⟨k,hk,rfl,bw⟩:=hrel
  by_cases hlt:k<n
  ·obtain ⟨_,_,_,_,hcase⟩:=h0.below bw
   rcases hcase with e0 | ⟨b,off,rfl,hb,hc⟩
   ·omega
   obtain ⟨d0,d1,d2⟩:=hc k hlt
   clear hc hb
   obtain ⟨_,_,_,_,hcase⟩:=h1.below bw
   rcases hcase with e0 | ⟨b',off',rfl,hb,hc⟩
   ·omega
   obtain ⟨f0,f1,f2⟩:=hc k hlt
   clear hc hb
   generalize xs.getD k (0,0,0)=x at d0 d1 d2 f0 f1 f2
   obtain ⟨x0,x1,x2⟩:=x
   simp only at d0 d1 d2 f0 f1 f2
   have hlt':(k:Int)<(n:Int):=by omega
   have hk0:(0:Int)≤(k:Int):=by omega
   have q0:(x0 == x0)=true:=by simp
   have q1:(x1 == x1)=true:=by simp
   have q2:(x2 == x2)=true:=by simp
   go_wp2_with fail
   go_quiet (fail)
   have bwd:=below_drewN bw nq
   generalize wr.drewN nq=U at *
   clear d0 d1 d2 f0 f1 f2 bw q0 q1 q2
   go_wp2
   go_roundw
   case rel=>exact ⟨k+1,by omega,by go_num,bwd⟩
   case measure=>simp [intOf];omega
  ·obtain rfl:k=n:=by omega
   go_wp2
   go_ret
   exact ⟨rfl,bw⟩

def hasB:List I3→I3→Bool
 | [],_=>false
 | y::l,x=>decide (y=x) || hasB l x
theorem hasB_iff {x:I3}:∀ {l:List I3},hasB l x=true↔x ∈ l
 | []=>by simp [hasB]
 | y::l=>by
  have h:=hasB_iff (x:=x) (l:=l)
  show (decide (y=x) || hasB l x)=true↔_
  rw [Bool.or_eq_true,h,List.mem_cons,decide_eq_true_iff]
  exact or_congr ⟨Eq.symm,Eq.symm⟩ Iff.rfl
theorem hasB_step {xs:List I3} {k:Nat} (hk:k<xs.length) (y:I3):hasB (xs.drop k) y=(decide (xs.getD k (0,0,0)=y) || hasB (xs.drop (k+1)) y):=by
 rw [List.drop_eq_getElem_cons hk]
 simp [hasB,List.getD,List.getElem?_eq_getElem hk]

theorem hasBug_is (a:Option Addr) (n cap:Nat) (xs:List I3) (y:I3) (w:World) (h:Instrs w a n cap xs) (hn:n≤1000000) :
  Calls Tryz.prog 33 #[.slice a n cap,y.val] w fun e w'=>e=.returned (.bool (hasB xs y))∧Below w.heap.size w w':=by
 have hl:=h.1
 obtain ⟨r,hr⟩:∃ r,r=hasB xs y:=⟨_,rfl⟩
 rw [← hr]
 have HR:Hid (r=hasB (xs.drop 0) y):=by rw [Hid];simpa using hr
 clear hr
 obtain ⟨y0,y1,y2⟩:=y
 unfold I3.val
 simp only
 have bw0:Below w.heap.size w (w.alloc (.cells #[.int .i64 y0,.int .i64 y1,.int .i64 y2] 64)):=by go_grown
 have c0:(w.alloc (.cells #[.int .i64 y0,.int .i64 y1,.int .i64 y2] 64)).cell? ⟨w.heap.size,0,none⟩=some (.int .i64 y0):=by simp [go_sem]
 have c1:(w.alloc (.cells #[.int .i64 y0,.int .i64 y1,.int .i64 y2] 64)).cell? ⟨w.heap.size,1,none⟩=some (.int .i64 y1):=by simp [go_sem]
 have c2:(w.alloc (.cells #[.int .i64 y0,.int .i64 y1,.int .i64 y2] 64)).cell? ⟨w.heap.size,2,none⟩=some (.int .i64 y2):=by simp [go_sem]
 go_enter Tryz.func33,Tryz.ntmps33
 go_wp2_with fail
 generalize w.alloc (.cells #[.int .i64 y0,.int .i64 y1,.int .i64 y2] 64)=W0 at *
 go_loopw [5] (fun si wr=>∃ k:Nat,k≤n∧si=.int .i64 k∧Hid (r=hasB (xs.drop k) (y0,y1,y2))∧Below w.heap.size w wr∧wr.cell? ⟨w.heap.size,0,none⟩=some (.int .i64 y0)∧wr.cell? ⟨w.heap.size,1,none⟩=some (.int .i64 y1)∧wr.cell? ⟨w.heap.size,2,none⟩=some (.int .i64 y2)) (fun si _=>n - (intOf si).toNat)
 case atStart=>exact ⟨0,by omega,rfl,HR,bw0,c0,c1,c2⟩
 case round =>
  clear HR bw0 c0 c1 c2
  obtain ⟨k,hk,rfl,HR,bw,c0,c1,c2⟩:=hrel
  by_cases hlt:k<n
  ·obtain ⟨_,_,_,_,hcase⟩:=h.below bw
   rcases hcase with e0 | ⟨b,off,rfl,hb,hc⟩
   ·omega
   obtain ⟨d0,d1,d2⟩:=hc k hlt
   clear hc hb
   have hst:=hasB_step (xs:=xs) (k:=k) (by omega) (y0,y1,y2)
   generalize xs.getD k (0,0,0)=x at d0 d1 d2 hst
   have HS:Hid (hasB (xs.drop k) (y0,y1,y2)=(decide (x=(y0,y1,y2)) || hasB (xs.drop (k+1)) (y0,y1,y2))):=hst
   clear hst
   have hlt':(k:Int)<(n:Int):=by omega
   have hk0:(0:Int)≤(k:Int):=by omega
   obtain ⟨x0,x1,x2⟩:=x
   simp only at d0 d1 d2
   by_cases hE:(x0,x1,x2)=(y0,y1,y2)
   ·cases hE
    have HF:Hid (r=true):=by rw [Hid,HR.out,HS.out];simp
    clear HS HR
    have q0:(y0 == y0)=true:=by simp
    have q1:(y1 == y1)=true:=by simp
    have q2:(y2 == y2)=true:=by simp
    go_wp2_with fail
    go_quiet (fail)
    have bwd:=below_drewN bw nq
    generalize wr.drewN nq=U at *
    clear d0 d1 d2 c0 c1 c2 bw q0 q1 q2
    go_wp2
    go_ret
    exact ⟨by rw [HF.out];rfl,bwd⟩
   ·have HF:Hid (r=hasB (xs.drop (k+1)) (y0,y1,y2)):=by rw [Hid,HR.out,HS.out];simp only [hE,decide_false,Bool.false_or]
    clear HS HR
    have h3:x0≠y0∨(x0=y0∧x1≠y1)∨(x0=y0∧x1=y1∧x2≠y2):=by
     by_cases q0:x0=y0
     ·by_cases q1:x1=y1
      ·refine .inr (.inr ⟨q0,q1,fun q2=>hE ?_⟩)
       rw [q0,q1,q2]
      ·exact .inr (.inl ⟨q0,q1⟩)
     ·exact .inl q0
    clear hE
    go_wp2_with fail
    rcases h3 with t0 | ⟨rfl,t1⟩ | ⟨rfl,rfl,t2⟩
    ·have t0':(x0 == y0)=false:=by simp [t0]
     go_quiet (fail)
     have bwd:=below_drewN bw nq
     replace c0:(wr.drewN nq).cell? ⟨w.heap.size,0,none⟩=some (.int .i64 y0):=c0
     replace c1:(wr.drewN nq).cell? ⟨w.heap.size,1,none⟩=some (.int .i64 y1):=c1
     replace c2:(wr.drewN nq).cell? ⟨w.heap.size,2,none⟩=some (.int .i64 y2):=c2
     generalize wr.drewN nq=U at *
     clear d0 d1 d2 bw t0 t0'
     go_wp2
     go_roundw
     case rel=>exact ⟨k+1,by omega,by go_num,HF,bwd,c0,c1,c2⟩
     case measure=>simp [intOf];omega
    ·have q0:(x0 == x0)=true:=by simp
     have t1':(x1 == y1)=false:=by simp [t1]
     go_quiet (fail)
     have bwd:=below_drewN bw nq
     replace c0:(wr.drewN nq).cell? ⟨w.heap.size,0,none⟩=some (.int .i64 x0):=c0
     replace c1:(wr.drewN nq).cell? ⟨w.heap.size,1,none⟩=some (.int .i64 y1):=c1
     replace c2:(wr.drewN nq).cell? ⟨w.heap.size,2,none⟩=some (.int .i64 y2):=c2
     generalize wr.drewN nq=U at *
     clear d0 d1 d2 bw q0 t1 t1'
     go_wp2
     go_roundw
     case rel=>exact ⟨k+1,by omega,by go_num,HF,bwd,c0,c1,c2⟩
     case measure=>simp [intOf];omega
    ·have q0:(x0 == x0)=true:=by simp
     have q1:(x1 == x1)=true:=by simp
     have t2':(x2 == y2)=false:=by simp [t2]
     go_quiet (fail)
     have bwd:=below_drewN bw nq
     replace c0:(wr.drewN nq).cell? ⟨w.heap.size,0,none⟩=some (.int .i64 x0):=c0
     replace c1:(wr.drewN nq).cell? ⟨w.heap.size,1,none⟩=some (.int .i64 x1):=c1
     replace c2:(wr.drewN nq).cell? ⟨w.heap.size,2,none⟩=some (.int .i64 y2):=c2
     generalize wr.drewN nq=U at *
     clear d0 d1 d2 bw q0 q1 t2 t2'
     go_wp2
     go_roundw
     case rel=>exact ⟨k+1,by omega,by go_num,HF,bwd,c0,c1,c2⟩
     case measure=>simp [intOf];omega
  ·obtain rfl:k=n:=by omega
   have HF:Hid (r=false):=by rw [Hid,HR.out,List.drop_of_length_le (by omega)];rfl
   clear HR c0 c1 c2
   go_wp2
   go_ret
   exact ⟨by rw [HF.out];rfl,bw⟩


theorem small_all8 {rows:List (List I3)} (h:ProgS rows):codeF rows=0∧(fullS rows).length≤2000:=by
 have:=small_room h.1 h.2.1 h.2.2.1 h.2.2.2
 refine ⟨?_,by omega⟩
 unfold codeF
 rw [if_pos h.1,if_pos (by omega)]
theorem halt_enab8 {rows:List (List I3)} {m:V4} {k:Int} (h:haltM rows m k=0):k ∈ enabM rows m 3:=by
 obtain ⟨j,hj,e⟩:=List.mem_map.1 (nxM_of h)
 have:j=k:=congrArg Prod.fst e
 exact this▸hj
theorem run_bugs8 {rows:List (List I3)} (h:(fullS rows).length≤2000) {x:I3}:∀ (ks:List Int) (m:V4) (fs:List I3),m ∈ (fullS rows).map (·.1)→(runI rows m fs ks).2.2=0→x ∈ (runI rows m fs ks).2.1→x ∈ fs∨x ∈ allI rows (fullS rows)
 | [],m,fs,_,_,hx=>.inl hx
 | k::ks,m,fs,hm,hz,hx=>by
  obtain ⟨hh,he⟩:=runI_cons hz
  rw [he] at hz hx
  obtain ⟨r,hr,rfl⟩:=List.mem_map.1 hm
  rcases run_bugs8 h ks _ _ (fullS_closed h r hr _ (nxM_of hh)) hz hx with hx | hx
  ·rcases List.mem_append.1 hx with hx | hx
   ·exact .inl hx
   ·exact .inr (mem_allI.2 ⟨r,hr,mem_bugsI.2 (.inr ⟨k,halt_enab8 hh,hx⟩)⟩)
  ·exact .inr hx
theorem zero_in8 (rows:List (List I3)):zeroV ∈ (fullS rows).map (·.1):=List.mem_map.2 ⟨_,List.mem_of_getElem? (fullS_head rows),rfl⟩
theorem full_some8 (rows:List (List I3)):0<(fullS rows).length:=by
 have h:=fullS_head rows
 cases hc:fullS rows with
 | nil=>rw [hc] at h;simp at h
 | cons=>simp
theorem run_all8 {rows:List (List I3)} {ks:List Int} {m:V4} (h:ProgS rows) (hg:goesTo rows ks m) (hl:ks.length≤14):runC rows ks=0∧∀ y ∈ runF rows ks,hasB (allI rows (fullS rows)) y=true:=by
 obtain ⟨_,hc,_⟩:=goes_run h.1 hg hl
 refine ⟨hc,fun y hx=>?_⟩
 have hf:=(small_all8 h).2
 rw [hasB_iff]
 unfold runC at hc
 rw [if_neg (by omega),if_pos h.1] at hc
 unfold runF at hx
 rw [if_neg (by omega),if_pos h.1] at hx
 rcases mem_mergeB.1 hx with hx | hx
 ·rcases run_bugs8 hf ks zeroV [] (zero_in8 rows) hc hx with hx | hx
  ·simp at hx
  ·exact hx
 ·obtain ⟨r,hr,e⟩:=List.mem_map.1 (fullS_runs hf ks zeroV [] (zero_in8 rows) hc)
  exact mem_allI.2 ⟨r,hr,mem_bugsI.2 (.inl (by rw [e];exact hx))⟩
theorem keys_at8 {rows:List (List I3)} (h:ProgS rows) {x:Nat} (hx:x<(keysL (fullS rows)).length):∃ m,(keysL (fullS rows)).getD x ByteArray.empty=keyT m∧shapeOk m=true∧m ∈ (fullS rows).map (·.1):=by
 rw [keysL_len] at hx
 refine ⟨((fullS rows)[x]).1,?_,fullS_shaped h.1 _ (List.getElem_mem hx),List.mem_map.2 ⟨_,List.getElem_mem hx,rfl⟩⟩
 unfold keysL
 simp [List.getD,hx]
theorem step_all8 {rows:List (List I3)} {m:V4} (h:ProgS rows) (hm:m ∈ (fullS rows).map (·.1)) (hs:shapeOk m=true) {i:Nat} (hi:i<(enabM rows m 3).length):∃ z,stepZ rows m ((enabM rows m 3).getD i 0)=z∧stepC rows m ((enabM rows m 3).getD i 0)=0∧shapeOk z=true∧keyA z=keyT z∧keyC z=0∧reachV rows (keyT z)=true∧reachC rows (keyT z)=0:=by
 have hk:(enabM rows m 3).getD i 0 ∈ enabM rows m 3:=by
  simp only [List.getD,List.getElem?_eq_getElem hi,Option.getD_some]
  exact List.getElem_mem hi
 generalize (enabM rows m 3).getD i 0=k at hk
 have ht:(k,(goM rows m k).1) ∈ nxM rows m:=List.mem_map.2 ⟨k,hk,rfl⟩
 have hz:=(nxM_mem ht).1
 obtain ⟨e1,e2⟩:=halt_step h.1 hs hz
 have hs2:=goM_shape h.1 hs hz
 obtain ⟨hc,hf⟩:=small_all8 h
 obtain ⟨r,hr,rfl⟩:=List.mem_map.1 hm
 have hin:=fullS_closed hf r hr _ ht
 have h15:=keyT_size6 hs2
 refine ⟨_,e1,e2,hs2,by unfold keyA;rw [if_pos hs2],by unfold keyC;rw [if_pos hs2],?_,?_⟩
 ·unfold reachV
  rw [if_neg (by omega),if_pos hc,inK_iff]
  obtain ⟨q,hq,e⟩:=List.mem_map.1 hin
  simp only at e
  rw [← e]
  exact List.mem_map.2 ⟨q,hq,rfl⟩
 ·unfold reachC
  rw [if_neg (by omega),hc]
theorem implVmOf_key8 {m:V4} (h:shapeOk m=true) (w:World) (hV:VmShape w) :
  Calls Tryz.prog 25 #[.string (keyT m)] w fun e w'=>VmGot e w' w.heap.size m 0∧Below w.heap.size w w':=by
 have k:=implVmOf_15 (keyT m) w (keyT_size6 h) hV
 rw [key_back6 h,h] at k
 exact k
theorem enab_fit8 {rows:List (List I3)} {m:V4} (hp:progOk rows=true) (hs:shapeOk m=true):enabA rows m=enabM rows m 3∧stuckC rows m=0:=by
 unfold enabA stuckC
 rw [hp,hs]
 exact ⟨rfl,rfl⟩


theorem sameTexts_one (a a':Option Addr) (len cap cap':Nat) (ts:List ByteArray) (w:World) (h:Strs w a len cap ts) (h':Strs w a' len cap' ts) :
  Calls Tryz.prog 24 #[.slice a len cap,.slice a' len cap'] w fun e w'=>e=.returned (.bool true)∧∃ d,w'=w.drewN d:=by
 obtain ⟨hl,hlc,hcm,hcase⟩:=h
 obtain ⟨_,hlc',hcm',hcase'⟩:=h'
 unfold maxLen at hcm hcm'
 have hne:((len:Int) != (len:Int))=false:=by simp
 by_cases h0:len=0
 ·subst h0
  go_enter Tryz.func24,Tryz.ntmps24
  go_wp2
  refine wp_loop_rounds 1 ?_
  rw [rounds_succ]
  go_wp2
  go_ret
  exact ⟨rfl,0,rfl⟩
 ·rcases hcase with h0' | ⟨b,off,rfl,hblt,hcell⟩
  ·exact absurd h0' h0
  rcases hcase' with h0' | ⟨b',off',rfl,hblt',hcell'⟩
  ·exact absurd h0' h0
  go_enter Tryz.func24,Tryz.ntmps24
  go_wp2
  go_loopw [5] (fun si wr=>∃ k d:Nat,k≤len∧si=.int .i64 k∧wr=w.drewN d) (fun si _=>len - (intOf si).toNat)
  case atStart=>exact ⟨0,0,by omega,rfl,rfl⟩
  case round =>
   obtain ⟨k,d,hk,rfl,rfl⟩:=hrel
   by_cases hlt:k<len
   ·have hc:=hcell k hlt
    have hc':=hcell' k hlt
    have hlt':(k:Int)<(len:Int):=by omega
    generalize ts.getD k ByteArray.empty=x at hc hc'
    have hxx:(x.toList != x.toList)=false:=by simp
    have hxy:(x.toList == x.toList)=true:=by simp
    clear hcell hcell'
    go_wp2
    go_quiet (fail)
    go_wp2
    go_roundw
    case rel=>exact ⟨k+1,_,by omega,by go_num,rfl⟩
    case measure=>simp [intOf];omega
   ·go_wp2
    go_ret
    exact ⟨rfl,d,rfl⟩


def smI (n:Int) (x:I3):I3:=if x.1=7 then (x.1,x.2.1,n) else x
def smN (r:List I3):Nat:=(r.take 2).length
def smR (r:List I3):List I3:=(r.take 2).map (smI (smN r))
def smJ (r:List I3) (j:Nat):List I3:=((r.take 2).take j).map (smI (smN r))++(r.take 2).drop j
theorem smN_le (r:List I3):smN r≤2:=by unfold smN;rw [List.length_take];omega
theorem smN_eq (r:List I3):smN r=min r.length 2:=by unfold smN;rw [List.length_take];omega
theorem smJ_len (r:List I3) (j:Nat):(smJ r j).length=smN r:=by unfold smJ smN;simp;omega
theorem smJ_zero (r:List I3):smJ r 0=r.take 2:=by unfold smJ;simp
theorem smJ_all {r:List I3} {j:Nat} (h:smN r≤j):smJ r j=smR r:=by
 unfold smJ smR
 unfold smN at h
 rw [List.take_of_length_le h,List.drop_of_length_le h,List.append_nil]
theorem smJ_at {r:List I3} {j:Nat} (h:j<smN r):(smJ r j).getD j (0,0,0)=(r.take 2).getD j (0,0,0):=by
 unfold smJ
 unfold smN at h
 have hl:(((r.take 2).take j).map (smI (smN r))).length=j:=by rw [List.length_map,List.length_take];omega
 simp only [List.getD]
 rw [List.getElem?_append_right (by omega),hl,Nat.sub_self,List.getElem?_drop,Nat.add_zero]
theorem smJ_succ {r:List I3} {j:Nat} (h:j<smN r):smJ r (j+1)=(smJ r j).set j (smI (smN r) ((r.take 2).getD j (0,0,0))):=by
 have h':=h
 unfold smN at h'
 have hl:(((r.take 2).take j).map (smI (smN r))).length=j:=by rw [List.length_map,List.length_take];omega
 have e:(r.take 2).getD j (0,0,0)=(r.take 2)[j]:=by simp only [List.getD,List.getElem?_eq_getElem h',Option.getD_some]
 unfold smJ
 rw [e,List.set_append_right _ _ (by omega),hl,Nat.sub_self,List.drop_eq_getElem_cons h',List.set_cons_zero,List.take_succ_eq_append_getElem h',List.map_append]
 simp
theorem smI_ok {x:I3} {n:Int} (h:okI x=true) (h1:1≤n) (h6:n≤6):okI (smI n x)=true:=by
 unfold smI
 split
 ·rename_i e
  unfold okI inB at h ⊢
  simp [e] at h ⊢
  omega
 ·exact h
theorem smI_leads {x:I3} {n k:Int} (h:k<n):leads (smI n x) k n=true:=by
 unfold smI leads
 split
 ·rename_i e
  simp only [e,if_true]
  unfold inB
  simp
  omega
 ·rfl
theorem smR_ok {r:List I3} (h:codeOk r=true):codeOk (smR r)=true:=by
 match r,h with
 | [],_=>rfl
 | [x],h =>
  have h1:okI x=true:=by
   unfold codeOk okFrom at h
   simp only [Bool.and_eq_true] at h
   exact h.2.1.1
  show codeOk [smI 1 x]=true
  unfold codeOk okFrom okFrom
  rw [smI_ok h1 (by omega) (by omega)]
  have:=smI_leads (x:=x) (n:=1) (k:=0) (by omega)
  simp only [List.length_cons,List.length_nil]
  simp [this]
 | x::y::rs,h =>
  have h1:okI x=true∧okI y=true:=by
   unfold codeOk okFrom okFrom at h
   simp only [Bool.and_eq_true] at h
   exact ⟨h.2.1.1,h.2.2.1.1⟩
  show codeOk [smI 2 x,smI 2 y]=true
  unfold codeOk okFrom okFrom okFrom
  rw [smI_ok h1.1 (by omega) (by omega),smI_ok h1.2 (by omega) (by omega)]
  have a:=smI_leads (x:=x) (n:=2) (k:=0) (by omega)
  have b:=smI_leads (x:=y) (n:=2) (k:=1) (by omega)
  simp only [List.length_cons,List.length_nil]
  simp [a,b]
def smK (rows:List (List I3)) (k:Nat):List (List I3):=(rows.take k).map smR++rows.drop k
theorem smK_len (rows:List (List I3)) (k:Nat):(smK rows k).length=rows.length:=by unfold smK;simp;omega
theorem smK_zero (rows:List (List I3)):smK rows 0=rows:=by unfold smK;simp
theorem smK_at {rows:List (List I3)} {k:Nat} (h:k<rows.length):(smK rows k).getD k []=rows.getD k []:=by
 have hl:((rows.take k).map smR).length=k:=by rw [List.length_map,List.length_take];omega
 unfold smK
 simp only [List.getD]
 rw [List.getElem?_append_right (by omega),hl,Nat.sub_self,List.getElem?_drop,Nat.add_zero]
theorem smK_succ {rows:List (List I3)} {k:Nat} (h:k<rows.length):smK rows (k+1)=(smK rows k).set k (smR (rows.getD k [])):=by
 have hl:((rows.take k).map smR).length=k:=by rw [List.length_map,List.length_take];omega
 unfold smK
 rw [List.set_append_right _ _ (by omega),hl,Nat.sub_self,List.drop_eq_getElem_cons h,List.set_cons_zero,List.take_succ_eq_append_getElem h,List.map_append]
 simp [List.getD,h]
theorem smK_all {rows:List (List I3)} (h:progOk rows=true):ProgS (smK rows 3):=by
 unfold progOk at h
 simp only [Bool.and_eq_true,decide_eq_true_eq,List.all_eq_true] at h
 have e:smK rows 3=rows.map smR:=by
  unfold smK
  rw [List.take_of_length_le (by omega),List.drop_of_length_le (by omega),List.append_nil]
 have hs:∀ k,(codeM (smK rows 3) k).length≤2:=fun k=>by
  rw [e]
  unfold codeM
  simp only [List.getD,List.getElem?_map]
  cases rows[k]? with
  | none=>simp
  | some r=>simp [smR,List.length_take];omega
 refine ⟨?_,Nat.le_trans (hs 0) (by omega),Nat.le_trans (hs 1) (by omega),hs 2⟩
 unfold progOk
 simp only [Bool.and_eq_true,decide_eq_true_eq,List.all_eq_true]
 rw [e]
 refine ⟨by simpa using h.1,fun r hr=>?_⟩
 obtain ⟨q,hq,rfl⟩:=List.mem_map.1 hr
 exact smR_ok (h.2 q hq)

theorem flat_setB:∀ (xs:List I3) (i:Nat) (z:Int),i<xs.length→(flat xs).set (i*3+2) (.int .i64 z)=flat (xs.set i ((xs.getD i (0,0,0)).1,(xs.getD i (0,0,0)).2.1,z))
 | [],i,z,h=>by simp at h
 | x::xs,0,z,_=>by simp [flat,I3.cells]
 | x::xs,i+1,z,h=>by
  have ih:=flat_setB xs i z (by simpa using h)
  have e2:(i+1)*3+2=(i*3+2)+1+1+1:=by omega
  simp only [flat,List.flatMap_cons,I3.cells,List.cons_append,List.nil_append] at ih ⊢
  rw [e2]
  simp only [List.set_cons_succ,List.flatMap_cons,I3.cells,List.cons_append,List.nil_append]
  rw [ih]
  simp
theorem own_ne_own6 {w:World} {B B' e e' s s' n n' g c:Nat} {v:Value} {xs ys:List Value} (h:w.ownsRow B e s v n xs) (h':w.ownsRow B' e' s' (.slice (some ⟨g,0,none⟩) n' c) n' ys) (he:e≠e'):v.ownBlock≠some g:=by
 rcases h'.2 with ⟨q,_⟩ | ⟨g',c',cur',q,_,hh',_⟩
 ·cases q
 ·cases q
  rcases h.2 with ⟨q,_⟩ | ⟨g2,c2,cur2,q,_,hh,_⟩
  ·rw [q];simp [Value.ownBlock]
  ·rw [q]
   simp only [Value.ownBlock,ne_eq,Option.some.injEq]
   rintro rfl
   rw [hh] at hh'
   simp at hh'
   exact he hh'.2
theorem getD_set6 {α:Type} (l:List α) (k t:Nat) (x d:α):(l.set k x).getD t d=if t=k∧k<l.length then x else l.getD t d:=by
 simp only [List.getD,List.getElem?_set]
 by_cases h:k=t
 ·subst h
  by_cases h2:k<l.length
  ·simp [h2]
  ·simp [h2]
 ·rw [if_neg h,if_neg (fun q=>h q.1.symm)]
theorem OwnRows.put {w:World} {B:Nat} {vs:List Value} {rows:List (List I3)} (h:OwnRows w B vs rows) {k:Nat} (hk:k<rows.length) {nv:Value} {xs:List I3} (hn:w.ownsRow B 158 3 nv xs.length (flat xs)) (hd:∀ t,t<rows.length→t≠k→nv.ownBlock=none∨nv.ownBlock≠(vs.getD t undef).ownBlock):OwnRows w B (vs.set k nv) (rows.set k xs):=by
 obtain ⟨h1,h2,h3⟩:=h
 refine ⟨by simp [h1],fun t ht=>?_,fun t t' ht ht' hne=>?_⟩
 ·rw [List.length_set] at ht
  rw [getD_set6,getD_set6]
  by_cases e:t=k
  ·rw [if_pos ⟨e,by omega⟩,if_pos ⟨e,hk⟩];exact hn
  ·rw [if_neg (fun q=>e q.1),if_neg (fun q=>e q.1)];exact h2 t ht
 ·rw [List.length_set] at ht ht'
  rw [getD_set6,getD_set6]
  by_cases e:t=k
  ·rw [if_pos ⟨e,by omega⟩,if_neg (fun q=>hne (e.trans q.1.symm))]
   exact hd t' ht' (fun q=>hne (e.trans q.symm))
  ·rw [if_neg (fun q=>e q.1)]
   by_cases e':t'=k
   ·rw [if_pos ⟨e',by omega⟩]
    rcases hd t ht e with q | q
    ·rw [q]
     cases hb:(vs.getD t undef).ownBlock with
     | none=>exact .inl rfl
     | some x=>exact .inr (by simp)
    ·exact .inr (fun x=>q x.symm)
   ·rw [if_neg (fun q=>e' q.1)];exact h3 t t' ht ht' hne
theorem OwnRows.grown6 {w w':World} {B:Nat} {vs:List Value} {rows:List (List I3)} {g:Nat} (h:OwnRows w B vs rows) (hg:w.grownBy w' (some g)) (hne:∀ t,t<rows.length→(vs.getD t undef).ownBlock≠some g):OwnRows w' B vs rows:=
 ⟨h.1,fun t ht=>(h.2.1 t ht).kept hg (.inr (hne t ht)),h.2.2⟩
def ProgAt (w:World) (B g c:Nat) (vs:List Value) (rows:List (List I3)):Prop:=w.ownsRow B 87 1 (.slice (some ⟨g,0,none⟩) 3 c) 3 vs∧OwnRows w B vs rows∧rows.length=3
theorem ProgAt.below {w w':World} {B g c:Nat} {vs:List Value} {rows:List (List I3)} (h:ProgAt w B g c vs rows) (hb:Below w.heap.size w w'):ProgAt w' B g c vs rows:=⟨owns_below h.1 hb,h.2.1.below hb,h.2.2⟩
theorem ProgAt.cell {w:World} {B g c:Nat} {vs:List Value} {rows:List (List I3)} (h:ProgAt w B g c vs rows) {k:Nat} (hk:k<3):w.cell? ⟨g,k,none⟩=some (vs.getD k undef):=by
 rw [h.1.cellAt k (by omega)]
 have:=h.2.1.1
 have:=h.2.2
 simp [List.getD,show k<vs.length by omega]
theorem ProgAt.own {w:World} {B g c:Nat} {vs:List Value} {rows:List (List I3)} (h:ProgAt w B g c vs rows):OwnProg w B (.slice (some ⟨g,0,none⟩) 3 c) rows:=by
 obtain ⟨h1,h2,h3⟩:=h
 exact ⟨vs,by rw [h3];exact h1,h2⟩
theorem ProgAt.of {w:World} {B:Nat} {v:Value} {rows:List (List I3)} (h:OwnProg w B v rows) (h3:rows.length=3):∃ g c vs,v=.slice (some ⟨g,0,none⟩) 3 c∧ProgAt w B g c vs rows:=by
 obtain ⟨vs,h1,h2⟩:=h
 rw [h3] at h1
 rcases h1.2 with ⟨q,q0⟩ | ⟨g,c,cur,q,_⟩
 ·omega
 ·subst q
  exact ⟨g,c,vs,rfl,h1,h2,h3⟩
theorem ProgAt.lay {w:World} {B g c:Nat} {vs:List Value} {rows:List (List I3)} (h:ProgAt w B g c vs rows) {k:Nat} (hk:k<3) {nv:Value} {xs:List I3} (hn:w.ownsRow B 158 3 nv xs.length (flat xs)) (hd:∀ t,t<3→nv.ownBlock=none∨nv.ownBlock≠(vs.getD t undef).ownBlock):ProgAt (w.setCell ⟨g,k,none⟩ nv) B g c (vs.set k nv) (rows.set k xs):=by
 obtain ⟨h1,h2,h3⟩:=h
 have hg:=(h1.stored k nv).2
 refine ⟨(h1.stored k nv).1,(h2.put (by omega) hn (fun t ht _=>hd t (by omega))).grown6 hg (fun t ht=>?_),by simp [h3]⟩
 rw [getD_set6]
 split
 ·exact own_ne_own6 hn h1 (by decide)
 ·rw [List.length_set] at ht
  exact own_ne_own6 (h2.2.1 t ht) h1 (by decide)
theorem ProgAt.turn {w:World} {B g c b n cc:Nat} {vs:List Value} {rows:List (List I3)} (h:ProgAt w B g c vs rows) {k i:Nat} (hk:k<3) (hv:vs.getD k undef=.slice (some ⟨b,0,none⟩) n cc) (hi:i<(rows.getD k []).length) (z:Int) :
  ProgAt (w.setCell ⟨b,i*3+2,none⟩ (.int .i64 z)) B g c vs (rows.set k ((rows.getD k []).set i (((rows.getD k []).getD i (0,0,0)).1,((rows.getD k []).getD i (0,0,0)).2.1,z))):=by
 obtain ⟨h1,h2,h3⟩:=h
 have hr:=h2.2.1 k (by omega)
 rw [hv] at hr
 have hn:n=(rows.getD k []).length:=by
  rcases hr.2 with ⟨q,_⟩ | ⟨g',c',cur',q,_⟩
  ·cases q
  ·cases q;rfl
 subst hn
 obtain ⟨s1,s2⟩:=hr.stored (i*3+2) (.int .i64 z)
 rw [flat_setB _ _ _ hi] at s1
 have hbg:b≠g:=fun e=>own_ne_own6 hr h1 (by decide) (by simp [Value.ownBlock,e])
 have hvs:vs.length=3:=by rw [h2.1];exact h3
 refine ⟨h1.kept s2 (.inr (by simp [Value.ownBlock];omega)),⟨by simp [h2.1],fun t ht=>?_,fun t t' ht ht' hne=>h2.2.2 t t' (by simpa using ht) (by simpa using ht') hne⟩,by simp [h3]⟩
 rw [List.length_set] at ht
 rw [getD_set6]
 by_cases e:t=k
 ·rw [if_pos ⟨e,by omega⟩,e,hv,List.length_set]
  exact s1
 ·rw [if_neg (fun q=>e q.1)]
  refine (h2.2.1 t ht).kept s2 (.inr ?_)
  rcases h2.2.2 t k ht (by omega) e with q | q
  ·rw [q];simp
  ·rw [hv] at q;exact q
theorem flat_one7 (xs:List I3):∀ u ∈ flat xs,u.oneCell'=true:=fun u hu=>by
 unfold flat at hu
 obtain ⟨x,_,hx⟩:=List.mem_flatMap.1 hu
 simp [I3.cells] at hx
 rcases hx with rfl | rfl | rfl<;>rfl
theorem flat_get7:∀ (xs:List I3) (j:Nat),j<xs.length→(flat xs)[j*3]?=some (.int .i64 (xs.getD j (0,0,0)).1)
 | [],j,h=>by simp at h
 | x::xs,0,_=>by simp [flat,I3.cells]
 | x::xs,j+1,h=>by
  have ih:=flat_get7 xs j (by simpa using h)
  have e2:(j+1)*3=j*3+1+1+1:=by omega
  simp only [flat,List.flatMap_cons,I3.cells,List.cons_append,List.nil_append] at ih ⊢
  rw [e2]
  simp only [List.getElem?_cons_succ]
  rw [ih]
  simp
theorem own_news7 {w:World} {B b n c:Nat} {r:List I3} (h:w.ownsRow B 158 3 (.slice (some ⟨b,0,none⟩) n c) n (flat r)):∀ j u,(flat (r.take 2))[j]?=some u→w.cell? ((⟨b,0,none⟩:Addr).add j)=some u:=fun j u hj=>by
 have e:flat r=flat (r.take 2)++flat (r.drop 2):=by unfold flat;rw [← List.flatMap_append,List.take_append_drop]
 have hl:=(List.getElem?_eq_some_iff.1 hj).1
 have h1:(flat r)[j]?=some u:=by rw [e,List.getElem?_append_left hl];exact hj
 have h2:=(List.getElem?_eq_some_iff.1 h1).1
 have h3:=h.1
 have h4:=h.cellAt j (by omega)
 rw [h1] at h4
 by_cases e0:j=0
 ·subst e0;simpa [Addr.add] using h4
 ·simpa [Addr.add,e0] using h4
theorem smJ_same {r:List I3} {j:Nat} (h:j<smN r) (h7:((r.take 2).getD j (0,0,0)).1≠7):smJ r (j+1)=smJ r j:=by
 rw [smJ_succ h]
 have e:smI (smN r) ((r.take 2).getD j (0,0,0))=(smJ r j).getD j (0,0,0):=by rw [smJ_at h];unfold smI;rw [if_neg h7]
 rw [e]
 have hl:j<(smJ r j).length:=by rw [smJ_len];exact h
 simp only [List.getD,List.getElem?_eq_getElem hl,Option.getD_some]
 exact List.set_getElem_self hl
theorem smJ_turn {r:List I3} {j:Nat} (h:j<smN r) (h7:((r.take 2).getD j (0,0,0)).1=7):(smJ r j).set j (((smJ r j).getD j (0,0,0)).1,((smJ r j).getD j (0,0,0)).2.1,(smN r:Int))=smJ r (j+1):=by
 rw [smJ_succ h,smJ_at h]
 unfold smI
 rw [if_pos h7]
theorem ProgAt.low {w w':World} {B g c R:Nat} {vs:List Value} {rows:List (List I3)} (h:ProgAt w B g c vs rows) (hg:w.grownBy w' (some R)) (hR:R<B):ProgAt w' B g c vs rows:=by
 obtain ⟨h1,h2,h3⟩:=h
 refine ⟨h1.kept hg (.inr fun e=>?_),h2.grown6 hg (fun t ht e=>?_),h3⟩
 ·have:=(h1.lt R e).1;omega
 ·have:=((h2.2.1 t ht).lt R e).1;omega
theorem own_new7 {w:World} {B N n:Nat} {v:Value} {xs:List Value} (h:w.ownsRow B 158 3 v n xs) (hb:v.ownBlock=some N):∃ c,v=.slice (some ⟨N,0,none⟩) n c:=by
 rcases h.2 with ⟨q,_⟩ | ⟨g,c,cur,q,_⟩
 ·rw [q] at hb;cases hb
 ·subst q;simp [Value.ownBlock] at hb;subst hb;exact ⟨c,rfl⟩
theorem ProgAt.apart {w:World} {B g c N t:Nat} {vs:List Value} {rows:List (List I3)} (h:ProgAt w B g c vs rows) (hN:w.heap.size≤N) (ht:t<3):(some N:Option Nat)=none∨some N≠(vs.getD t undef).ownBlock:=by
 obtain ⟨h1,h2,h3⟩:=h
 exact .inr fun e=>by have:=((h2.2.1 t (by omega)).lt N e.symm).2;omega
theorem ProgAt.row {w:World} {B g c:Nat} {vs:List Value} {rows:List (List I3)} {k:Nat} {r:List I3} (h:ProgAt w B g c vs (rows.set k r)) (hk:k<rows.length):w.ownsRow B 158 3 (vs.getD k undef) r.length (flat r):=by
 have:=h.2.1.2.1 k (by rw [List.length_set];exact hk)
 rwa [getD_set6,if_pos ⟨rfl,hk⟩] at this
theorem ProgAt.turn7 {w:World} {B g c b n cc:Nat} {vs:List Value} {rows:List (List I3)} {k j:Nat} {r:List I3} (h:ProgAt w B g c vs (rows.set k (smJ r j))) (hk:k<3) (hl:rows.length=3) (hv:vs.getD k undef=.slice (some ⟨b,0,none⟩) n cc) (hj:j<smN r) (h7:((r.take 2).getD j (0,0,0)).1=7) :
  ProgAt (w.setCell ⟨b,j*3+2,none⟩ (.int .i64 (smN r:Int))) B g c vs (rows.set k (smJ r (j+1))):=by
 have e:(rows.set k (smJ r j)).getD k []=smJ r j:=by rw [getD_set6,if_pos ⟨rfl,by omega⟩]
 have h2:=h.turn (i:=j) hk hv (by rw [e,smJ_len];exact hj) (smN r:Int)
 rw [e,smJ_turn hj h7,List.set_set] at h2
 exact h2
end Go.Proofs.YtdojjmkpelgcaaaGreatDoor
