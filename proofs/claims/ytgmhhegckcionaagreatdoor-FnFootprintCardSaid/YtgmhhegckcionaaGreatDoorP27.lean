/-
  Joined: DrawQ.
-/
import Derived.Test.YtgmhhegckcionaaGreatDoorP18

namespace Go.Proofs.YtgmhhegckcionaaGreatDoor
set_option maxRecDepth 100000
set_option maxHeartbeats 16000000
open Go.RowKit
set_option linter.unusedVariables false
set_option linter.unusedSimpArgs false

def capT (t:Nat):Nat:=if t=2 then 2 else 3
def GoodD (done:List (List I3)):Prop:=(∀ r ∈ done,codeOk r=true)∧∀ t r,done[t]?=some r→r.length≤capT t
theorem GoodD.nil:GoodD []:=⟨(fun r hr=>by cases hr),(fun t r h=>by simp at h)⟩
theorem GoodD.snoc {done:List (List I3)} {xs:List I3} (h:GoodD done) (h1:codeOk xs=true) (h2:xs.length≤capT done.length):GoodD (done++[xs]):=by
 refine ⟨fun r hr=>?_,fun t r hr=>?_⟩
 ·rcases List.mem_append.1 hr with h' | h'
  ·exact h.1 r h'
  ·simp at h';subst h';exact h1
 ·by_cases ht:t<done.length
  ·rw [List.getElem?_append_left ht] at hr
   exact h.2 t r hr
  ·rw [List.getElem?_append_right (by omega)] at hr
   have hl:=(List.getElem?_eq_some_iff.1 hr).1
   simp at hl
   have e:t=done.length:=by omega
   subst e
   simp at hr
   subst hr
   exact h2
def SmallP (rows:List (List I3)):Prop:=(codeM rows 0).length≤3∧(codeM rows 1).length≤3∧(codeM rows 2).length≤2
theorem GoodD.small {rows:List (List I3)} (h:GoodD rows) (hl:rows.length=3):SmallP rows:=by
 have hk:∀ k,k<3→(codeM rows k).length≤capT k:=fun k hk=>h.2 k _ (by unfold codeM;rw [List.getD,List.getElem?_eq_getElem (show k<rows.length by omega)];rfl)
 exact ⟨hk 0 (by decide),hk 1 (by decide),hk 2 (by decide)⟩
def ProgS (rows:List (List I3)):Prop:=progOk rows=true∧SmallP rows

theorem programQ_went (p:Nat) (a:Option Addr) (n cap:Nat) (w:World) (hS:Src w p (.slice a n cap) 0) (hC:Code w p a n cap) :
  Calls Tryz.prog 45 #[.pointer (some ⟨p,0,none⟩)] w fun e w'=>(∃ (v:Value) (rows:List (List I3)),ProgS rows∧e=.returned (.agg #[v])∧OwnProg w' w.heap.size v rows)∧Went p w w':=by
 obtain ⟨i0,hi,hz0,hz1,hz2⟩:=info_parts info_instr
 obtain ⟨j0,hj,hy0,hy1,hy2⟩:=info_parts info_instrs
 have hpl:=hS.lt
 have hpB:p<w.heap.size:=hS.lt
 go_enter Tryz.func45,Tryz.ntmps45
 go_wp2_with fail
 have hRr:(((w.alloc (.cells #[.slice none 0 0] 25)).alloc (.cells #[] 91)).alloc (.cells #[.slice (some ⟨w.heap.size+1,0,none⟩) 0 0] 25)).ownsRow w.heap.size 25 1 (.slice (some ⟨w.heap.size,0,none⟩) 1 1) 1 [.slice none 0 0]:=((box_n w (.slice none 0 0) 25 w.heap.size (Nat.le_refl _)).alloc _).alloc _
 have hV:(((w.alloc (.cells #[.slice none 0 0] 25)).alloc (.cells #[] 91)).alloc (.cells #[.slice (some ⟨w.heap.size+1,0,none⟩) 0 0] 25)).ownsRow w.heap.size 91 1 (.slice (some ⟨w.heap.size+1,0,none⟩) 0 0) 0 []:=by
  have h9:=(empty_n (w.alloc (.cells #[.slice none 0 0] 25)) 91 1 w.heap.size (by simp)).alloc (.cells #[.slice (some ⟨w.heap.size+1,0,none⟩) 0 0] 25)
  simp only [World.size_alloc] at h9
  exact h9
 have hX:(((w.alloc (.cells #[.slice none 0 0] 25)).alloc (.cells #[] 91)).alloc (.cells #[.slice (some ⟨w.heap.size+1,0,none⟩) 0 0] 25)).ownsRow w.heap.size 25 1 (.slice (some ⟨w.heap.size+1+1,0,none⟩) 1 1) 1 [.slice (some ⟨w.heap.size+1,0,none⟩) 0 0]:=by
  have h9:=box_n ((w.alloc (.cells #[.slice none 0 0] 25)).alloc (.cells #[] 91)) (.slice (some ⟨w.heap.size+1,0,none⟩) 0 0) 25 w.heap.size (by simp;omega)
  simp only [World.size_alloc] at h9
  exact h9
 have hWt:Went p w (((w.alloc (.cells #[.slice none 0 0] 25)).alloc (.cells #[] 91)).alloc (.cells #[.slice (some ⟨w.heap.size+1,0,none⟩) 0 0] 25)):=(((Went.refl p w).alloc _).alloc _).alloc _
 replace hC:=hC.below (((hWt.below (Nat.le_of_lt hpl))))
 replace hS:=((hS.alloc (.cells #[.slice none 0 0] 25)).alloc (.cells #[] 91)).alloc (.cells #[.slice (some ⟨w.heap.size+1,0,none⟩) 0 0] 25)
 replace hpl:p<(((w.alloc (.cells #[.slice none 0 0] 25)).alloc (.cells #[] 91)).alloc (.cells #[.slice (some ⟨w.heap.size+1,0,none⟩) 0 0] 25)).heap.size:=by simp;omega
 have hXw:w.heap.size<w.heap.size+1+1:=by omega
 generalize (((w.alloc (.cells #[.slice none 0 0] 25)).alloc (.cells #[] 91)).alloc (.cells #[.slice (some ⟨w.heap.size+1,0,none⟩) 0 0] 25))=w3 at hRr hV hX hWt hC hS hpl
 generalize w.heap.size+1+1=X at hX hXw
 generalize some (Addr.mk (w.heap.size+1) 0 none)=aV0 at hV hX
 go_loopw [4] (fun si wr=>∃ (k T:Nat) (done:List (List I3)) (vs:List Value) (aV:Option Addr) (capV:Nat),k≤3∧si=.int .i64 k∧T≤k*100∧done.length=k∧Hid (GoodD done) ∧
   RowsOwn wr w.heap.size k vs done∧wr.ownsRow w.heap.size 91 1 (.slice aV k capV) k vs∧wr.ownsRow w.heap.size 25 1 (.slice (some ⟨X,0,none⟩) 1 1) 1 [.slice aV k capV]∧wr.ownsRow w.heap.size 25 1 (.slice (some ⟨w.heap.size,0,none⟩) 1 1) 1 [.slice none 0 0]∧Src wr p (.slice a n cap) T∧Code wr p a n cap∧p<wr.heap.size∧Went p w wr) (fun si _=>3 - (intOf si).toNat)
 case atStart=>exact ⟨0,0,[],[],aV0,0,by omega,rfl,by omega,rfl,GoodD.nil,⟨fun t ht=>by omega,fun t _ ht=>by omega⟩,hV,hX,hRr,hS,hC,hpl,hWt⟩
 case round =>
  clear hRr hV hX hWt hC hS hpl
  obtain ⟨k,T,done,vs,aV,capV,hk,rfl,hT,hdl,hok,hR,hV,hX,hRr,hS,hC,hpl,hWt⟩:=hrel
  by_cases hlt:k<3
  ·have hlt2:(k:Int)<3:=by omega
   have hk0:(0:Int)≤(k:Int):=by omega
   go_wp2_with fail
   refine (next_any p T a n cap 4 _ hS hC (by omega) (by omega)).mono ?_
   rintro e w4 ⟨⟨v1,hv1,rfl⟩,hSn,hWn⟩
   replace hS:=hSn
   replace hR:=hR.went hWn hpB
   replace hV:=owns_wn hV hWn hpB
   replace hX:=owns_wn hX hWn hpB
   replace hRr:=owns_wn hRr hWn hpB
   replace hC:=hC.went hWn (Nat.le_of_lt hpl)
   replace hpl:=Nat.lt_of_lt_of_le hpl hWn.size
   replace hWt:=hWt.trans hWn
   clear hSn hWn
   by_cases hk2:k=2
   ·have hk2':((k:Int) == 2)=true:=by subst hk2;rfl
    go_wp2_with fail
    refine (next_any p (T+3) a n cap 3 _ hS hC (by omega) (by omega)).mono ?_
    rintro e w5 ⟨⟨v2,hv2,rfl⟩,hSn,hWn⟩
    replace hS:=hSn
    replace hR:=hR.went hWn hpB
    replace hV:=owns_wn hV hWn hpB
    replace hX:=owns_wn hX hWn hpB
    replace hRr:=owns_wn hRr hWn hpB
    replace hC:=hC.went hWn (Nat.le_of_lt hpl)
    replace hpl:=Nat.lt_of_lt_of_le hpl hWn.size
    replace hWt:=hWt.trans hWn
    clear hSn hWn
    have hnn:v2≤3:=by omega
    have hn2:v2≤2:=by omega
    obtain ⟨nn,hnnd⟩:∃ nn:Nat,nn=v2:=⟨_,rfl⟩
    rw [← hnnd] at hnn hn2
    rw [← hnnd]
    have HK2:Hid (k=2):=hk2
    clear hnnd hv2 hv1 hk2 hk2'
    replace hS:=hS.mono (show T+3+3≤T+6 by omega)
    have hCo:=empty_n w5 122 3 w5.heap.size (Nat.le_refl _)
    have hWo:=(Went.refl p w5).alloc (.cells #[] 122)
    have hSo:=hS.alloc (.cells #[] 122)
    have hpo:p<(w5.alloc (.cells #[] 122)).heap.size:=by simp;omega
    have hCdo:=hC.below ((Below.refl p w5).alloc (Nat.le_of_lt hpl) (.cells #[] 122))
    go_wp2
    go_loopw [6,7] (fun sv si wi=>∃ (i:Nat) (xs:List I3),i≤nn∧si=.int .i64 i∧xs.length=i∧Hid (okTo nn xs)∧wi.ownsRow w5.heap.size 122 3 sv i (flat xs)∧Src wi p (.slice a n cap) (T+6+i*9)∧Code wi p a n cap∧p<wi.heap.size∧Went p w5 wi) (fun _ si _=>nn - (intOf si).toNat)
    case atStart=>exact ⟨0,[],by omega,rfl,rfl,(fun i hi=>by simp at hi),hCo,hSo,hCdo,hpo,hWo⟩
    case round =>
     clear hCo hWo hSo hpo hCdo
     obtain ⟨i,xs,hin,rfl,hxl,hxo,hr,hSi,hCi,hpi,hWi⟩:=hrel
     by_cases him:i<nn
     ·have him2:(i:Int)<(nn:Int):=by omega
      go_wp2_with fail
      refine (instr_any p (T+6+i*9) a n cap i nn _ hSi hCi (by omega) him hnn).mono ?_
      rintro e w6 ⟨⟨x,⟨hx1,hx2⟩,rfl⟩,hS6,hW6⟩
      have hxo2:Hid (okTo nn (xs++[x])):=okTo_snoc hxo.out hx1 (by rw [hxl];exact hx2)
      replace hr:=owns_wn hr hW6 hpl
      replace hCi:=hCi.went hW6 (Nat.le_of_lt hpi)
      replace hpi:=Nat.lt_of_lt_of_le hpi hW6.size
      replace hWi:=hWi.trans hW6
      have hbs6:=hWi.size
      clear hSi hW6 hx1 hx2 hxo
      have HXL:Hid (xs.length=i):=hxl
      clear hxl
      obtain ⟨x0,x1,x2⟩:=x
      unfold I3.val
      go_wp2_with (at_builtin;refine wpList_append_own _ rfl _ _ 91 rfl w5.heap.size 122 i0 (.agg #[.int .i64 0,.int .i64 0,.int .i64 0]) 3 24 Tryz.underlying91 hi hz0 hz1 hz2 rfl (by decide) _ _ _ rfl (hr.alloc _) ⟨w6.heap.size,0,none⟩ 1 1 [.int .i64 x0,.int .i64 x1,.int .i64 x2] rfl rfl (cell_three_new _ _ _ _ _) (three_i64 _ _ _) ?c3 ?c4 ?c5 ?_)
      case c3=>unfold maxLen;omega
      case c4=>omega
      case c5=>simp;omega
      intro v7 w7 hown7 hgrow7 _
      have hr7:w7.ownsRow w5.heap.size 122 3 v7 (i+1) (flat (xs++[(x0,x1,x2)])):=by rw [flat_snoc];exact hown7
      have hW7:Went p w5 w7:=(hWi.alloc (.cells #[.int .i64 x0,.int .i64 x1,.int .i64 x2] 122)).grown hgrow7 (fun j hj=>(hr.lt _ hj).1)
      have hS7:=((hS6.alloc (.cells #[.int .i64 x0,.int .i64 x1,.int .i64 x2] 122)).grown hgrow7 (fun k e=>by have:=(hr.lt k e).1;omega)).mono (show T+6+i*9+9≤T+6+(i+1)*9 by omega)
      have hC7:=hCi.below ((((Below.refl p w6).alloc (Nat.le_of_lt hpi) (.cells #[.int .i64 x0,.int .i64 x1,.int .i64 x2] 122))).grown hgrow7 (by simp;omega) (fun j hj=>by have:=(hr.lt j hj).1;omega))
      have hp7:p<w7.heap.size:=by have:=hgrow7.size;simp at this;omega
      clear hown7 hgrow7 hr hWi hS6 hCi hpi
      go_wp2
      go_roundw
      case rel=>exact ⟨i+1,xs++[(x0,x1,x2)],by omega,by go_num,by simp [HXL.out],hxo2,hr7,hS7,hC7,hp7,hW7⟩
      case measure=>simp [intOf];omega
     ·obtain rfl:i=nn:=by omega
      have hcok:codeOk xs=true:=codeOk_of (by omega) (by rw [hxl];exact hxo.out)
      have hok2:Hid (GoodD (done++[xs])):=GoodD.snoc hok.out hcok (by rw [hdl,HK2.out,hxl];exact hn2)
      obtain ⟨aC,capC,hv⟩:∃ aC capC,u6=.slice aC i capC:=by
       rcases hr.2 with ⟨hv,h0⟩ | ⟨g,cp,cur,hv,_⟩
       ·exact ⟨none,0,by rw [h0];exact hv⟩
       ·exact ⟨_,cp,hv⟩
      subst hv
      have hlow:∀ t x,t<k→(vs.getD t undef).ownBlock=some x→x<w5.heap.size:=fun t x ht hx=>((hR.1 t ht).lt x hx).2
      have hw5B:w.heap.size≤w5.heap.size:=hWt.size
      have hR':=hR.went hWi hpB
      have hV':=owns_wn hV hWi hpB
      have hX':=owns_wn hX hWi hpB
      have hRr':=owns_wn hRr hWi hpB
      have hWt':=hWt.trans hWi
      have hcX:wr.cell? ⟨X,0,none⟩=some (.slice aV k capV):=by simpa using hX'.cellAt 0 (by omega)
      have hbs8:=hWt'.size
      clear hR hV hX hRr hWt hWi hS hC hpl hok hxo hcok
      go_wp2_with (at_builtin;refine wpList_append_own _ rfl _ _ 23 rfl w.heap.size 91 j0 (.slice none 0 0) 1 24 Tryz.underlying23 hj hy0 hy1 hy2 rfl (by decide) _ _ _ rfl (hV'.alloc _) ⟨wr.heap.size,0,none⟩ 1 1 [.slice aC i capC] rfl rfl (one_cell_v _ _ _) (one_slv _ _ _) ?c3 ?c4 ?c5 ?_)
      case c3=>unfold maxLen;omega
      case c4=>omega
      case c5=>simp;omega
      intro v8 w8 hown8 hgrow8 _
      have hA:=hr.alloc (.cells #[.slice aC i capC] 91)
      have hV2:=hV'.alloc (.cells #[.slice aC i capC] 91)
      have hC4:=hA.kept hgrow8 (owns_ne hA hV2 (by decide))
      have hR4:RowsOwn w8 w.heap.size k vs done:=⟨fun t ht=>((hR'.1 t ht).alloc _).kept hgrow8 (owns_ne ((hR'.1 t ht).alloc _) hV2 (by decide)),hR'.2⟩
      have hX4:=(hX'.alloc (.cells #[.slice aC i capC] 91)).kept hgrow8 (owns_ne (hX'.alloc _) hV2 (by decide))
      have hRr4:=(hRr'.alloc (.cells #[.slice aC i capC] 91)).kept hgrow8 (owns_ne (hRr'.alloc _) hV2 (by decide))
      have hW4:Went p w w8:=(hWt'.alloc (.cells #[.slice aC i capC] 91)).grown hgrow8 (fun j hj=>(hV'.lt _ hj).1)
      have hS4:=(hSi.alloc (.cells #[.slice aC i capC] 91)).grown hgrow8 (fun j e=>by have:=(hV'.lt j e).1;omega)
      have hCd4:=hCi.below (((Below.refl p wr).alloc (Nat.le_of_lt hpi) (.cells #[.slice aC i capC] 91)).grown hgrow8 (by simp;omega) (fun j hj=>by have:=(hV'.lt j hj).1;omega))
      have hp4:p<w8.heap.size:=by have:=hgrow8.size;simp at this;omega
      clear hA hV2 hV' hR' hX' hRr' hWt' hgrow8 hr hcX hSi hCi hpi
      obtain ⟨aW,capW,hv4⟩:∃ aW capW,v8=.slice aW (k+1) capW:=by
       rcases hown8.2 with ⟨hv,h0⟩ | ⟨g,cp,cur,hv,_⟩
       ·omega
       ·exact ⟨_,cp,hv⟩
      subst hv4
      have hlv:vs.length=k:=by have:=hown8.1;simp at this;omega
      have hpush:=hR4.push' (s0:=w5.heap.size) hlv hdl hlow (r:=xs) (sv:=.slice aC i capC) (by rw [hxl];exact hC4) hw5B
      have fX:=hX4.frozenAt 0
      have cX:w8.cell? ⟨X,0,none⟩=some (.slice aV k capV):=by simpa using hX4.cellAt 0 (by omega)
      have hX5:=(hX4.stored 0 (.slice aW (k+1) capW)).1
      have hV5:(w8.setCell ⟨X,0,none⟩ (.slice aW (k+1) capW)).ownsRow w.heap.size 91 1 (.slice aW (k+1) capW) (k+1) (vs++[.slice aC i capC]):=ownsRow_setCell_other hown8 (ne_block hown8 hX4 (by decide)) _
      have hR5:RowsOwn (w8.setCell ⟨X,0,none⟩ (.slice aW (k+1) capW)) w.heap.size (k+1) (vs++[.slice aC i capC]) (done++[xs]):=⟨fun t ht=>ownsRow_setCell_other (hpush.1 t ht) (ne_block (hpush.1 t ht) hX4 (by decide)) _,hpush.2⟩
      have hRr5:(w8.setCell ⟨X,0,none⟩ (.slice aW (k+1) capW)).ownsRow w.heap.size 25 1 (.slice (some ⟨w.heap.size,0,none⟩) 1 1) 1 [.slice none 0 0]:=ownsRow_setCell_other hRr4 (by simp [Value.ownBlock];omega) _
      have g5:=grownBy_set w8 X 0 (.slice aW (k+1) capW)
      have hW5:=hW4.grown g5 (fun j e=>by cases e;omega)
      have hS5:=hS4.grown g5 (fun j e=>by cases e;omega)
      have hC5:=hCd4.below (grown_below g5 (show p≤X by omega) (Nat.le_of_lt hp4))
      have hp5:p<(w8.setCell ⟨X,0,none⟩ (.slice aW (k+1) capW)).heap.size:=Nat.lt_of_lt_of_le hp4 g5.size
      simp only [List.set_cons_zero] at hX5
      clear hpush hX4 hown8 hR4 hRr4 hC4 hlow g5 hW4 hS4 hCd4 hp4
      have hdl2:(done++[xs]).length=k+1:=by simp [hdl]
      generalize done++[xs]=done2 at hok2 hR5 hdl2
      generalize vs++[.slice aC i capC]=vs2 at hV5 hR5
      go_wp2
      go_roundw
      case rel=>exact ⟨k+1,T+6+i*9,done2,vs2,aW,capW,by omega,(by first | go_num | (rw [HK2.out];rfl)),by omega,hdl2,hok2,hR5,hV5,hX5,hRr5,hS5,hC5,hp5,hW5⟩
      case measure=>have h9:=HK2.out;simp [intOf];omega
   ·have hk2':((k:Int) == 2)=false:=beq_eq_false_iff_ne.2 (by omega)
    have HK3:Hid (k≠2):=hk2
    have hnn:v1≤3:=by omega
    obtain ⟨nn,hnnd⟩:∃ nn:Nat,nn=v1:=⟨_,rfl⟩
    rw [← hnnd] at hnn
    rw [← hnnd]
    clear hnnd hv1
    replace hS:=hS.mono (show T+3≤T+6 by omega)
    obtain ⟨w5,hw5⟩:∃ w5,w5=w4:=⟨_,rfl⟩
    subst hw5
    have hCo:=empty_n w5 122 3 w5.heap.size (Nat.le_refl _)
    have hWo:=(Went.refl p w5).alloc (.cells #[] 122)
    have hSo:=hS.alloc (.cells #[] 122)
    have hpo:p<(w5.alloc (.cells #[] 122)).heap.size:=by simp;omega
    have hCdo:=hC.below ((Below.refl p w5).alloc (Nat.le_of_lt hpl) (.cells #[] 122))
    go_wp2
    go_loopw [6,7] (fun sv si wi=>∃ (i:Nat) (xs:List I3),i≤nn∧si=.int .i64 i∧xs.length=i∧Hid (okTo nn xs)∧wi.ownsRow w5.heap.size 122 3 sv i (flat xs)∧Src wi p (.slice a n cap) (T+6+i*9)∧Code wi p a n cap∧p<wi.heap.size∧Went p w5 wi) (fun _ si _=>nn - (intOf si).toNat)
    case atStart=>exact ⟨0,[],by omega,rfl,rfl,(fun i hi=>by simp at hi),hCo,hSo,hCdo,hpo,hWo⟩
    case round =>
     clear hCo hWo hSo hpo hCdo
     obtain ⟨i,xs,hin,rfl,hxl,hxo,hr,hSi,hCi,hpi,hWi⟩:=hrel
     by_cases him:i<nn
     ·have him2:(i:Int)<(nn:Int):=by omega
      go_wp2_with fail
      refine (instr_any p (T+6+i*9) a n cap i nn _ hSi hCi (by omega) him hnn).mono ?_
      rintro e w6 ⟨⟨x,⟨hx1,hx2⟩,rfl⟩,hS6,hW6⟩
      have hxo2:Hid (okTo nn (xs++[x])):=okTo_snoc hxo.out hx1 (by rw [hxl];exact hx2)
      replace hr:=owns_wn hr hW6 hpl
      replace hCi:=hCi.went hW6 (Nat.le_of_lt hpi)
      replace hpi:=Nat.lt_of_lt_of_le hpi hW6.size
      replace hWi:=hWi.trans hW6
      have hbs6:=hWi.size
      clear hSi hW6 hx1 hx2 hxo
      have HXL:Hid (xs.length=i):=hxl
      clear hxl
      obtain ⟨x0,x1,x2⟩:=x
      unfold I3.val
      go_wp2_with (at_builtin;refine wpList_append_own _ rfl _ _ 91 rfl w5.heap.size 122 i0 (.agg #[.int .i64 0,.int .i64 0,.int .i64 0]) 3 24 Tryz.underlying91 hi hz0 hz1 hz2 rfl (by decide) _ _ _ rfl (hr.alloc _) ⟨w6.heap.size,0,none⟩ 1 1 [.int .i64 x0,.int .i64 x1,.int .i64 x2] rfl rfl (cell_three_new _ _ _ _ _) (three_i64 _ _ _) ?c3 ?c4 ?c5 ?_)
      case c3=>unfold maxLen;omega
      case c4=>omega
      case c5=>simp;omega
      intro v7 w7 hown7 hgrow7 _
      have hr7:w7.ownsRow w5.heap.size 122 3 v7 (i+1) (flat (xs++[(x0,x1,x2)])):=by rw [flat_snoc];exact hown7
      have hW7:Went p w5 w7:=(hWi.alloc (.cells #[.int .i64 x0,.int .i64 x1,.int .i64 x2] 122)).grown hgrow7 (fun j hj=>(hr.lt _ hj).1)
      have hS7:=((hS6.alloc (.cells #[.int .i64 x0,.int .i64 x1,.int .i64 x2] 122)).grown hgrow7 (fun k e=>by have:=(hr.lt k e).1;omega)).mono (show T+6+i*9+9≤T+6+(i+1)*9 by omega)
      have hC7:=hCi.below ((((Below.refl p w6).alloc (Nat.le_of_lt hpi) (.cells #[.int .i64 x0,.int .i64 x1,.int .i64 x2] 122))).grown hgrow7 (by simp;omega) (fun j hj=>by have:=(hr.lt j hj).1;omega))
      have hp7:p<w7.heap.size:=by have:=hgrow7.size;simp at this;omega
      clear hown7 hgrow7 hr hWi hS6 hCi hpi
      go_wp2
      go_roundw
      case rel=>exact ⟨i+1,xs++[(x0,x1,x2)],by omega,by go_num,by simp [HXL.out],hxo2,hr7,hS7,hC7,hp7,hW7⟩
      case measure=>simp [intOf];omega
     ·obtain rfl:i=nn:=by omega
      have hcok:codeOk xs=true:=codeOk_of (by omega) (by rw [hxl];exact hxo.out)
      have hok2:Hid (GoodD (done++[xs])):=GoodD.snoc hok.out hcok (by rw [hdl,hxl];unfold capT;rw [if_neg HK3.out];exact hnn)
      obtain ⟨aC,capC,hv⟩:∃ aC capC,u6=.slice aC i capC:=by
       rcases hr.2 with ⟨hv,h0⟩ | ⟨g,cp,cur,hv,_⟩
       ·exact ⟨none,0,by rw [h0];exact hv⟩
       ·exact ⟨_,cp,hv⟩
      subst hv
      have hlow:∀ t x,t<k→(vs.getD t undef).ownBlock=some x→x<w5.heap.size:=fun t x ht hx=>((hR.1 t ht).lt x hx).2
      have hw5B:w.heap.size≤w5.heap.size:=hWt.size
      have hR':=hR.went hWi hpB
      have hV':=owns_wn hV hWi hpB
      have hX':=owns_wn hX hWi hpB
      have hRr':=owns_wn hRr hWi hpB
      have hWt':=hWt.trans hWi
      have hcX:wr.cell? ⟨X,0,none⟩=some (.slice aV k capV):=by simpa using hX'.cellAt 0 (by omega)
      have hbs8:=hWt'.size
      clear hR hV hX hRr hWt hWi hS hC hpl hok hxo hcok
      go_wp2_with (at_builtin;refine wpList_append_own _ rfl _ _ 23 rfl w.heap.size 91 j0 (.slice none 0 0) 1 24 Tryz.underlying23 hj hy0 hy1 hy2 rfl (by decide) _ _ _ rfl (hV'.alloc _) ⟨wr.heap.size,0,none⟩ 1 1 [.slice aC i capC] rfl rfl (one_cell_v _ _ _) (one_slv _ _ _) ?c3 ?c4 ?c5 ?_)
      case c3=>unfold maxLen;omega
      case c4=>omega
      case c5=>simp;omega
      intro v8 w8 hown8 hgrow8 _
      have hA:=hr.alloc (.cells #[.slice aC i capC] 91)
      have hV2:=hV'.alloc (.cells #[.slice aC i capC] 91)
      have hC4:=hA.kept hgrow8 (owns_ne hA hV2 (by decide))
      have hR4:RowsOwn w8 w.heap.size k vs done:=⟨fun t ht=>((hR'.1 t ht).alloc _).kept hgrow8 (owns_ne ((hR'.1 t ht).alloc _) hV2 (by decide)),hR'.2⟩
      have hX4:=(hX'.alloc (.cells #[.slice aC i capC] 91)).kept hgrow8 (owns_ne (hX'.alloc _) hV2 (by decide))
      have hRr4:=(hRr'.alloc (.cells #[.slice aC i capC] 91)).kept hgrow8 (owns_ne (hRr'.alloc _) hV2 (by decide))
      have hW4:Went p w w8:=(hWt'.alloc (.cells #[.slice aC i capC] 91)).grown hgrow8 (fun j hj=>(hV'.lt _ hj).1)
      have hS4:=(hSi.alloc (.cells #[.slice aC i capC] 91)).grown hgrow8 (fun j e=>by have:=(hV'.lt j e).1;omega)
      have hCd4:=hCi.below (((Below.refl p wr).alloc (Nat.le_of_lt hpi) (.cells #[.slice aC i capC] 91)).grown hgrow8 (by simp;omega) (fun j hj=>by have:=(hV'.lt j hj).1;omega))
      have hp4:p<w8.heap.size:=by have:=hgrow8.size;simp at this;omega
      clear hA hV2 hV' hR' hX' hRr' hWt' hgrow8 hr hcX hSi hCi hpi
      obtain ⟨aW,capW,hv4⟩:∃ aW capW,v8=.slice aW (k+1) capW:=by
       rcases hown8.2 with ⟨hv,h0⟩ | ⟨g,cp,cur,hv,_⟩
       ·omega
       ·exact ⟨_,cp,hv⟩
      subst hv4
      have hlv:vs.length=k:=by have:=hown8.1;simp at this;omega
      have hpush:=hR4.push' (s0:=w5.heap.size) hlv hdl hlow (r:=xs) (sv:=.slice aC i capC) (by rw [hxl];exact hC4) hw5B
      have fX:=hX4.frozenAt 0
      have cX:w8.cell? ⟨X,0,none⟩=some (.slice aV k capV):=by simpa using hX4.cellAt 0 (by omega)
      have hX5:=(hX4.stored 0 (.slice aW (k+1) capW)).1
      have hV5:(w8.setCell ⟨X,0,none⟩ (.slice aW (k+1) capW)).ownsRow w.heap.size 91 1 (.slice aW (k+1) capW) (k+1) (vs++[.slice aC i capC]):=ownsRow_setCell_other hown8 (ne_block hown8 hX4 (by decide)) _
      have hR5:RowsOwn (w8.setCell ⟨X,0,none⟩ (.slice aW (k+1) capW)) w.heap.size (k+1) (vs++[.slice aC i capC]) (done++[xs]):=⟨fun t ht=>ownsRow_setCell_other (hpush.1 t ht) (ne_block (hpush.1 t ht) hX4 (by decide)) _,hpush.2⟩
      have hRr5:(w8.setCell ⟨X,0,none⟩ (.slice aW (k+1) capW)).ownsRow w.heap.size 25 1 (.slice (some ⟨w.heap.size,0,none⟩) 1 1) 1 [.slice none 0 0]:=ownsRow_setCell_other hRr4 (by simp [Value.ownBlock];omega) _
      have g5:=grownBy_set w8 X 0 (.slice aW (k+1) capW)
      have hW5:=hW4.grown g5 (fun j e=>by cases e;omega)
      have hS5:=hS4.grown g5 (fun j e=>by cases e;omega)
      have hC5:=hCd4.below (grown_below g5 (show p≤X by omega) (Nat.le_of_lt hp4))
      have hp5:p<(w8.setCell ⟨X,0,none⟩ (.slice aW (k+1) capW)).heap.size:=Nat.lt_of_lt_of_le hp4 g5.size
      simp only [List.set_cons_zero] at hX5
      clear hpush hX4 hown8 hR4 hRr4 hC4 hlow g5 hW4 hS4 hCd4 hp4
      have hdl2:(done++[xs]).length=k+1:=by simp [hdl]
      generalize done++[xs]=done2 at hok2 hR5 hdl2
      generalize vs++[.slice aC i capC]=vs2 at hV5 hR5
      go_wp2
      go_roundw
      case rel=>exact ⟨k+1,T+6+i*9,done2,vs2,aW,capW,by omega,by go_num,by omega,hdl2,hok2,hR5,hV5,hX5,hRr5,hS5,hC5,hp5,hW5⟩
      case measure=>simp [intOf];omega
  ·obtain rfl:k=3:=by omega
   have hp3:ProgS done:=⟨progOk_of hdl hok.out.1,GoodD.small hok.out hdl⟩
   have HP:Hid (ProgS done):=hp3
   have hcX:wr.cell? ⟨X,0,none⟩=some (.slice aV 3 capV):=by simpa using hX.cellAt 0 (by omega)
   have kR:wr.cell? ⟨w.heap.size,0,none⟩=some (.slice none 0 0):=by simpa using hRr.cellAt 0 (by omega)
   have fR:=hRr.frozenAt 0
   have hOP:OwnProg (wr.setCell ⟨w.heap.size,0,none⟩ (.slice aV 3 capV)) w.heap.size (.slice aV 3 capV) done:=⟨vs,by rw [hdl];exact ownsRow_setCell_other hV (ne_block hV hRr (by decide)) _,by have:=hV.1;omega,fun t ht=>ownsRow_setCell_other (hR.1 t (by omega)) (ne_block (hR.1 t (by omega)) hRr (by decide)) _,fun t t' ht ht'=>hR.2 t t' (by omega) (by omega)⟩
   have g9:=grownBy_set wr w.heap.size 0 (.slice aV 3 capV)
   have hb9:Went p w (wr.setCell ⟨w.heap.size,0,none⟩ (.slice aV 3 capV)):=hWt.grown g9 (fun k e=>by cases e;exact Nat.le_refl _)
   have k3:(wr.setCell ⟨w.heap.size,0,none⟩ (.slice aV 3 capV)).cell? ⟨w.heap.size,0,none⟩=some (.slice aV 3 capV):=World.cell?_setCell_same' _ _ _ (by rw [kR];rfl)
   clear hRr hR hV hX hS hC hWt g9 hp3 hok
   go_wp2
   clear kR fR hcX
   generalize wr.setCell ⟨w.heap.size,0,none⟩ (.slice aV 3 capV)=w9 at hb9 k3 hOP
   refine bodyPost_ret (by simp [results,Tryz.results45,go_sem,k3];try rfl) rfl ?_
   exact ⟨⟨_,done,HP.out,rfl,hOP⟩,hb9⟩
end Go.Proofs.YtgmhhegckcionaaGreatDoor
