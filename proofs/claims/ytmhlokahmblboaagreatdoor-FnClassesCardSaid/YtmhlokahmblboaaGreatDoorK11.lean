/-
  Joined: DrawQ, MachI, VmI, VmOKI, CopyG.
-/
import Derived.Laws.CopyOwn
import Derived.Laws.Tables
import Derived.Test.YtmhlokahmblboaaGreatDoorK10

namespace Go.Proofs.YtmhlokahmblboaaGreatDoor
set_option maxRecDepth 100000
set_option maxHeartbeats 16000000
open Go.RowKit
set_option linter.unusedVariables false
set_option linter.unusedSimpArgs false

def GO (t:Nat):Nat:=if t=2 then 2 else 3
def WT (done:List (List I3)):Prop:=(∀ r ∈ done,ZN r=true)∧∀ t r,done[t]?=some r→r.length≤GO t
theorem WT.nil:WT []:=⟨(fun r hr=>by cases hr),(fun t r h=>by simp at h)⟩
theorem WT.snoc {done:List (List I3)} {xs:List I3} (h:WT done) (h1:ZN xs=true) (h2:xs.length≤GO done.length):WT (done++[xs]):=by
 refine ⟨fun r hr=>?_,fun t r hr=>?_⟩
 ·rcases List.mem_append.1 hr with h' | h'
  ·exact h.1 r h'
  simp at h';subst h';exact h1
 by_cases ht:t<done.length
 ·rw [List.getElem?_append_left ht] at hr
  exact h.2 t r hr
 rw [List.getElem?_append_right (by omega)] at hr
 have hl:=(List.getElem?_eq_some_iff.1 hr).1
 simp at hl
 have e:t=done.length:=by omega
 subst e
 simp at hr
 subst hr
 exact h2
def JJ (rows:List (List I3)):Prop:=(Yn rows 0).length≤3∧(Yn rows 1).length≤3∧(Yn rows 2).length≤2
theorem WT.small {rows:List (List I3)} (h:WT rows) (hl:rows.length=3):JJ rows:=by
 have hk:∀ k,k<3→(Yn rows k).length≤GO k:=fun k hk=>h.2 k _ (by unfold Yn;rw [List.getD,List.getElem?_eq_getElem (show k<rows.length by omega)];rfl)
 exact ⟨hk 0 (by decide),hk 1 (by decide),hk 2 (by decide)⟩
def Te (rows:List (List I3)):Prop:=Zn rows=true∧JJ rows

theorem Qt (p:Nat) (a:Option Addr) (n cap:Nat) (w:World) (hS:Src w p (.slice a n cap) 0) (hC:UB w p a n cap) :
  Calls Tryz.prog 64 #[.pointer (some ⟨p,0,none⟩)] w fun e w'=>(∃ (v:Value) (rows:List (List I3)),Te rows∧e=.returned (.agg #[v])∧YU w' w.heap.size v rows)∧Yy p w w':=by
 obtain ⟨i0,hi,hz0,hz1,hz2⟩:=info_parts RG
 obtain ⟨j0,hj,hy0,hy1,hy2⟩:=info_parts Nt
 have hpl:=hS.lt
 have hpB:p<w.heap.size:=hS.lt
 go_enter Tryz.func64,Tryz.ntmps64
 go_wp2_with fail
 have hRr:(((w.alloc (.cells #[.slice none 0 0] 25)).alloc (.cells #[] 62)).alloc (.cells #[.slice (some ⟨w.heap.size+1,0,none⟩) 0 0] 25)).ownsRow w.heap.size 25 1 (.slice (some ⟨w.heap.size,0,none⟩) 1 1) 1 [.slice none 0 0]:=((JM w (.slice none 0 0) 25 w.heap.size (Nat.le_refl _)).alloc _).alloc _
 have hV:(((w.alloc (.cells #[.slice none 0 0] 25)).alloc (.cells #[] 62)).alloc (.cells #[.slice (some ⟨w.heap.size+1,0,none⟩) 0 0] 25)).ownsRow w.heap.size 62 1 (.slice (some ⟨w.heap.size+1,0,none⟩) 0 0) 0 []:=by
  have h9:=(Px (w.alloc (.cells #[.slice none 0 0] 25)) 62 1 w.heap.size (by simp)).alloc (.cells #[.slice (some ⟨w.heap.size+1,0,none⟩) 0 0] 25)
  simp only [World.size_alloc] at h9
  exact h9
 have hX:(((w.alloc (.cells #[.slice none 0 0] 25)).alloc (.cells #[] 62)).alloc (.cells #[.slice (some ⟨w.heap.size+1,0,none⟩) 0 0] 25)).ownsRow w.heap.size 25 1 (.slice (some ⟨w.heap.size+1+1,0,none⟩) 1 1) 1 [.slice (some ⟨w.heap.size+1,0,none⟩) 0 0]:=by
  have h9:=JM ((w.alloc (.cells #[.slice none 0 0] 25)).alloc (.cells #[] 62)) (.slice (some ⟨w.heap.size+1,0,none⟩) 0 0) 25 w.heap.size (by simp;omega)
  simp only [World.size_alloc] at h9
  exact h9
 have hWt:Yy p w (((w.alloc (.cells #[.slice none 0 0] 25)).alloc (.cells #[] 62)).alloc (.cells #[.slice (some ⟨w.heap.size+1,0,none⟩) 0 0] 25)):=(((Yy.refl p w).alloc _).alloc _).alloc _
 replace hC:=hC.below (((hWt.below (Nat.le_of_lt hpl))))
 replace hS:=((hS.alloc (.cells #[.slice none 0 0] 25)).alloc (.cells #[] 62)).alloc (.cells #[.slice (some ⟨w.heap.size+1,0,none⟩) 0 0] 25)
 replace hpl:p<(((w.alloc (.cells #[.slice none 0 0] 25)).alloc (.cells #[] 62)).alloc (.cells #[.slice (some ⟨w.heap.size+1,0,none⟩) 0 0] 25)).heap.size:=by simp;omega
 have hXw:w.heap.size<w.heap.size+1+1:=by omega
 generalize (((w.alloc (.cells #[.slice none 0 0] 25)).alloc (.cells #[] 62)).alloc (.cells #[.slice (some ⟨w.heap.size+1,0,none⟩) 0 0] 25))=w3 at hRr hV hX hWt hC hS hpl
 generalize w.heap.size+1+1=X at hX hXw
 generalize some (Addr.mk (w.heap.size+1) 0 none)=aV0 at hV hX
 go_loopw [4] (fun si wr=>∃ (k T:Nat) (done:List (List I3)) (vs:List Value) (aV:Option Addr) (capV:Nat),k≤3∧si=.int .i64 k∧T≤k*100∧done.length=k∧Hid (WT done) ∧
   XN wr w.heap.size k vs done∧wr.ownsRow w.heap.size 62 1 (.slice aV k capV) k vs∧wr.ownsRow w.heap.size 25 1 (.slice (some ⟨X,0,none⟩) 1 1) 1 [.slice aV k capV]∧wr.ownsRow w.heap.size 25 1 (.slice (some ⟨w.heap.size,0,none⟩) 1 1) 1 [.slice none 0 0]∧Src wr p (.slice a n cap) T∧UB wr p a n cap∧p<wr.heap.size∧Yy p w wr) (fun si _=>3 - (intOf si).toNat)
 case atStart=>exact ⟨0,0,[],[],aV0,0,by omega,rfl,by omega,rfl,WT.nil,⟨fun t ht=>by omega,fun t _ ht=>by omega⟩,hV,hX,hRr,hS,hC,hpl,hWt⟩
 case round =>
  clear hRr hV hX hWt hC hS hpl
  obtain ⟨k,T,done,vs,aV,capV,hk,rfl,hT,hdl,hok,hR,hV,hX,hRr,hS,hC,hpl,hWt⟩:=hrel
  by_cases hlt:k<3
  ·have hlt2:(k:Int)<3:=by omega
   have hk0:(0:Int)≤(k:Int):=by omega
   go_wp2_with fail
   refine (Yp p T a n cap 4 _ hS hC (by omega) (by omega)).mono ?_
   rintro e w4 ⟨⟨v1,hv1,rfl⟩,hSn,hWn⟩
   replace hS:=hSn
   replace hR:=hR.went hWn hpB
   replace hV:=ZB hV hWn hpB
   replace hX:=ZB hX hWn hpB
   replace hRr:=ZB hRr hWn hpB
   replace hC:=hC.went hWn (Nat.le_of_lt hpl)
   replace hpl:=Nat.lt_of_lt_of_le hpl hWn.size
   replace hWt:=hWt.trans hWn
   clear hSn hWn
   by_cases hk2:k=2
   ·have hk2':((k:Int) == 2)=true:=by subst hk2;rfl
    go_wp2_with fail
    refine (Yp p (T+3) a n cap 3 _ hS hC (by omega) (by omega)).mono ?_
    rintro e w5 ⟨⟨v2,hv2,rfl⟩,hSn,hWn⟩
    replace hS:=hSn
    replace hR:=hR.went hWn hpB
    replace hV:=ZB hV hWn hpB
    replace hX:=ZB hX hWn hpB
    replace hRr:=ZB hRr hWn hpB
    replace hC:=hC.went hWn (Nat.le_of_lt hpl)
    replace hpl:=Nat.lt_of_lt_of_le hpl hWn.size
    replace hWt:=hWt.trans hWn
    clear hSn hWn
    have hnn:v2≤3:=by omega
    have hn2:v2≤2:=by omega
    obtain ⟨nn,hnnd⟩:∃ nn:Nat,nn=v2:=⟨_,rfl⟩
    rw [← hnnd] at hnn hn2
    rw [← hnnd]
    have HK2:Hid (k=2):=hk2
    clear hnnd hv2 hv1 hk2 hk2'
    replace hS:=hS.mono (show T+3+3≤T+6 by omega)
    have hCo:=Px w5 122 3 w5.heap.size (Nat.le_refl _)
    have hWo:=(Yy.refl p w5).alloc (.cells #[] 122)
    have hSo:=hS.alloc (.cells #[] 122)
    have hpo:p<(w5.alloc (.cells #[] 122)).heap.size:=by simp;omega
    have hCdo:=hC.below ((Below.refl p w5).alloc (Nat.le_of_lt hpl) (.cells #[] 122))
    go_wp2
    go_loopw [6,7] (fun sv si wi=>∃ (i:Nat) (xs:List I3),i≤nn∧si=.int .i64 i∧xs.length=i∧Hid (MP nn xs)∧wi.ownsRow w5.heap.size 122 3 sv i (Zr xs)∧Src wi p (.slice a n cap) (T+6+i*9)∧UB wi p a n cap∧p<wi.heap.size∧Yy p w5 wi) (fun _ si _=>nn - (intOf si).toNat)
    case atStart=>exact ⟨0,[],by omega,rfl,rfl,(fun i hi=>by simp at hi),hCo,hSo,hCdo,hpo,hWo⟩
    case round =>
     clear hCo hWo hSo hpo hCdo
     obtain ⟨i,xs,hin,rfl,hxl,hxo,hr,hSi,hCi,hpi,hWi⟩:=hrel
     by_cases him:i<nn
     ·have him2:(i:Int)<(nn:Int):=by omega
      go_wp2_with fail
      refine (QK p (T+6+i*9) a n cap i nn _ hSi hCi (by omega) him hnn).mono ?_
      rintro e w6 ⟨⟨x,⟨hx1,hx2⟩,rfl⟩,hS6,hW6⟩
      have hxo2:Hid (MP nn (xs++[x])):=QW hxo.out hx1 (by rw [hxl];exact hx2)
      replace hr:=ZB hr hW6 hpl
      replace hCi:=hCi.went hW6 (Nat.le_of_lt hpi)
      replace hpi:=Nat.lt_of_lt_of_le hpi hW6.size
      replace hWi:=hWi.trans hW6
      have hbs6:=hWi.size
      clear hSi hW6 hx1 hx2 hxo
      have HXL:Hid (xs.length=i):=hxl
      clear hxl
      obtain ⟨x0,x1,x2⟩:=x
      unfold I3.val
      go_wp2_with (at_builtin;refine wpList_append_own _ rfl _ _ 62 rfl w5.heap.size 122 i0 (.agg #[.int .i64 0,.int .i64 0,.int .i64 0]) 3 24 Tryz.underlying62 hi hz0 hz1 hz2 rfl (by decide) _ _ _ rfl (hr.alloc _) ⟨w6.heap.size,0,none⟩ 1 1 [.int .i64 x0,.int .i64 x1,.int .i64 x2] rfl rfl (WD _ _ _ _ _) (Pf _ _ _) ?c3 ?c4 ?c5 ?_)
      case c3=>unfold maxLen;omega
      case c4=>omega
      case c5=>simp;omega
      intro v7 w7 hown7 hgrow7 _
      have hr7:w7.ownsRow w5.heap.size 122 3 v7 (i+1) (Zr (xs++[(x0,x1,x2)])):=by rw [QH];exact hown7
      have hW7:Yy p w5 w7:=(hWi.alloc (.cells #[.int .i64 x0,.int .i64 x1,.int .i64 x2] 122)).grown hgrow7 (fun j hj=>(hr.lt _ hj).1)
      have hS7:=((hS6.alloc (.cells #[.int .i64 x0,.int .i64 x1,.int .i64 x2] 122)).grown hgrow7 (fun k e=>by have:=(hr.lt k e).1;omega)).mono (show T+6+i*9+9≤T+6+(i+1)*9 by omega)
      have hC7:=hCi.below ((((Below.refl p w6).alloc (Nat.le_of_lt hpi) (.cells #[.int .i64 x0,.int .i64 x1,.int .i64 x2] 122))).grown hgrow7 (by simp;omega) (fun j hj=>by have:=(hr.lt j hj).1;omega))
      have hp7:p<w7.heap.size:=by have:=hgrow7.size;simp at this;omega
      clear hown7 hgrow7 hr hWi hS6 hCi hpi
      go_wp2
      go_roundw
      case rel=>exact ⟨i+1,xs++[(x0,x1,x2)],by omega,by go_num,by simp [HXL.out],hxo2,hr7,hS7,hC7,hp7,hW7⟩
      case measure=>simp [intOf];omega
     obtain rfl:i=nn:=by omega
     have hcok:ZN xs=true:=QB (by omega) (by rw [hxl];exact hxo.out)
     have hok2:Hid (WT (done++[xs])):=WT.snoc hok.out hcok (by rw [hdl,HK2.out,hxl];exact hn2)
     obtain ⟨aC,capC,hv⟩:∃ aC capC,u6=.slice aC i capC:=by
      rcases hr.2 with ⟨hv,h0⟩ | ⟨g,cp,cur,hv,_⟩
      ·exact ⟨none,0,by rw [h0];exact hv⟩
      exact ⟨_,cp,hv⟩
     subst hv
     have hlow:∀ t x,t<k→(vs.getD t undef).ownBlock=some x→x<w5.heap.size:=fun t x ht hx=>((hR.1 t ht).lt x hx).2
     have hw5B:w.heap.size≤w5.heap.size:=hWt.size
     have hR':=hR.went hWi hpB
     have hV':=ZB hV hWi hpB
     have hX':=ZB hX hWi hpB
     have hRr':=ZB hRr hWi hpB
     have hWt':=hWt.trans hWi
     have hcX:wr.cell? ⟨X,0,none⟩=some (.slice aV k capV):=by simpa using hX'.cellAt 0 (by omega)
     have hbs8:=hWt'.size
     clear hR hV hX hRr hWt hWi hS hC hpl hok hxo hcok
     go_wp2_with (at_builtin;refine wpList_append_own _ rfl _ _ 23 rfl w.heap.size 62 j0 (.slice none 0 0) 1 24 Tryz.underlying23 hj hy0 hy1 hy2 rfl (by decide) _ _ _ rfl (hV'.alloc _) ⟨wr.heap.size,0,none⟩ 1 1 [.slice aC i capC] rfl rfl (RZ _ _ _) (Lx _ _ _) ?c3 ?c4 ?c5 ?_)
     case c3=>unfold maxLen;omega
     case c4=>omega
     case c5=>simp;omega
     intro v8 w8 hown8 hgrow8 _
     have hA:=hr.alloc (.cells #[.slice aC i capC] 62)
     have hV2:=hV'.alloc (.cells #[.slice aC i capC] 62)
     have hC4:=hA.kept hgrow8 (Yh hA hV2 (by decide))
     have hR4:XN w8 w.heap.size k vs done:=⟨fun t ht=>((hR'.1 t ht).alloc _).kept hgrow8 (Yh ((hR'.1 t ht).alloc _) hV2 (by decide)),hR'.2⟩
     have hX4:=(hX'.alloc (.cells #[.slice aC i capC] 62)).kept hgrow8 (Yh (hX'.alloc _) hV2 (by decide))
     have hRr4:=(hRr'.alloc (.cells #[.slice aC i capC] 62)).kept hgrow8 (Yh (hRr'.alloc _) hV2 (by decide))
     have hW4:Yy p w w8:=(hWt'.alloc (.cells #[.slice aC i capC] 62)).grown hgrow8 (fun j hj=>(hV'.lt _ hj).1)
     have hS4:=(hSi.alloc (.cells #[.slice aC i capC] 62)).grown hgrow8 (fun j e=>by have:=(hV'.lt j e).1;omega)
     have hCd4:=hCi.below (((Below.refl p wr).alloc (Nat.le_of_lt hpi) (.cells #[.slice aC i capC] 62)).grown hgrow8 (by simp;omega) (fun j hj=>by have:=(hV'.lt j hj).1;omega))
     have hp4:p<w8.heap.size:=by have:=hgrow8.size;simp at this;omega
     clear hA hV2 hV' hR' hX' hRr' hWt' hgrow8 hr hcX hSi hCi hpi
     obtain ⟨aW,capW,hv4⟩:∃ aW capW,v8=.slice aW (k+1) capW:=by
      rcases hown8.2 with ⟨hv,h0⟩ | ⟨g,cp,cur,hv,_⟩
      ·omega
      exact ⟨_,cp,hv⟩
     subst hv4
     have hlv:vs.length=k:=by have:=hown8.1;simp at this;omega
     have hpush:=hR4.push' (s0:=w5.heap.size) hlv hdl hlow (r:=xs) (sv:=.slice aC i capC) (by rw [hxl];exact hC4) hw5B
     have fX:=hX4.frozenAt 0
     have cX:w8.cell? ⟨X,0,none⟩=some (.slice aV k capV):=by simpa using hX4.cellAt 0 (by omega)
     have hX5:=(hX4.stored 0 (.slice aW (k+1) capW)).1
     have hV5:(w8.setCell ⟨X,0,none⟩ (.slice aW (k+1) capW)).ownsRow w.heap.size 62 1 (.slice aW (k+1) capW) (k+1) (vs++[.slice aC i capC]):=ownsRow_setCell_other hown8 (Vr hown8 hX4 (by decide)) _
     have hR5:XN (w8.setCell ⟨X,0,none⟩ (.slice aW (k+1) capW)) w.heap.size (k+1) (vs++[.slice aC i capC]) (done++[xs]):=⟨fun t ht=>ownsRow_setCell_other (hpush.1 t ht) (Vr (hpush.1 t ht) hX4 (by decide)) _,hpush.2⟩
     have hRr5:(w8.setCell ⟨X,0,none⟩ (.slice aW (k+1) capW)).ownsRow w.heap.size 25 1 (.slice (some ⟨w.heap.size,0,none⟩) 1 1) 1 [.slice none 0 0]:=ownsRow_setCell_other hRr4 (by simp [Value.ownBlock];omega) _
     have g5:=Zm w8 X 0 (.slice aW (k+1) capW)
     have hW5:=hW4.grown g5 (fun j e=>by cases e;omega)
     have hS5:=hS4.grown g5 (fun j e=>by cases e;omega)
     have hC5:=hCd4.below (ZS g5 (show p≤X by omega) (Nat.le_of_lt hp4))
     have hp5:p<(w8.setCell ⟨X,0,none⟩ (.slice aW (k+1) capW)).heap.size:=Nat.lt_of_lt_of_le hp4 g5.size
     simp only [List.set_cons_zero] at hX5
     clear hpush hX4 hown8 hR4 hRr4 hC4 hlow g5 hW4 hS4 hCd4 hp4
     have hdl2:(done++[xs]).length=k+1:=by simp [hdl]
     generalize done++[xs]=done2 at hok2 hR5 hdl2
     generalize vs++[.slice aC i capC]=vs2 at hV5 hR5
     go_wp2
     go_roundw
     case rel=>exact ⟨k+1,T+6+i*9,done2,vs2,aW,capW,by omega,(by first | go_num | (rw [HK2.out];rfl)),by omega,hdl2,hok2,hR5,hV5,hX5,hRr5,hS5,hC5,hp5,hW5⟩
     case measure=>have h9:=HK2.out;simp [intOf];omega
   have hk2':((k:Int) == 2)=false:=beq_eq_false_iff_ne.2 (by omega)
   have HK3:Hid (k≠2):=hk2
   have hnn:v1≤3:=by omega
   obtain ⟨nn,hnnd⟩:∃ nn:Nat,nn=v1:=⟨_,rfl⟩
   rw [← hnnd] at hnn
   rw [← hnnd]
   clear hnnd hv1
   replace hS:=hS.mono (show T+3≤T+6 by omega)
   obtain ⟨w5,hw5⟩:∃ w5,w5=w4:=⟨_,rfl⟩
   subst hw5
   have hCo:=Px w5 122 3 w5.heap.size (Nat.le_refl _)
   have hWo:=(Yy.refl p w5).alloc (.cells #[] 122)
   have hSo:=hS.alloc (.cells #[] 122)
   have hpo:p<(w5.alloc (.cells #[] 122)).heap.size:=by simp;omega
   have hCdo:=hC.below ((Below.refl p w5).alloc (Nat.le_of_lt hpl) (.cells #[] 122))
   go_wp2
   go_loopw [6,7] (fun sv si wi=>∃ (i:Nat) (xs:List I3),i≤nn∧si=.int .i64 i∧xs.length=i∧Hid (MP nn xs)∧wi.ownsRow w5.heap.size 122 3 sv i (Zr xs)∧Src wi p (.slice a n cap) (T+6+i*9)∧UB wi p a n cap∧p<wi.heap.size∧Yy p w5 wi) (fun _ si _=>nn - (intOf si).toNat)
   case atStart=>exact ⟨0,[],by omega,rfl,rfl,(fun i hi=>by simp at hi),hCo,hSo,hCdo,hpo,hWo⟩
   case round =>
    clear hCo hWo hSo hpo hCdo
    obtain ⟨i,xs,hin,rfl,hxl,hxo,hr,hSi,hCi,hpi,hWi⟩:=hrel
    by_cases him:i<nn
    ·have him2:(i:Int)<(nn:Int):=by omega
     go_wp2_with fail
     refine (QK p (T+6+i*9) a n cap i nn _ hSi hCi (by omega) him hnn).mono ?_
     rintro e w6 ⟨⟨x,⟨hx1,hx2⟩,rfl⟩,hS6,hW6⟩
     have hxo2:Hid (MP nn (xs++[x])):=QW hxo.out hx1 (by rw [hxl];exact hx2)
     replace hr:=ZB hr hW6 hpl
     replace hCi:=hCi.went hW6 (Nat.le_of_lt hpi)
     replace hpi:=Nat.lt_of_lt_of_le hpi hW6.size
     replace hWi:=hWi.trans hW6
     have hbs6:=hWi.size
     clear hSi hW6 hx1 hx2 hxo
     have HXL:Hid (xs.length=i):=hxl
     clear hxl
     obtain ⟨x0,x1,x2⟩:=x
     unfold I3.val
     go_wp2_with (at_builtin;refine wpList_append_own _ rfl _ _ 62 rfl w5.heap.size 122 i0 (.agg #[.int .i64 0,.int .i64 0,.int .i64 0]) 3 24 Tryz.underlying62 hi hz0 hz1 hz2 rfl (by decide) _ _ _ rfl (hr.alloc _) ⟨w6.heap.size,0,none⟩ 1 1 [.int .i64 x0,.int .i64 x1,.int .i64 x2] rfl rfl (WD _ _ _ _ _) (Pf _ _ _) ?c3 ?c4 ?c5 ?_)
     case c3=>unfold maxLen;omega
     case c4=>omega
     case c5=>simp;omega
     intro v7 w7 hown7 hgrow7 _
     have hr7:w7.ownsRow w5.heap.size 122 3 v7 (i+1) (Zr (xs++[(x0,x1,x2)])):=by rw [QH];exact hown7
     have hW7:Yy p w5 w7:=(hWi.alloc (.cells #[.int .i64 x0,.int .i64 x1,.int .i64 x2] 122)).grown hgrow7 (fun j hj=>(hr.lt _ hj).1)
     have hS7:=((hS6.alloc (.cells #[.int .i64 x0,.int .i64 x1,.int .i64 x2] 122)).grown hgrow7 (fun k e=>by have:=(hr.lt k e).1;omega)).mono (show T+6+i*9+9≤T+6+(i+1)*9 by omega)
     have hC7:=hCi.below ((((Below.refl p w6).alloc (Nat.le_of_lt hpi) (.cells #[.int .i64 x0,.int .i64 x1,.int .i64 x2] 122))).grown hgrow7 (by simp;omega) (fun j hj=>by have:=(hr.lt j hj).1;omega))
     have hp7:p<w7.heap.size:=by have:=hgrow7.size;simp at this;omega
     clear hown7 hgrow7 hr hWi hS6 hCi hpi
     go_wp2
     go_roundw
     case rel=>exact ⟨i+1,xs++[(x0,x1,x2)],by omega,by go_num,by simp [HXL.out],hxo2,hr7,hS7,hC7,hp7,hW7⟩
     case measure=>simp [intOf];omega
    obtain rfl:i=nn:=by omega
    have hcok:ZN xs=true:=QB (by omega) (by rw [hxl];exact hxo.out)
    have hok2:Hid (WT (done++[xs])):=WT.snoc hok.out hcok (by rw [hdl,hxl];unfold GO;rw [if_neg HK3.out];exact hnn)
    obtain ⟨aC,capC,hv⟩:∃ aC capC,u6=.slice aC i capC:=by
     rcases hr.2 with ⟨hv,h0⟩ | ⟨g,cp,cur,hv,_⟩
     ·exact ⟨none,0,by rw [h0];exact hv⟩
     exact ⟨_,cp,hv⟩
    subst hv
    have hlow:∀ t x,t<k→(vs.getD t undef).ownBlock=some x→x<w5.heap.size:=fun t x ht hx=>((hR.1 t ht).lt x hx).2
    have hw5B:w.heap.size≤w5.heap.size:=hWt.size
    have hR':=hR.went hWi hpB
    have hV':=ZB hV hWi hpB
    have hX':=ZB hX hWi hpB
    have hRr':=ZB hRr hWi hpB
    have hWt':=hWt.trans hWi
    have hcX:wr.cell? ⟨X,0,none⟩=some (.slice aV k capV):=by simpa using hX'.cellAt 0 (by omega)
    have hbs8:=hWt'.size
    clear hR hV hX hRr hWt hWi hS hC hpl hok hxo hcok
    go_wp2_with (at_builtin;refine wpList_append_own _ rfl _ _ 23 rfl w.heap.size 62 j0 (.slice none 0 0) 1 24 Tryz.underlying23 hj hy0 hy1 hy2 rfl (by decide) _ _ _ rfl (hV'.alloc _) ⟨wr.heap.size,0,none⟩ 1 1 [.slice aC i capC] rfl rfl (RZ _ _ _) (Lx _ _ _) ?c3 ?c4 ?c5 ?_)
    case c3=>unfold maxLen;omega
    case c4=>omega
    case c5=>simp;omega
    intro v8 w8 hown8 hgrow8 _
    have hA:=hr.alloc (.cells #[.slice aC i capC] 62)
    have hV2:=hV'.alloc (.cells #[.slice aC i capC] 62)
    have hC4:=hA.kept hgrow8 (Yh hA hV2 (by decide))
    have hR4:XN w8 w.heap.size k vs done:=⟨fun t ht=>((hR'.1 t ht).alloc _).kept hgrow8 (Yh ((hR'.1 t ht).alloc _) hV2 (by decide)),hR'.2⟩
    have hX4:=(hX'.alloc (.cells #[.slice aC i capC] 62)).kept hgrow8 (Yh (hX'.alloc _) hV2 (by decide))
    have hRr4:=(hRr'.alloc (.cells #[.slice aC i capC] 62)).kept hgrow8 (Yh (hRr'.alloc _) hV2 (by decide))
    have hW4:Yy p w w8:=(hWt'.alloc (.cells #[.slice aC i capC] 62)).grown hgrow8 (fun j hj=>(hV'.lt _ hj).1)
    have hS4:=(hSi.alloc (.cells #[.slice aC i capC] 62)).grown hgrow8 (fun j e=>by have:=(hV'.lt j e).1;omega)
    have hCd4:=hCi.below (((Below.refl p wr).alloc (Nat.le_of_lt hpi) (.cells #[.slice aC i capC] 62)).grown hgrow8 (by simp;omega) (fun j hj=>by have:=(hV'.lt j hj).1;omega))
    have hp4:p<w8.heap.size:=by have:=hgrow8.size;simp at this;omega
    clear hA hV2 hV' hR' hX' hRr' hWt' hgrow8 hr hcX hSi hCi hpi
    obtain ⟨aW,capW,hv4⟩:∃ aW capW,v8=.slice aW (k+1) capW:=by
     rcases hown8.2 with ⟨hv,h0⟩ | ⟨g,cp,cur,hv,_⟩
     ·omega
     exact ⟨_,cp,hv⟩
    subst hv4
    have hlv:vs.length=k:=by have:=hown8.1;simp at this;omega
    have hpush:=hR4.push' (s0:=w5.heap.size) hlv hdl hlow (r:=xs) (sv:=.slice aC i capC) (by rw [hxl];exact hC4) hw5B
    have fX:=hX4.frozenAt 0
    have cX:w8.cell? ⟨X,0,none⟩=some (.slice aV k capV):=by simpa using hX4.cellAt 0 (by omega)
    have hX5:=(hX4.stored 0 (.slice aW (k+1) capW)).1
    have hV5:(w8.setCell ⟨X,0,none⟩ (.slice aW (k+1) capW)).ownsRow w.heap.size 62 1 (.slice aW (k+1) capW) (k+1) (vs++[.slice aC i capC]):=ownsRow_setCell_other hown8 (Vr hown8 hX4 (by decide)) _
    have hR5:XN (w8.setCell ⟨X,0,none⟩ (.slice aW (k+1) capW)) w.heap.size (k+1) (vs++[.slice aC i capC]) (done++[xs]):=⟨fun t ht=>ownsRow_setCell_other (hpush.1 t ht) (Vr (hpush.1 t ht) hX4 (by decide)) _,hpush.2⟩
    have hRr5:(w8.setCell ⟨X,0,none⟩ (.slice aW (k+1) capW)).ownsRow w.heap.size 25 1 (.slice (some ⟨w.heap.size,0,none⟩) 1 1) 1 [.slice none 0 0]:=ownsRow_setCell_other hRr4 (by simp [Value.ownBlock];omega) _
    have g5:=Zm w8 X 0 (.slice aW (k+1) capW)
    have hW5:=hW4.grown g5 (fun j e=>by cases e;omega)
    have hS5:=hS4.grown g5 (fun j e=>by cases e;omega)
    have hC5:=hCd4.below (ZS g5 (show p≤X by omega) (Nat.le_of_lt hp4))
    have hp5:p<(w8.setCell ⟨X,0,none⟩ (.slice aW (k+1) capW)).heap.size:=Nat.lt_of_lt_of_le hp4 g5.size
    simp only [List.set_cons_zero] at hX5
    clear hpush hX4 hown8 hR4 hRr4 hC4 hlow g5 hW4 hS4 hCd4 hp4
    have hdl2:(done++[xs]).length=k+1:=by simp [hdl]
    generalize done++[xs]=done2 at hok2 hR5 hdl2
    generalize vs++[.slice aC i capC]=vs2 at hV5 hR5
    go_wp2
    go_roundw
    case rel=>exact ⟨k+1,T+6+i*9,done2,vs2,aW,capW,by omega,by go_num,by omega,hdl2,hok2,hR5,hV5,hX5,hRr5,hS5,hC5,hp5,hW5⟩
    case measure=>simp [intOf];omega
  obtain rfl:k=3:=by omega
  have hp3:Te done:=⟨K6 hdl hok.out.1,WT.small hok.out hdl⟩
  have HP:Hid (Te done):=hp3
  have hcX:wr.cell? ⟨X,0,none⟩=some (.slice aV 3 capV):=by simpa using hX.cellAt 0 (by omega)
  have kR:wr.cell? ⟨w.heap.size,0,none⟩=some (.slice none 0 0):=by simpa using hRr.cellAt 0 (by omega)
  have fR:=hRr.frozenAt 0
  have hOP:YU (wr.setCell ⟨w.heap.size,0,none⟩ (.slice aV 3 capV)) w.heap.size (.slice aV 3 capV) done:=⟨vs,by rw [hdl];exact ownsRow_setCell_other hV (Vr hV hRr (by decide)) _,by have:=hV.1;omega,fun t ht=>ownsRow_setCell_other (hR.1 t (by omega)) (Vr (hR.1 t (by omega)) hRr (by decide)) _,fun t t' ht ht'=>hR.2 t t' (by omega) (by omega)⟩
  have g9:=Zm wr w.heap.size 0 (.slice aV 3 capV)
  have hb9:Yy p w (wr.setCell ⟨w.heap.size,0,none⟩ (.slice aV 3 capV)):=hWt.grown g9 (fun k e=>by cases e;exact Nat.le_refl _)
  have k3:(wr.setCell ⟨w.heap.size,0,none⟩ (.slice aV 3 capV)).cell? ⟨w.heap.size,0,none⟩=some (.slice aV 3 capV):=World.cell?_setCell_same' _ _ _ (by rw [kR];rfl)
  clear hRr hR hV hX hS hC hWt g9 hp3 hok
  go_wp2
  clear kR fR hcX
  generalize wr.setCell ⟨w.heap.size,0,none⟩ (.slice aV 3 capV)=w9 at hb9 k3 hOP
  refine bodyPost_ret (by simp [results,Tryz.results64,go_sem,k3];try rfl) rfl ?_
  exact ⟨⟨_,done,HP.out,rfl,hOP⟩,hb9⟩


theorem Z3 {w:World} (n:Nat):Below w.heap.size w (w.drewN n):=⟨rfl,rfl,rfl,Nat.le_refl _,fun _ _=>rfl⟩

theorem S1 (g o:Nat) (a:Option Addr) (n c:Nat) (pc:Int) (w:World) (h0:w.cell? ⟨g,o,none⟩=some (.slice a n c)) (h1:w.cell? ⟨g,o+1,none⟩=some (.int .i64 pc)) :
  Calls Tryz.prog 85 #[.pointer (some ⟨g,o,none⟩)] w fun e w'=>e=.returned (.bool (decide ((n:Int)≤pc)))∧∃ d,w'=w.drewN d:=by
 obtain ⟨x,hx⟩:∃ x,x=decide ((n:Int)≤pc):=⟨_,rfl⟩
 have hd:decide ((n:Int)≤pc)=x:=hx.symm
 rw [← hx]
 clear hx
 go_enter Tryz.func85,Tryz.ntmps85
 go_wp2_with fail
 go_quiet (fail)
 go_wp2
 go_ret
 exact ⟨rfl,_,rfl⟩

theorem M9 (g k:Nat) (a:Option Addr) (n c:Nat) (pc:Int) (w:World) (hk:k<3) (h0:w.cell? ⟨g,k*4,none⟩=some (.slice a n c)) (h1:w.cell? ⟨g,k*4+1,none⟩=some (.int .i64 pc)) (hd:(n:Int)≤pc) :
  Calls Tryz.prog 86 #[.pointer (some ⟨g,0,none⟩),.int .i64 k] w fun e w'=>e=.returned (.bool false)∧Below w.heap.size w w':=by
 have kD:=S1 g (k*4) a n c pc w h0 h1
 rw [decide_eq_true hd] at kD
 have hk3:(k:Int)<3:=by omega
 go_enter Tryz.func86,Tryz.ntmps86
 go_wp2_with fail
 refine kD.mono ?_
 rintro e w1 ⟨rfl,d,rfl⟩
 go_wp2
 go_ret
 exact ⟨rfl,Z3 _⟩

theorem Lc (g k p b off:Nat) (n c:Nat) (x0 x1 x2:Int) (w:World) (hk:k<3) (hd:p<n)
  (h0:w.cell? ⟨g,k*4,none⟩=some (.slice (some ⟨b,off,none⟩) n c)) (h1:w.cell? ⟨g,k*4+1,none⟩=some (.int .i64 p)) (c0:w.cell? ⟨b,off+p*3,none⟩=some (.int .i64 x0)) (c1:w.cell? ⟨b,off+p*3+1,none⟩=some (.int .i64 x1)) (c2:w.cell? ⟨b,off+p*3+2,none⟩=some (.int .i64 x2)) (hx:x0≠5) :
  Calls Tryz.prog 86 #[.pointer (some ⟨g,0,none⟩),.int .i64 k] w fun e w'=>e=.returned (.bool false)∧Below w.heap.size w w':=by
 have kD:=S1 g (k*4) (some ⟨b,off,none⟩) n c p w h0 h1
 rw [decide_eq_false (by omega)] at kD
 have hk3:(k:Int)<3:=by omega
 have hpn:(p:Int)<(n:Int):=by omega
 go_enter Tryz.func86,Tryz.ntmps86
 go_wp2_with fail
 refine kD.mono ?_
 rintro e w1 ⟨rfl,d,rfl⟩
 clear kD
 go_wp2_with fail
 replace h0:(w.drewN d).cell? ⟨g,k*4,none⟩=some (.slice (some ⟨b,off,none⟩) n c):=h0
 replace h1:(w.drewN d).cell? ⟨g,k*4+1,none⟩=some (.int .i64 p):=h1
 replace c0:(w.drewN d).cell? ⟨b,off+p*3,none⟩=some (.int .i64 x0):=c0
 replace c1:(w.drewN d).cell? ⟨b,off+p*3+1,none⟩=some (.int .i64 x1):=c1
 replace c2:(w.drewN d).cell? ⟨b,off+p*3+2,none⟩=some (.int .i64 x2):=c2
 have bw:Below w.heap.size w (w.drewN d):=Z3 _
 generalize w.drewN d=W at *
 refine wp_region_held_drew (S:=(fun w'=>w'.cell? ⟨g,k*4,none⟩=some (.slice (some ⟨b,off,none⟩) n c)∧w'.cell? ⟨g,k*4+1,none⟩=some (.int .i64 p)∧w'.cell? ⟨b,off+p*3,none⟩=some (.int .i64 x0)∧w'.cell? ⟨b,off+p*3+1,none⟩=some (.int .i64 x1)∧w'.cell? ⟨b,off+p*3+2,none⟩=some (.int .i64 x2))) (by kernel_rfl) ⟨h0,h1,c0,c1,c2⟩ (fun hS0=>?_)
 refine tkm 0 14 (.pointer (some ⟨g,k*4,none⟩)) ?_
 refine tkm 1 15 (.pointer (some ⟨g,k*4,none⟩)) ?_
 refine tkm 2 16 (.pointer (some ⟨g,k*4,none⟩)) ?_
 refine tkm 3 17 (.slice (some ⟨b,off,none⟩) n c) ?_
 refine tkm 4 18 (.pointer (some ⟨g,k*4,none⟩)) ?_
 refine tkm 5 19 (.pointer (some ⟨g,k*4,none⟩)) ?_
 refine tkm 6 20 (.pointer (some ⟨g,k*4+1,none⟩)) ?_
 refine tkm 7 21 (.int .i64 p) ?_
 refine tkm 8 22 (.pointer (some ⟨b,off+p*3,none⟩)) ?_
 refine tkm 9 23 (.agg #[.int .i64 x0,.int .i64 x1,.int .i64 x2]) ?_
 refine tkr 10 6 (fun K hK=>?_)
 have hal:Below W.drew.heap.size W.drew (W.drew.alloc (.cells #[.int .i64 0,.int .i64 0,.int .i64 0] 122)):=by go_grown
 go_simp
 refine hK.out _ _ ?_ (fun hS1=>?_)
 ·exact ⟨Za hal _ _ hS0.1,Za hal _ _ hS0.2.1,Za hal _ _ hS0.2.2.1,Za hal _ _ hS0.2.2.2.1,Za hal _ _ hS0.2.2.2.2⟩
 clear hK
 try simp only [Act.put,tka,tkb,tkc]
 refine tkz 11 (fun K hK=>?_)
 have hal2:Below W.drew.heap.size W.drew (W.drew.alloc (.cells #[.int .i64 x0,.int .i64 x1,.int .i64 x2] 122)):=by go_grown
 go_simp
 refine hK.out _ _ ?_ (fun hS2=>?_)
 ·exact ⟨Za hal2 _ _ hS0.1,Za hal2 _ _ hS0.2.1,Za hal2 _ _ hS0.2.2.1,Za hal2 _ _ hS0.2.2.2.1,Za hal2 _ _ hS0.2.2.2.2⟩
 clear hK
 try simp only [Act.put,tka,tkb,tkc]
 refine wpAnyH_done (by kernel_rfl) ?_ _
 replace bw:Below w.heap.size w (W.alloc (.cells #[.int .i64 x0,.int .i64 x1,.int .i64 x2] 122)).drew:=Zb bw (by go_grown)
 have pX:Blk (W.alloc (.cells #[.int .i64 x0,.int .i64 x1,.int .i64 x2] 122)).drew W.heap.size 122 [.int .i64 x0,.int .i64 x1,.int .i64 x2]:=Blk.new W 122 [.int .i64 x0,.int .i64 x1,.int .i64 x2]
 have q0:=pX.cell 0
 have q1:=pX.cell 1
 simp only [List.getElem?_cons_zero,List.getElem?_cons_succ] at q0 q1
 clear hal hal2 hS0 hS1 h0 h1 c0 c1 c2 pX
 clear hS2
 have hx5:(x0 == 5)=false:=by simp [hx]
 go_wp2_with fail
 generalize (W.alloc (.cells #[.int .i64 x0,.int .i64 x1,.int .i64 x2] 122)).drew=W2 at *
 generalize W.heap.size=gx at *
 go_quiet (fail)
 have bz:Below w.heap.size w (W2.drewN nq):=Zb bw (Z3 _)
 go_wp2
 go_ret
 exact ⟨rfl,bz⟩

theorem Ld (g k p b off:Nat) (n c:Nat) (x2:Int) (q:Nat) (hv:Int) (w:World) (hk:k<3) (hd:p<n)
  (h0:w.cell? ⟨g,k*4,none⟩=some (.slice (some ⟨b,off,none⟩) n c)) (h1:w.cell? ⟨g,k*4+1,none⟩=some (.int .i64 p)) (c0:w.cell? ⟨b,off+p*3,none⟩=some (.int .i64 5)) (c1:w.cell? ⟨b,off+p*3+1,none⟩=some (.int .i64 q)) (c2:w.cell? ⟨b,off+p*3+2,none⟩=some (.int .i64 x2)) (h6:w.cell? ⟨g,16+q,none⟩=some (.int .i64 hv)) (hq:q<2) (z:Bool) (hz:z=!decide (hv=0)) :
  Calls Tryz.prog 86 #[.pointer (some ⟨g,0,none⟩),.int .i64 k] w fun e w'=>e=.returned (.bool z)∧Below w.heap.size w w':=by
 have kD:=S1 g (k*4) (some ⟨b,off,none⟩) n c p w h0 h1
 rw [decide_eq_false (by omega)] at kD
 have hk3:(k:Int)<3:=by omega
 have hpn:(p:Int)<(n:Int):=by omega
 go_enter Tryz.func86,Tryz.ntmps86
 go_wp2_with fail
 refine kD.mono ?_
 rintro e w1 ⟨rfl,d,rfl⟩
 clear kD
 go_wp2_with fail
 replace h0:(w.drewN d).cell? ⟨g,k*4,none⟩=some (.slice (some ⟨b,off,none⟩) n c):=h0
 replace h1:(w.drewN d).cell? ⟨g,k*4+1,none⟩=some (.int .i64 p):=h1
 replace c0:(w.drewN d).cell? ⟨b,off+p*3,none⟩=some (.int .i64 5):=c0
 replace c1:(w.drewN d).cell? ⟨b,off+p*3+1,none⟩=some (.int .i64 q):=c1
 replace c2:(w.drewN d).cell? ⟨b,off+p*3+2,none⟩=some (.int .i64 x2):=c2
 replace h6:(w.drewN d).cell? ⟨g,16+q,none⟩=some (.int .i64 hv):=h6
 have bw:Below w.heap.size w (w.drewN d):=Z3 _
 generalize w.drewN d=W at *
 refine wp_region_held_drew (S:=(fun w'=>w'.cell? ⟨g,k*4,none⟩=some (.slice (some ⟨b,off,none⟩) n c)∧w'.cell? ⟨g,k*4+1,none⟩=some (.int .i64 p)∧w'.cell? ⟨b,off+p*3,none⟩=some (.int .i64 5)∧w'.cell? ⟨b,off+p*3+1,none⟩=some (.int .i64 q)∧w'.cell? ⟨b,off+p*3+2,none⟩=some (.int .i64 x2)∧w'.cell? ⟨g,16+q,none⟩=some (.int .i64 hv))) (by kernel_rfl) ⟨h0,h1,c0,c1,c2,h6⟩ (fun hS0=>?_)
 refine tkm 0 14 (.pointer (some ⟨g,k*4,none⟩)) ?_
 refine tkm 1 15 (.pointer (some ⟨g,k*4,none⟩)) ?_
 refine tkm 2 16 (.pointer (some ⟨g,k*4,none⟩)) ?_
 refine tkm 3 17 (.slice (some ⟨b,off,none⟩) n c) ?_
 refine tkm 4 18 (.pointer (some ⟨g,k*4,none⟩)) ?_
 refine tkm 5 19 (.pointer (some ⟨g,k*4,none⟩)) ?_
 refine tkm 6 20 (.pointer (some ⟨g,k*4+1,none⟩)) ?_
 refine tkm 7 21 (.int .i64 p) ?_
 refine tkm 8 22 (.pointer (some ⟨b,off+p*3,none⟩)) ?_
 refine tkm 9 23 (.agg #[.int .i64 5,.int .i64 q,.int .i64 x2]) ?_
 refine tkr 10 6 (fun K hK=>?_)
 have hal:Below W.drew.heap.size W.drew (W.drew.alloc (.cells #[.int .i64 0,.int .i64 0,.int .i64 0] 122)):=by go_grown
 go_simp
 refine hK.out _ _ ?_ (fun hS1=>?_)
 ·exact ⟨Za hal _ _ hS0.1,Za hal _ _ hS0.2.1,Za hal _ _ hS0.2.2.1,Za hal _ _ hS0.2.2.2.1,Za hal _ _ hS0.2.2.2.2.1,Za hal _ _ hS0.2.2.2.2.2⟩
 clear hK
 try simp only [Act.put,tka,tkb,tkc]
 refine tkz 11 (fun K hK=>?_)
 have hal2:Below W.drew.heap.size W.drew (W.drew.alloc (.cells #[.int .i64 5,.int .i64 q,.int .i64 x2] 122)):=by go_grown
 go_simp
 refine hK.out _ _ ?_ (fun hS2=>?_)
 ·exact ⟨Za hal2 _ _ hS0.1,Za hal2 _ _ hS0.2.1,Za hal2 _ _ hS0.2.2.1,Za hal2 _ _ hS0.2.2.2.1,Za hal2 _ _ hS0.2.2.2.2.1,Za hal2 _ _ hS0.2.2.2.2.2⟩
 clear hK
 try simp only [Act.put,tka,tkb,tkc]
 refine wpAnyH_done (by kernel_rfl) ?_ _
 replace bw:Below w.heap.size w (W.alloc (.cells #[.int .i64 5,.int .i64 q,.int .i64 x2] 122)).drew:=Zb bw (by go_grown)
 have pX:Blk (W.alloc (.cells #[.int .i64 5,.int .i64 q,.int .i64 x2] 122)).drew W.heap.size 122 [.int .i64 5,.int .i64 q,.int .i64 x2]:=Blk.new W 122 [.int .i64 5,.int .i64 q,.int .i64 x2]
 have q0:=pX.cell 0
 have q1:=pX.cell 1
 simp only [List.getElem?_cons_zero,List.getElem?_cons_succ] at q0 q1
 clear hal hal2 hS0 hS1 h0 h1 c0 c1 c2 h6 pX
 replace hS2:=hS2.2.2.2.2.2
 have hq2:(q:Int)<2:=by omega
 have hv0:(hv != 0)=z:=by rw [hz];by_cases h:hv=0<;>simp [h]
 clear hz
 go_wp2_with fail
 generalize (W.alloc (.cells #[.int .i64 5,.int .i64 q,.int .i64 x2] 122)).drew=W2 at *
 generalize W.heap.size=gx at *
 go_quiet (fail)
 have bz:Below w.heap.size w (W2.drewN nq):=Zb bw (Z3 _)
 go_wp2
 go_ret
 exact ⟨rfl,bz⟩

def slK (cs:Sl × Sl × Sl):Nat→Sl
 | 0=>cs.1
 | 1=>cs.2.1
 | _=>cs.2.2
def Yj (w:World) (g:Nat) (cs:Sl × Sl × Sl) (rows:List (List I3)) (m:V4):Prop:=
 Blk w g 69 (Zf cs.1.val cs.2.1.val cs.2.2.val m)∧∀ k,k<3→ZK w (slK cs k).1 (slK cs k).2.1 (slK cs k).2.2 (Yn rows k)
theorem Yj.below {w w':World} {g:Nat} {cs:Sl × Sl × Sl} {rows:List (List I3)} {m:V4} (h:Yj w g cs rows m) (hb:Below w.heap.size w w'):Yj w' g cs rows m:=⟨h.1.below hb,fun k hk=>(h.2 k hk).below hb⟩
theorem JQ (cs:Sl × Sl × Sl) {k:Nat} (hk:k<3):Fq cs.1.val cs.2.1.val cs.2.2.val k=(slK cs k).val:=by
 match k,hk with
 | 0,_=>rfl
 | 1,_=>rfl
 | 2,_=>rfl
theorem Yj.code {w:World} {g:Nat} {cs:Sl × Sl × Sl} {rows:List (List I3)} {m:V4} (h:Yj w g cs rows m) {k:Nat} (hk:k<3):w.cell? ⟨g,k*4,none⟩=some (.slice (slK cs k).1 (slK cs k).2.1 (slK cs k).2.2):=by
 rw [h.1.cell,G0 _ _ _ _ hk,JQ cs hk];rfl
theorem Yj.pc {w:World} {g:Nat} {cs:Sl × Sl × Sl} {rows:List (List I3)} {m:V4} (h:Yj w g cs rows m) {k:Nat} (hk:k<3):w.cell? ⟨g,k*4+1,none⟩=some (.int .i64 (m.1.getD k 0)):=by
 rw [h.1.cell,Fv _ _ _ _ hk]
theorem Yj.held {w:World} {g:Nat} {cs:Sl × Sl × Sl} {rows:List (List I3)} {m:V4} (h:Yj w g cs rows m) {a:Nat} (ha:a<2):w.cell? ⟨g,16+a,none⟩=some (.int .i64 (m.2.2.1.getD a 0)):=by
 rw [h.1.cell,Rb _ _ _ _ ha]

theorem T9 {w:World} {a:Option Addr} {n c:Nat} {xs:List I3} (h:ZK w a n c xs) {p:Nat} (hp:p<xs.length):∃ b off,a=some ⟨b,off,none⟩∧p<n ∧
  w.cell? ⟨b,off+p*3,none⟩=some (.int .i64 (xs.getD p (0,0,0)).1)∧w.cell? ⟨b,off+p*3+1,none⟩=some (.int .i64 (xs.getD p (0,0,0)).2.1)∧w.cell? ⟨b,off+p*3+2,none⟩=some (.int .i64 (xs.getD p (0,0,0)).2.2):=by
 obtain ⟨hl,_,_,_,h0 | ⟨b,off,ha,_,hc⟩⟩:=h
 ·omega
 exact ⟨b,off,ha,by omega,hc p (by omega)⟩
theorem Wx {rows:List (List I3)} (hp:Zn rows=true) {k:Nat} (hk:k<3):(Yn rows k).length≤6∧∀ x ∈ Yn rows k,okI x=true:=by
 obtain ⟨h3,hr⟩:=Y9 hp
 exact hr _ (by unfold Yn;simp [List.getD,show k<rows.length by omega])
theorem X0 {rows:List (List I3)} {m:V4} (hp:Zn rows=true) (hs:Zk m=true) {k:Nat} (hk:k<3) (hd:Z1 rows m k=false):∃ p:Nat,m.1.getD k 0=p∧p<(Yn rows k).length∧Yq rows m k=(Yn rows k).getD p (0,0,0)∧okI (Yq rows m k)=true:=by
 have hb:=Xn (Yi hs).1 (by decide) k
 unfold Z1 at hd
 simp only [decide_eq_false_iff_not] at hd
 have e:m.1.getD k 0=((m.1.getD k 0).toNat:Int):=by omega
 refine ⟨(m.1.getD k 0).toNat,e,by omega,rfl,?_⟩
 refine (Wx hp hk).2 _ ?_
 unfold Yq
 have hlt:(m.1.getD k 0).toNat<(Yn rows k).length:=by omega
 rw [List.getD,List.getElem?_eq_getElem hlt,Option.getD_some]
 exact List.getElem_mem hlt
theorem NR {x:I3} (h:okI x=true) (h5:x.1=5):∃ q:Nat,x.2.1=q∧q<2:=by
 unfold okI at h
 simp only [h5] at h
 have h2:inB x.2.1 0 1=true:=by
  have:=h
  simp at this
  exact this.1
 rw [ZA] at h2
 exact ⟨x.2.1.toNat,by omega,by omega⟩

theorem Nd {w:World} {g:Nat} {cs:Sl × Sl × Sl} {rows:List (List I3)} {m:V4} (h:Yj w g cs rows m) {k:Nat} (hk:k<3) :
  Calls Tryz.prog 85 #[.pointer (some ⟨g,k*4,none⟩)] w fun e w'=>e=.returned (.bool (Z1 rows m k))∧∃ d,w'=w.drewN d:=by
 have hl:=(h.2 k hk).1
 have:=S1 g (k*4) _ _ _ _ w (h.code hk) (h.pc hk)
 unfold Z1
 rw [hl]
 exact this

theorem GI {w:World} {g:Nat} {cs:Sl × Sl × Sl} {rows:List (List I3)} {m:V4} (h:Yj w g cs rows m) (hp:Zn rows=true) (hs:Zk m=true) {k:Nat} (hk:k<3) :
  Calls Tryz.prog 86 #[.pointer (some ⟨g,0,none⟩),.int .i64 k] w fun e w'=>e=.returned (.bool (Qm rows m k))∧Below w.heap.size w w':=by
 unfold Qm
 cases hd:Z1 rows m k
 ·obtain ⟨p,ep,hlt,hi,hok⟩:=X0 hp hs hk hd
  have h0:=h.code hk
  have h1:=h.pc hk
  rw [ep] at h1
  obtain ⟨b,off,ea,hpn,c0,c1,c2⟩:=T9 (h.2 k hk) hlt
  rw [← hi] at c0 c1 c2
  rw [ea] at h0
  by_cases h5:(Yq rows m k).1=5
  ·obtain ⟨q,hq,hq2⟩:=NR hok h5
   rw [h5] at c0
   rw [hq] at c1
   have hh:=h.held hq2
   have e:XP m (Yq rows m k)=!decide (m.2.2.1.getD q 0=0):=by
    unfold XP
    rw [h5,hq]
    simp
   rw [e]
   exact Ld g k p b off _ _ _ q _ w hk hpn h0 h1 c0 c1 c2 hh hq2 _ rfl
  have e:XP m (Yq rows m k)=false:=by unfold XP;simp [h5]
  rw [e]
  exact Lc g k p b off _ _ _ _ _ w hk hpn h0 h1 c0 c1 c2 h5
 have h0:=h.code hk
 have h1:=h.pc hk
 unfold Z1 at hd
 simp only [decide_eq_true_eq] at hd
 rw [(h.2 k hk).1] at hd
 exact M9 g k _ _ _ _ w hk h0 h1 hd


def Ys (w:World):Prop:=∀ i v,([3,6,4,9,2,3,6,9].map (Value.int .i64))[i]?=some v→w.cell? ⟨0,i,none⟩=some v
theorem Ys.below {w w':World} (h:Ys w) (hb:Below w.heap.size w w'):Ys w':=fun i v hi=>Za hb _ _ (h i v hi)

theorem NI (s:S4) (w:World) :
  Calls Tryz.prog 175 #[s.val] w fun e w'=>e=.returned s.val∧Below w.heap.size w w':=by
 obtain ⟨⟨a0,n0,c0⟩,⟨a1,n1,c1⟩,⟨a2,n2,c2⟩,⟨a3,n3,c3⟩⟩:=s
 unfold S4.val
 simp only
 go_enter Tryz.func175,Tryz.ntmps175
 go_wp2
 go_returns
 exact ⟨rfl,by go_grown⟩

theorem S3 (n high:Int) (a:Option Addr) (len cap:Nat) (zs:List Int) (w:World) (h:YS .i64 w a len cap zs) :
  Calls Tryz.prog 176 #[.agg #[.int .i64 n,.int .i64 high],.slice a len cap] w fun e w'=>e=.returned (.bool (YO zs n high))∧Below w.heap.size w w':=by
 obtain ⟨hl,hlc,hcm,hcase⟩:=h
 unfold maxLen at hcm
 obtain ⟨fin,hfin⟩:∃ fin,fin=YO zs n high:=⟨_,rfl⟩
 rw [← hfin]
 have HF:Hid (fin=YO zs n high):=hfin
 clear hfin
 by_cases hn:(len:Int)=n
 ·have HE:Hid (Hid (∀ i,i<zs.length→0≤zs.getD i 0∧zs.getD i 0≤high)→fin=true):=fun h=>by rw [HF.out,Qw h.out,hl,decide_eq_true hn]
  have hne:((len:Int) != n)=false:=by simp [hn]
  by_cases h0:len=0
  ·subst h0
   obtain rfl:fin=true:=HE.out (fun i hi=>by omega)
   clear HE HF
   simp only [Int.natCast_zero] at hne
   go_enter Tryz.func176,Tryz.ntmps176
   go_wp2
   refine wp_loop_rounds 1 ?_
   rw [rounds_succ]
   go_wp2
   go_ret
   exact ⟨rfl,by go_grown⟩
  rcases hcase with h0' | ⟨bk,off,rfl,hblt,hcell⟩
  ·exact absurd h0' h0
  have bw:Below w.heap.size w (w.alloc (.cells #[.int .i64 n,.int .i64 high] 253)):=by go_grown
  have q1:(w.alloc (.cells #[.int .i64 n,.int .i64 high] 253)).cell? ⟨w.heap.size,1,none⟩=some (.int .i64 high):=by simp [go_sem]
  have hc2:∀ t,t<len→(w.alloc (.cells #[.int .i64 n,.int .i64 high] 253)).cell? ⟨bk,off+t,none⟩=some (.int .i64 (zs.getD t 0)):=fun t ht=>Za bw _ _ (hcell t ht)
  clear hcell
  go_enter Tryz.func176,Tryz.ntmps176
  go_wp2
  generalize (w.alloc (.cells #[.int .i64 n,.int .i64 high] 253))=W at *
  go_loopw [14] (fun si wr=>∃ k:Nat,k≤len∧si=.int .i64 k∧Hid (∀ i,i<k→0≤zs.getD i 0∧zs.getD i 0≤high)∧W=wr) (fun si _=>len - (intOf si).toNat)
  case atStart=>exact ⟨0,by omega,rfl,(fun i hi=>by omega),rfl⟩
  case round =>
   obtain ⟨k,hk,rfl,HK,rfl⟩:=hrel
   by_cases hlt:k<len
   ·have hc:=hc2 k hlt
    have hlt':(k:Int)<(len:Int):=by omega
    have hno:¬ (0≤zs.getD k 0∧zs.getD k 0≤high)→fin=false:=fun hin=>by rw [HF.out];exact P0 (by omega) hin
    have HN:Hid (¬ (0≤zs.getD k 0∧zs.getD k 0≤high)→fin=false):=hno
    have HK2:Hid (0≤zs.getD k 0∧zs.getD k 0≤high→Hid (∀ i,i<k+1→0≤zs.getD i 0∧zs.getD i 0≤high)):=fun hin i hi=>by
     by_cases e:i=k
     ·subst e;exact hin
     exact HK.out i (by omega)
    clear hc2 hno
    generalize zs.getD k 0=x at hc HN HK2
    by_cases g0:x<0
    ·obtain rfl:fin=false:=HN.out (by omega)
     clear HN HK2 HK HF HE
     go_wp2
     go_ret
     exact ⟨rfl,bw⟩
    by_cases g1:high<x
    ·obtain rfl:fin=false:=HN.out (by omega)
     have g0':decide (x<0)=false:=by simp;omega
     clear HN HK2 HK HF HE
     go_wp2
     go_ret
     exact ⟨rfl,bw⟩
    have HK3:=HK2.out ⟨by omega,by omega⟩
    have g0':decide (x<0)=false:=by simp;omega
    have g1':decide (high<x)=false:=by simp;omega
    clear HN HK2 HK HF HE
    go_wp2
    go_roundw
    case rel=>exact ⟨k+1,by omega,by go_num,HK3,by trivial⟩
    case measure=>simp [intOf];omega
   obtain rfl:k=len:=by omega
   obtain rfl:fin=true:=HE.out (fun i hi=>HK.out i (by omega))
   clear hc2 HE HF HK
   go_wp2
   go_ret
   exact ⟨rfl,bw⟩
 obtain rfl:fin=false:=by
  rw [HF.out]
  unfold YO
  rw [hl,decide_eq_false hn,Bool.and_false]
 have hne:((len:Int) != n)=true:=by simp [hn]
 clear HF hcase
 go_enter Tryz.func176,Tryz.ntmps176
 go_wp2
 go_ret
 exact ⟨rfl,by go_grown⟩

theorem J4 (v0 v1 v2 v3:Value) (w:World):(Instr.index 250 (.agg #[v0,v1,v2,v3]) (.int .i64 0)).run Tryz.prog w=.ok v0 w:=by kernel_rfl
theorem J5 (v0 v1 v2 v3:Value) (w:World):(Instr.index 250 (.agg #[v0,v1,v2,v3]) (.int .i64 1)).run Tryz.prog w=.ok v1 w:=by kernel_rfl
theorem J6 (v0 v1 v2 v3:Value) (w:World):(Instr.index 250 (.agg #[v0,v1,v2,v3]) (.int .i64 2)).run Tryz.prog w=.ok v2 w:=by kernel_rfl
theorem J7 (v0 v1 v2 v3:Value) (w:World):(Instr.index 250 (.agg #[v0,v1,v2,v3]) (.int .i64 3)).run Tryz.prog w=.ok v3 w:=by kernel_rfl

theorem N3 (s:S4) (m:V4) (w:World) (h:Yk w s m) (hV:Ys w) :
  Calls Tryz.prog 125 #[s.val] w fun e w'=>e=.returned (.bool (Zk m))∧Below w.heap.size w w':=by
 have kL:=NI s
 obtain ⟨⟨i0,_⟩,⟨i1,_⟩,⟨i2,_⟩,⟨i3,_⟩⟩:=h
 obtain ⟨⟨a0,n0,c0⟩,⟨a1,n1,c1⟩,⟨a2,n2,c2⟩,⟨a3,n3,c3⟩⟩:=s
 obtain ⟨m0,m1,m2,m3⟩:=m
 unfold S4.val at kL ⊢
 unfold Zk
 simp only at i0 i1 i2 i3 kL ⊢
 have bw:Below w.heap.size w (w.alloc (.cells #[.slice a0 n0 c0,.slice a1 n1 c1,.slice a2 n2 c2,.slice a3 n3 c3] 74)):=by go_grown
 have k0:=fun w h=>S3 3 6 a0 n0 c0 m0 w h
 have k1:=fun w h=>S3 4 9 a1 n1 c1 m1 w h
 have k2:=fun w h=>S3 2 3 a2 n2 c2 m2 w h
 have k3:=fun w h=>S3 6 9 a3 n3 c3 m3 w h
 generalize YO m0 3 6=x0 at *
 generalize YO m1 4 9=x1 at *
 generalize YO m2 2 3=x2 at *
 generalize YO m3 6 9=x3 at *
 have d0:=J4 (.slice a0 n0 c0) (.slice a1 n1 c1) (.slice a2 n2 c2) (.slice a3 n3 c3)
 have d1:=J5 (.slice a0 n0 c0) (.slice a1 n1 c1) (.slice a2 n2 c2) (.slice a3 n3 c3)
 have d2:=J6 (.slice a0 n0 c0) (.slice a1 n1 c1) (.slice a2 n2 c2) (.slice a3 n3 c3)
 have d3:=J7 (.slice a0 n0 c0) (.slice a1 n1 c1) (.slice a2 n2 c2) (.slice a3 n3 c3)
 go_enter Tryz.func125,Tryz.ntmps125
 go_wp2_with fail
 refine (kL _).mono ?_
 rintro e w1 ⟨rfl,hb⟩
 replace bw:=Zb bw hb
 replace hV:=hV.below bw
 clear hb kL
 have t0:=hV 0 _ rfl
 have t1:=hV 1 _ rfl
 go_wp2_with fail
 refine wp_loop_rounds 5 ?_
 rw [rounds_succ]
 go_wp2_with fail
 refine (k0 _ (i0.below bw)).mono ?_
 rintro e w2 ⟨rfl,hb⟩
 replace bw:=Zb bw hb
 replace hV:=hV.below hb
 clear hb k0 i0 t0 t1
 cases x0
 ·go_wp2
  go_ret
  exact ⟨rfl,bw⟩
 have t2:=hV 2 _ rfl
 have t3:=hV 3 _ rfl
 go_wp2_with fail
 rw [rounds_succ]
 go_wp2_with fail
 refine (k1 _ (i1.below bw)).mono ?_
 rintro e w3 ⟨rfl,hb⟩
 replace bw:=Zb bw hb
 replace hV:=hV.below hb
 clear hb k1 i1 t2 t3
 cases x1
 ·go_wp2
  go_ret
  exact ⟨rfl,bw⟩
 have t4:=hV 4 _ rfl
 have t5:=hV 5 _ rfl
 go_wp2_with fail
 rw [rounds_succ]
 go_wp2_with fail
 refine (k2 _ (i2.below bw)).mono ?_
 rintro e w4 ⟨rfl,hb⟩
 replace bw:=Zb bw hb
 replace hV:=hV.below hb
 clear hb k2 i2 t4 t5
 cases x2
 ·go_wp2
  go_ret
  exact ⟨rfl,bw⟩
 have t6:=hV 6 _ rfl
 have t7:=hV 7 _ rfl
 go_wp2_with fail
 rw [rounds_succ]
 go_wp2_with fail
 refine (k3 _ (i3.below bw)).mono ?_
 rintro e w5 ⟨rfl,hb⟩
 replace bw:=Zb bw hb
 clear hb k3 i3 t6 t7 hV
 cases x3
 ·go_wp2
  go_ret
  exact ⟨rfl,bw⟩
 go_wp2_with fail
 rw [rounds_succ]
 go_wp2
 go_ret
 exact ⟨rfl,bw⟩


theorem Nr (a:Option Addr) (len cap:Nat) (rows:List (List I3)) (s:S4) (m:V4) (w:World) (hC:XL w a len cap rows) (h:Yk w s m) (hV:Ys w) :
  Calls Tryz.prog 67 #[.agg #[.slice a len cap],s.val] w fun e w'=>e=.returned (.bool (Zn rows && Zk m))∧Below w.heap.size w w':=by
 have kP:=T8 a len cap rows
 have kS:=N3 s m
 generalize Zn rows=x at *
 generalize Zk m=y at *
 obtain ⟨⟨a0,n0,c0⟩,⟨a1,n1,c1⟩,⟨a2,n2,c2⟩,⟨a3,n3,c3⟩⟩:=s
 unfold S4.val at kS ⊢
 simp only at kS ⊢
 have hu:Hid (∀ W,Below w.heap.size w W→Yk W ((a0,n0,c0),(a1,n1,c1),(a2,n2,c2),(a3,n3,c3)) m):=fun W hb=>h.below hb
 have bw:Below w.heap.size w ((w.alloc (.cells #[.slice a len cap] 25)).alloc (.cells #[.slice a0 n0 c0,.slice a1 n1 c1,.slice a2 n2 c2,.slice a3 n3 c3] 74)):=by go_grown
 have cS:∀ j v,[Value.slice a0 n0 c0,.slice a1 n1 c1,.slice a2 n2 c2,.slice a3 n3 c3][j]?=some v→((w.alloc (.cells #[.slice a len cap] 25)).alloc (.cells #[.slice a0 n0 c0,.slice a1 n1 c1,.slice a2 n2 c2,.slice a3 n3 c3] 74)).cell? ⟨w.heap.size+1,j,none⟩=some v:=by
  intro j v hj
  match j,hj with
  | 0,hj=>simp at hj;subst hj;simp [go_sem]
  | 1,hj=>simp at hj;subst hj;simp [go_sem]
  | 2,hj=>simp at hj;subst hj;simp [go_sem]
  | 3,hj=>simp at hj;subst hj;simp [go_sem]
  | (j+4),hj=>simp at hj
 have s0:=cS 0 _ rfl
 have s1:=cS 1 _ rfl
 have s2:=cS 2 _ rfl
 have s3:=cS 3 _ rfl
 clear cS
 go_enter Tryz.func67,Tryz.ntmps67
 go_wp2_with fail
 refine (kP _ (hC.below bw)).mono ?_
 rintro e w1 ⟨rfl,hb⟩
 replace bw:=Zb bw hb
 replace s0:=Za hb _ _ s0
 replace s1:=Za hb _ _ s1
 replace s2:=Za hb _ _ s2
 replace s3:=Za hb _ _ s3
 clear hb hC kP
 cases x
 ·go_wp2
  go_ret
  exact ⟨rfl,bw⟩
 go_wp2_with fail
 refine (kS _ (hu.out _ bw) (hV.below bw)).mono ?_
 rintro e w2 ⟨rfl,hb⟩
 replace bw:=Zb bw hb
 cases y
 ·go_wp2
  go_ret
  exact ⟨rfl,bw⟩
 go_wp2
 go_ret
 exact ⟨rfl,bw⟩


theorem Zo {g:Nat} (w:World) (t:Nat) (cs:List Value) (h:g=w.heap.size):Blk (w.alloc (.cells cs.toArray t)) g t cs:=by
 subst h
 exact Blk.new w t cs
theorem Zq {g t:Nat} {cs:List Value} {w:World} (o:Obj) (h:Blk w g t cs):Blk (w.alloc o) g t cs:=(Below.heap_alloc w o g h.lt).trans h
theorem VC (w:World) (g:Nat) (cs:Array Value):w.grownBy (w.setRow g cs) (some g):=
 ⟨rfl,rfl,rfl,by simp [World.setRow],fun k _ hk=>setRow_other w g k cs (fun e=>hk (by rw [e]))⟩

theorem Z0 {P:Program} {ops:Array Oper} {o:Oper} {a:Act} {w:World} {K:Act→World→Prop} {Q:Exit→Act→World→Prop} {E:Prop} (hgd:o.guard=none) (d s:Operand) (dT sT:TypeId)
  (ho:o.op=.call { callee:=.builtin .copy,args:=#[d,s],argTypes:=#[dT,sT] }) (elem:TypeId) (hu:P.underlying dT=some (.slice elem)) (hsz:(P.info? elem).map (·.size)=some 1)
  (g off:Nat) (ad:Addr) (dLen dCap sLen sCap:Nat) (hd:a.eval d=.slice (some ⟨g,off,none⟩) dLen dCap) (hs:a.eval s=.slice (some ad) sLen sCap)
  (cur:List Value) (t:TypeId) (hg:Blk w g t cur) (cs:List Value) (r:Value) (hr:goInt cs.length=r) (hn:cs.length=Nat.min sLen dLen)
  (hsrc:∀ j v,cs[j]?=some v→w.cell? (ad.add j)=some v)
  (hfit:off+cs.length≤cur.length) (h1:∀ v ∈ cs,v.oneCell'=true)
  (h:∀ w',Hid (Blk w' g t (splice cur off cs))→w.grownBy w' (some g)→K (a.put o.dst r) w') :
  if Region.wanted o (yielded ops a.tmps)=true then Oper.wp P o a w K Q else E:=by
 have hw:Region.wanted o (yielded ops a.tmps)=true:=by simp [Region.wanted,hgd]
 subst hr
 rw [if_pos hw]
 have hrun:=run_copy_row (P:=P) w dT sT o.type elem g off dLen dCap ad sLen sCap cur.toArray t cs hu hsz hg hn hsrc (by simpa using hfit) h1
 unfold Oper.wp
 simp [execOp,ho,resolve,invoke,builtin,hd,hs,hrun,Result.andThen]
 refine h _ (show _=_ by simpa [splice] using setRow_heap w g _ _ t _ hg) (VC _ _ _)

theorem Blk.kept {w w':World} {g t:Nat} {cs:List Value} {r:Option Nat} (h:Blk w g t cs) (hg:w.grownBy w' r) (hr:r≠some g):Blk w' g t cs:=(hg.block g h.lt (Ne.symm hr)).trans h
theorem ZJ {w:World} {g g' t t':Nat} {cs cs':List Value} (h:Blk w g t cs) (h':Blk w g' t' cs') (ht:t≠t'):g≠g':=by
 rintro rfl
 unfold Blk at h h'
 rw [h] at h'
 simp at h'
 exact ht h'.2
theorem NJ {P:Program} {w:World} {g t:Nat} {cs:List Value} (ty:TypeId) (d:TypeDesc) (h:Blk w g t cs) (hu:P.underlying ty=some d) (hd:(match d with | .struct _ | .array _ _=>true | _=>false)=true) (hi:(P.info? ty).map (·.size)=some cs.length) :
  (loadVar ty ⟨g,0,none⟩).run P w=.ok (.agg cs.toArray) w:=run_loadVar_row w g t ty cs.toArray (0,0) d h hu hd (by simpa using hi)
theorem Rm {w:World} {g t:Nat} {cs:List Value} (vs:List Value) (h:Blk w g t cs):Blk (w.setRow g vs.toArray) g t vs:=setRow_heap w g _ _ t _ h

section
variable {P : Program} {ops : Array Oper} {rest : List Oper} {o : Oper} {a : Act} {w : World} {Q : Exit → Act → World → Prop}
theorem Zc (hgd:o.guard=none) (ty:TypeId) (x:Operand) (ho:o.op=.load ty x) (g:Nat) (hx:a.eval x=.pointer (some ⟨g,0,none⟩)) {t:Nat} {cs:List Value} (hB:Blk w g t cs) (d:TypeDesc)
  (hu:P.underlying ty=some d) (hd:(match d with | .struct _ | .array _ _=>true | _=>false)=true) (hi:(P.info? ty).map (·.size)=some cs.length)
  (h:wpList P ops Q rest (a.put o.dst (.agg cs.toArray)) w):wpList P ops Q (o::rest) a w:=
 wpList_load_row hgd ty x ho g hx t cs.toArray (0,0) d hB hu hd (by simpa using hi) h
theorem Zd (hgd:o.guard=none) (ty:TypeId) (x y:Operand) (ho:o.op=.store ty x y) (g:Nat) (vs:List Value) (hx:a.eval x=.pointer (some ⟨g,0,none⟩)) (hy:a.eval y=.agg vs.toArray) {t:Nat} {cs:List Value} (hB:Blk w g t cs)
  (hi:(P.info? ty).map (·.size)=some vs.length) (hl:cs.length=vs.length) (h1:vs.all (·.oneCell')=true)
  (h:∀ w',Hid (Blk w' g t vs)→w.grownBy w' (some g)→wpList P ops Q rest (a.put o.dst undef) w'):wpList P ops Q (o::rest) a w:=
 wpList_store_row hgd ty x y ho g vs.toArray hx hy t cs.toArray hB (by simpa using hi) (by simpa using hl) (by simpa using h1) (h _ (Rm vs hB) (VC _ _ _))
end

section
variable {P : Program} {fn : Func} {p q r : Tmp} {ty : TypeId}
theorem XT (h:fn.results=#[.cell p ty]) (tmps:Array Value) (w:World) (g t:Nat) (cs:List Value) (d:TypeDesc) (hp:tmps.getD p undef=.pointer (some ⟨g,0,none⟩)) (hB:Blk w g t cs)
  (hu:P.underlying ty=some d) (hd:(match d with | .struct _ | .array _ _=>true | _=>false)=true) (hi:(P.info? ty).map (·.size)=some cs.length) :
  (results fn tmps).run P w=.ok (.agg cs.toArray) w:=results_cell_row h tmps w g t cs.toArray (0,0) d hp hB hu hd (by simpa using hi)
theorem ZF (h:fn.results=#[.cell p ty,.tmp q]) (tmps:Array Value) (w:World) (g t:Nat) (cs:List Value) (d:TypeDesc) (hp:tmps.getD p undef=.pointer (some ⟨g,0,none⟩)) (hB:Blk w g t cs)
  (hu:P.underlying ty=some d) (hd:(match d with | .struct _ | .array _ _=>true | _=>false)=true) (hi:(P.info? ty).map (·.size)=some cs.length) :
  (results fn tmps).run P w=.ok (.tuple #[.agg cs.toArray,tmps.getD q undef]) w:=by
 have hp':tmps[p]?.getD undef=.pointer (some ⟨g,0,none⟩):=by simpa using hp
 simp [results,h,hp',asAddr,NJ ty d hB hu hd hi]
theorem Wt (h:fn.results=#[.cell p ty,.tmp q,.tmp r]) (tmps:Array Value) (w:World) (g t:Nat) (cs:List Value) (d:TypeDesc) (hp:tmps.getD p undef=.pointer (some ⟨g,0,none⟩)) (hB:Blk w g t cs)
  (hu:P.underlying ty=some d) (hd:(match d with | .struct _ | .array _ _=>true | _=>false)=true) (hi:(P.info? ty).map (·.size)=some cs.length) :
  (results fn tmps).run P w=.ok (.tuple #[.agg cs.toArray,tmps.getD q undef,tmps.getD r undef]) w:=by
 have hp':tmps[p]?.getD undef=.pointer (some ⟨g,0,none⟩):=by simpa using hp
 simp [results,h,hp',asAddr,NJ ty d hB hu hd hi]
end
end Go.Proofs.YtmhlokahmblboaaGreatDoor
