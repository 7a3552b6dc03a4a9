/-
  Joined: DrawQ, RwI, MapI, MrgI.
-/
import Derived.Maps.OwnOps
import Derived.Maps.Own
import Derived.Shelf.SlIterI.Nil
import Derived.Shelf.SortM.Plain
import Derived.Shelf.SortM.SortNone
import Derived.Test.YtgmhhegckcionaaGreatDoorF26

namespace Go.Proofs.YtgmhhegckcionaaGreatDoor
set_option maxRecDepth 100000
set_option maxHeartbeats 16000000
open Go.RowKit
set_option linter.unusedVariables false
set_option linter.unusedSimpArgs false

def DE (t:Nat):Nat:=if t=2 then 2 else 3
def VI (done:List (List I3)):Prop:=(∀ r ∈ done,ZP r=true)∧∀ t r,done[t]?=some r→r.length≤DE t
theorem VI.nil:VI []:=⟨(fun r hr=>by cases hr),(fun t r h=>by simp at h)⟩
theorem VI.snoc {done:List (List I3)} {xs:List I3} (h:VI done) (h1:ZP xs=true) (h2:xs.length≤DE done.length):VI (done++[xs]):=by
 refine ⟨fun r hr=>?_,fun t r hr=>?_⟩
 ·rcases List.mem_append.1 hr with h' | h'
  ·exact h.1 r h'
  simp at h';subst h';exact h1
 by_cases ht:t<done.length
 ·rw [List.getElem?_append_left ht] at hr
  exact h.2 t r hr
 rw [List.getElem?_append_right (by omega)] at hr
 have hl:=(List.getElem?_eq_some_iff.1 hr).1
 simp at hl
 have e:t=done.length:=by omega
 subst e
 simp at hr
 subst hr
 exact h2
def G3 (rows:List (List I3)):Prop:=(Yg rows 0).length≤3∧(Yg rows 1).length≤3∧(Yg rows 2).length≤2
theorem VI.small {rows:List (List I3)} (h:VI rows) (hl:rows.length=3):G3 rows:=by
 have hk:∀ k,k<3→(Yg rows k).length≤DE k:=fun k hk=>h.2 k _ (by unfold Yg;rw [List.getD,List.getElem?_eq_getElem (show k<rows.length by omega)];rfl)
 exact ⟨hk 0 (by decide),hk 1 (by decide),hk 2 (by decide)⟩
def Vs (rows:List (List I3)):Prop:=Zf rows=true∧G3 rows

theorem Px (p:Nat) (a:Option Addr) (n cap:Nat) (w:World) (hS:Src w p (.slice a n cap) 0) (hC:TO w p a n cap) :
  Calls Tryz.prog 45 #[.pointer (some ⟨p,0,none⟩)] w fun e w'=>(∃ (v:Value) (rows:List (List I3)),Vs rows∧e=.returned (.agg #[v])∧Xb w' w.heap.size v rows)∧YG p w w':=by
 obtain ⟨i0,hi,hz0,hz1,hz2⟩:=info_parts QA
 obtain ⟨j0,hj,hy0,hy1,hy2⟩:=info_parts MS
 have hpl:=hS.lt
 have hpB:p<w.heap.size:=hS.lt
 go_enter Tryz.func45,Tryz.ntmps45
 go_wp2_with fail
 have hRr:(((w.alloc (.cells #[.slice none 0 0] 25)).alloc (.cells #[] 91)).alloc (.cells #[.slice (some ⟨w.heap.size+1,0,none⟩) 0 0] 25)).ownsRow w.heap.size 25 1 (.slice (some ⟨w.heap.size,0,none⟩) 1 1) 1 [.slice none 0 0]:=((Fe w (.slice none 0 0) 25 w.heap.size (Nat.le_refl _)).alloc _).alloc _
 have hV:(((w.alloc (.cells #[.slice none 0 0] 25)).alloc (.cells #[] 91)).alloc (.cells #[.slice (some ⟨w.heap.size+1,0,none⟩) 0 0] 25)).ownsRow w.heap.size 91 1 (.slice (some ⟨w.heap.size+1,0,none⟩) 0 0) 0 []:=by
  have h9:=(NW (w.alloc (.cells #[.slice none 0 0] 25)) 91 1 w.heap.size (by simp)).alloc (.cells #[.slice (some ⟨w.heap.size+1,0,none⟩) 0 0] 25)
  simp only [World.size_alloc] at h9
  exact h9
 have hX:(((w.alloc (.cells #[.slice none 0 0] 25)).alloc (.cells #[] 91)).alloc (.cells #[.slice (some ⟨w.heap.size+1,0,none⟩) 0 0] 25)).ownsRow w.heap.size 25 1 (.slice (some ⟨w.heap.size+1+1,0,none⟩) 1 1) 1 [.slice (some ⟨w.heap.size+1,0,none⟩) 0 0]:=by
  have h9:=Fe ((w.alloc (.cells #[.slice none 0 0] 25)).alloc (.cells #[] 91)) (.slice (some ⟨w.heap.size+1,0,none⟩) 0 0) 25 w.heap.size (by simp;omega)
  simp only [World.size_alloc] at h9
  exact h9
 have hWt:YG p w (((w.alloc (.cells #[.slice none 0 0] 25)).alloc (.cells #[] 91)).alloc (.cells #[.slice (some ⟨w.heap.size+1,0,none⟩) 0 0] 25)):=(((YG.refl p w).alloc _).alloc _).alloc _
 replace hC:=hC.below (((hWt.below (Nat.le_of_lt hpl))))
 replace hS:=((hS.alloc (.cells #[.slice none 0 0] 25)).alloc (.cells #[] 91)).alloc (.cells #[.slice (some ⟨w.heap.size+1,0,none⟩) 0 0] 25)
 replace hpl:p<(((w.alloc (.cells #[.slice none 0 0] 25)).alloc (.cells #[] 91)).alloc (.cells #[.slice (some ⟨w.heap.size+1,0,none⟩) 0 0] 25)).heap.size:=by simp;omega
 have hXw:w.heap.size<w.heap.size+1+1:=by omega
 generalize (((w.alloc (.cells #[.slice none 0 0] 25)).alloc (.cells #[] 91)).alloc (.cells #[.slice (some ⟨w.heap.size+1,0,none⟩) 0 0] 25))=w3 at hRr hV hX hWt hC hS hpl
 generalize w.heap.size+1+1=X at hX hXw
 generalize some (Addr.mk (w.heap.size+1) 0 none)=aV0 at hV hX
 go_loopw [4] (fun si wr=>∃ (k T:Nat) (done:List (List I3)) (vs:List Value) (aV:Option Addr) (capV:Nat),k≤3∧si=.int .i64 k∧T≤k*100∧done.length=k∧Hid (VI done) ∧
   Wo wr w.heap.size k vs done∧wr.ownsRow w.heap.size 91 1 (.slice aV k capV) k vs∧wr.ownsRow w.heap.size 25 1 (.slice (some ⟨X,0,none⟩) 1 1) 1 [.slice aV k capV]∧wr.ownsRow w.heap.size 25 1 (.slice (some ⟨w.heap.size,0,none⟩) 1 1) 1 [.slice none 0 0]∧Src wr p (.slice a n cap) T∧TO wr p a n cap∧p<wr.heap.size∧YG p w wr) (fun si _=>3 - (intOf si).toNat)
 case atStart=>exact ⟨0,0,[],[],aV0,0,by omega,rfl,by omega,rfl,VI.nil,⟨fun t ht=>by omega,fun t _ ht=>by omega⟩,hV,hX,hRr,hS,hC,hpl,hWt⟩
 case round =>
  clear hRr hV hX hWt hC hS hpl
  obtain ⟨k,T,done,vs,aV,capV,hk,rfl,hT,hdl,hok,hR,hV,hX,hRr,hS,hC,hpl,hWt⟩:=hrel
  by_cases hlt:k<3
  ·have hlt2:(k:Int)<3:=by omega
   have hk0:(0:Int)≤(k:Int):=by omega
   go_wp2_with fail
   refine (YA p T a n cap 4 _ hS hC (by omega) (by omega)).mono ?_
   rintro e w4 ⟨⟨v1,hv1,rfl⟩,hSn,hWn⟩
   replace hS:=hSn
   replace hR:=hR.went hWn hpB
   replace hV:=ZI hV hWn hpB
   replace hX:=ZI hX hWn hpB
   replace hRr:=ZI hRr hWn hpB
   replace hC:=hC.went hWn (Nat.le_of_lt hpl)
   replace hpl:=Nat.lt_of_lt_of_le hpl hWn.size
   replace hWt:=hWt.trans hWn
   clear hSn hWn
   by_cases hk2:k=2
   ·have hk2':((k:Int) == 2)=true:=by subst hk2;rfl
    go_wp2_with fail
    refine (YA p (T+3) a n cap 3 _ hS hC (by omega) (by omega)).mono ?_
    rintro e w5 ⟨⟨v2,hv2,rfl⟩,hSn,hWn⟩
    replace hS:=hSn
    replace hR:=hR.went hWn hpB
    replace hV:=ZI hV hWn hpB
    replace hX:=ZI hX hWn hpB
    replace hRr:=ZI hRr hWn hpB
    replace hC:=hC.went hWn (Nat.le_of_lt hpl)
    replace hpl:=Nat.lt_of_lt_of_le hpl hWn.size
    replace hWt:=hWt.trans hWn
    clear hSn hWn
    have hnn:v2≤3:=by omega
    have hn2:v2≤2:=by omega
    obtain ⟨nn,hnnd⟩:∃ nn:Nat,nn=v2:=⟨_,rfl⟩
    rw [← hnnd] at hnn hn2
    rw [← hnnd]
    have HK2:Hid (k=2):=hk2
    clear hnnd hv2 hv1 hk2 hk2'
    replace hS:=hS.mono (show T+3+3≤T+6 by omega)
    have hCo:=NW w5 122 3 w5.heap.size (Nat.le_refl _)
    have hWo:=(YG.refl p w5).alloc (.cells #[] 122)
    have hSo:=hS.alloc (.cells #[] 122)
    have hpo:p<(w5.alloc (.cells #[] 122)).heap.size:=by simp;omega
    have hCdo:=hC.below ((Below.refl p w5).alloc (Nat.le_of_lt hpl) (.cells #[] 122))
    go_wp2
    go_loopw [6,7] (fun sv si wi=>∃ (i:Nat) (xs:List I3),i≤nn∧si=.int .i64 i∧xs.length=i∧Hid (KC nn xs)∧wi.ownsRow w5.heap.size 122 3 sv i (Zn xs)∧Src wi p (.slice a n cap) (T+6+i*9)∧TO wi p a n cap∧p<wi.heap.size∧YG p w5 wi) (fun _ si _=>nn - (intOf si).toNat)
    case atStart=>exact ⟨0,[],by omega,rfl,rfl,(fun i hi=>by simp at hi),hCo,hSo,hCdo,hpo,hWo⟩
    case round =>
     clear hCo hWo hSo hpo hCdo
     obtain ⟨i,xs,hin,rfl,hxl,hxo,hr,hSi,hCi,hpi,hWi⟩:=hrel
     by_cases him:i<nn
     ·have him2:(i:Int)<(nn:Int):=by omega
      go_wp2_with fail
      refine (P1 p (T+6+i*9) a n cap i nn _ hSi hCi (by omega) him hnn).mono ?_
      rintro e w6 ⟨⟨x,⟨hx1,hx2⟩,rfl⟩,hS6,hW6⟩
      have hxo2:Hid (KC nn (xs++[x])):=Nl hxo.out hx1 (by rw [hxl];exact hx2)
      replace hr:=ZI hr hW6 hpl
      replace hCi:=hCi.went hW6 (Nat.le_of_lt hpi)
      replace hpi:=Nat.lt_of_lt_of_le hpi hW6.size
      replace hWi:=hWi.trans hW6
      have hbs6:=hWi.size
      clear hSi hW6 hx1 hx2 hxo
      have HXL:Hid (xs.length=i):=hxl
      clear hxl
      obtain ⟨x0,x1,x2⟩:=x
      unfold I3.val
      go_wp2_with (at_builtin;refine wpList_append_own _ rfl _ _ 91 rfl w5.heap.size 122 i0 (.agg #[.int .i64 0,.int .i64 0,.int .i64 0]) 3 24 Tryz.underlying91 hi hz0 hz1 hz2 rfl (by decide) _ _ _ rfl (hr.alloc _) ⟨w6.heap.size,0,none⟩ 1 1 [.int .i64 x0,.int .i64 x1,.int .i64 x2] rfl rfl (Vw _ _ _ _ _) (Nt _ _ _) ?c3 ?c4 ?c5 ?_)
      case c3=>unfold maxLen;omega
      case c4=>omega
      case c5=>simp;omega
      intro v7 w7 hown7 hgrow7 _
      have hr7:w7.ownsRow w5.heap.size 122 3 v7 (i+1) (Zn (xs++[(x0,x1,x2)])):=by rw [PR];exact hown7
      have hW7:YG p w5 w7:=(hWi.alloc (.cells #[.int .i64 x0,.int .i64 x1,.int .i64 x2] 122)).grown hgrow7 (fun j hj=>(hr.lt _ hj).1)
      have hS7:=((hS6.alloc (.cells #[.int .i64 x0,.int .i64 x1,.int .i64 x2] 122)).grown hgrow7 (fun k e=>by have:=(hr.lt k e).1;omega)).mono (show T+6+i*9+9≤T+6+(i+1)*9 by omega)
      have hC7:=hCi.below ((((Below.refl p w6).alloc (Nat.le_of_lt hpi) (.cells #[.int .i64 x0,.int .i64 x1,.int .i64 x2] 122))).grown hgrow7 (by simp;omega) (fun j hj=>by have:=(hr.lt j hj).1;omega))
      have hp7:p<w7.heap.size:=by have:=hgrow7.size;simp at this;omega
      clear hown7 hgrow7 hr hWi hS6 hCi hpi
      go_wp2
      go_roundw
      case rel=>exact ⟨i+1,xs++[(x0,x1,x2)],by omega,by go_num,by simp [HXL.out],hxo2,hr7,hS7,hC7,hp7,hW7⟩
      case measure=>simp [intOf];omega
     obtain rfl:i=nn:=by omega
     have hcok:ZP xs=true:=PJ (by omega) (by rw [hxl];exact hxo.out)
     have hok2:Hid (VI (done++[xs])):=VI.snoc hok.out hcok (by rw [hdl,HK2.out,hxl];exact hn2)
     obtain ⟨aC,capC,hv⟩:∃ aC capC,u6=.slice aC i capC:=by
      rcases hr.2 with ⟨hv,h0⟩ | ⟨g,cp,cur,hv,_⟩
      ·exact ⟨none,0,by rw [h0];exact hv⟩
      exact ⟨_,cp,hv⟩
     subst hv
     have hlow:∀ t x,t<k→(vs.getD t undef).ownBlock=some x→x<w5.heap.size:=fun t x ht hx=>((hR.1 t ht).lt x hx).2
     have hw5B:w.heap.size≤w5.heap.size:=hWt.size
     have hR':=hR.went hWi hpB
     have hV':=ZI hV hWi hpB
     have hX':=ZI hX hWi hpB
     have hRr':=ZI hRr hWi hpB
     have hWt':=hWt.trans hWi
     have hcX:wr.cell? ⟨X,0,none⟩=some (.slice aV k capV):=by simpa using hX'.cellAt 0 (by omega)
     have hbs8:=hWt'.size
     clear hR hV hX hRr hWt hWi hS hC hpl hok hxo hcok
     go_wp2_with (at_builtin;refine wpList_append_own _ rfl _ _ 23 rfl w.heap.size 91 j0 (.slice none 0 0) 1 24 Tryz.underlying23 hj hy0 hy1 hy2 rfl (by decide) _ _ _ rfl (hV'.alloc _) ⟨wr.heap.size,0,none⟩ 1 1 [.slice aC i capC] rfl rfl (QS _ _ _) (Jp _ _ _) ?c3 ?c4 ?c5 ?_)
     case c3=>unfold maxLen;omega
     case c4=>omega
     case c5=>simp;omega
     intro v8 w8 hown8 hgrow8 _
     have hA:=hr.alloc (.cells #[.slice aC i capC] 91)
     have hV2:=hV'.alloc (.cells #[.slice aC i capC] 91)
     have hC4:=hA.kept hgrow8 (Ys hA hV2 (by decide))
     have hR4:Wo w8 w.heap.size k vs done:=⟨fun t ht=>((hR'.1 t ht).alloc _).kept hgrow8 (Ys ((hR'.1 t ht).alloc _) hV2 (by decide)),hR'.2⟩
     have hX4:=(hX'.alloc (.cells #[.slice aC i capC] 91)).kept hgrow8 (Ys (hX'.alloc _) hV2 (by decide))
     have hRr4:=(hRr'.alloc (.cells #[.slice aC i capC] 91)).kept hgrow8 (Ys (hRr'.alloc _) hV2 (by decide))
     have hW4:YG p w w8:=(hWt'.alloc (.cells #[.slice aC i capC] 91)).grown hgrow8 (fun j hj=>(hV'.lt _ hj).1)
     have hS4:=(hSi.alloc (.cells #[.slice aC i capC] 91)).grown hgrow8 (fun j e=>by have:=(hV'.lt j e).1;omega)
     have hCd4:=hCi.below (((Below.refl p wr).alloc (Nat.le_of_lt hpi) (.cells #[.slice aC i capC] 91)).grown hgrow8 (by simp;omega) (fun j hj=>by have:=(hV'.lt j hj).1;omega))
     have hp4:p<w8.heap.size:=by have:=hgrow8.size;simp at this;omega
     clear hA hV2 hV' hR' hX' hRr' hWt' hgrow8 hr hcX hSi hCi hpi
     obtain ⟨aW,capW,hv4⟩:∃ aW capW,v8=.slice aW (k+1) capW:=by
      rcases hown8.2 with ⟨hv,h0⟩ | ⟨g,cp,cur,hv,_⟩
      ·omega
      exact ⟨_,cp,hv⟩
     subst hv4
     have hlv:vs.length=k:=by have:=hown8.1;simp at this;omega
     have hpush:=hR4.push' (s0:=w5.heap.size) hlv hdl hlow (r:=xs) (sv:=.slice aC i capC) (by rw [hxl];exact hC4) hw5B
     have fX:=hX4.frozenAt 0
     have cX:w8.cell? ⟨X,0,none⟩=some (.slice aV k capV):=by simpa using hX4.cellAt 0 (by omega)
     have hX5:=(hX4.stored 0 (.slice aW (k+1) capW)).1
     have hV5:(w8.setCell ⟨X,0,none⟩ (.slice aW (k+1) capW)).ownsRow w.heap.size 91 1 (.slice aW (k+1) capW) (k+1) (vs++[.slice aC i capC]):=ownsRow_setCell_other hown8 (Uh hown8 hX4 (by decide)) _
     have hR5:Wo (w8.setCell ⟨X,0,none⟩ (.slice aW (k+1) capW)) w.heap.size (k+1) (vs++[.slice aC i capC]) (done++[xs]):=⟨fun t ht=>ownsRow_setCell_other (hpush.1 t ht) (Uh (hpush.1 t ht) hX4 (by decide)) _,hpush.2⟩
     have hRr5:(w8.setCell ⟨X,0,none⟩ (.slice aW (k+1) capW)).ownsRow w.heap.size 25 1 (.slice (some ⟨w.heap.size,0,none⟩) 1 1) 1 [.slice none 0 0]:=ownsRow_setCell_other hRr4 (by simp [Value.ownBlock];omega) _
     have g5:=Zh w8 X 0 (.slice aW (k+1) capW)
     have hW5:=hW4.grown g5 (fun j e=>by cases e;omega)
     have hS5:=hS4.grown g5 (fun j e=>by cases e;omega)
     have hC5:=hCd4.below (ZX g5 (show p≤X by omega) (Nat.le_of_lt hp4))
     have hp5:p<(w8.setCell ⟨X,0,none⟩ (.slice aW (k+1) capW)).heap.size:=Nat.lt_of_lt_of_le hp4 g5.size
     simp only [List.set_cons_zero] at hX5
     clear hpush hX4 hown8 hR4 hRr4 hC4 hlow g5 hW4 hS4 hCd4 hp4
     have hdl2:(done++[xs]).length=k+1:=by simp [hdl]
     generalize done++[xs]=done2 at hok2 hR5 hdl2
     generalize vs++[.slice aC i capC]=vs2 at hV5 hR5
     go_wp2
     go_roundw
     case rel=>exact ⟨k+1,T+6+i*9,done2,vs2,aW,capW,by omega,(by first | go_num | (rw [HK2.out];rfl)),by omega,hdl2,hok2,hR5,hV5,hX5,hRr5,hS5,hC5,hp5,hW5⟩
     case measure=>have h9:=HK2.out;simp [intOf];omega
   have hk2':((k:Int) == 2)=false:=beq_eq_false_iff_ne.2 (by omega)
   have HK3:Hid (k≠2):=hk2
   have hnn:v1≤3:=by omega
   obtain ⟨nn,hnnd⟩:∃ nn:Nat,nn=v1:=⟨_,rfl⟩
   rw [← hnnd] at hnn
   rw [← hnnd]
   clear hnnd hv1
   replace hS:=hS.mono (show T+3≤T+6 by omega)
   obtain ⟨w5,hw5⟩:∃ w5,w5=w4:=⟨_,rfl⟩
   subst hw5
   have hCo:=NW w5 122 3 w5.heap.size (Nat.le_refl _)
   have hWo:=(YG.refl p w5).alloc (.cells #[] 122)
   have hSo:=hS.alloc (.cells #[] 122)
   have hpo:p<(w5.alloc (.cells #[] 122)).heap.size:=by simp;omega
   have hCdo:=hC.below ((Below.refl p w5).alloc (Nat.le_of_lt hpl) (.cells #[] 122))
   go_wp2
   go_loopw [6,7] (fun sv si wi=>∃ (i:Nat) (xs:List I3),i≤nn∧si=.int .i64 i∧xs.length=i∧Hid (KC nn xs)∧wi.ownsRow w5.heap.size 122 3 sv i (Zn xs)∧Src wi p (.slice a n cap) (T+6+i*9)∧TO wi p a n cap∧p<wi.heap.size∧YG p w5 wi) (fun _ si _=>nn - (intOf si).toNat)
   case atStart=>exact ⟨0,[],by omega,rfl,rfl,(fun i hi=>by simp at hi),hCo,hSo,hCdo,hpo,hWo⟩
   case round =>
    clear hCo hWo hSo hpo hCdo
    obtain ⟨i,xs,hin,rfl,hxl,hxo,hr,hSi,hCi,hpi,hWi⟩:=hrel
    by_cases him:i<nn
    ·have him2:(i:Int)<(nn:Int):=by omega
     go_wp2_with fail
     refine (P1 p (T+6+i*9) a n cap i nn _ hSi hCi (by omega) him hnn).mono ?_
     rintro e w6 ⟨⟨x,⟨hx1,hx2⟩,rfl⟩,hS6,hW6⟩
     have hxo2:Hid (KC nn (xs++[x])):=Nl hxo.out hx1 (by rw [hxl];exact hx2)
     replace hr:=ZI hr hW6 hpl
     replace hCi:=hCi.went hW6 (Nat.le_of_lt hpi)
     replace hpi:=Nat.lt_of_lt_of_le hpi hW6.size
     replace hWi:=hWi.trans hW6
     have hbs6:=hWi.size
     clear hSi hW6 hx1 hx2 hxo
     have HXL:Hid (xs.length=i):=hxl
     clear hxl
     obtain ⟨x0,x1,x2⟩:=x
     unfold I3.val
     go_wp2_with (at_builtin;refine wpList_append_own _ rfl _ _ 91 rfl w5.heap.size 122 i0 (.agg #[.int .i64 0,.int .i64 0,.int .i64 0]) 3 24 Tryz.underlying91 hi hz0 hz1 hz2 rfl (by decide) _ _ _ rfl (hr.alloc _) ⟨w6.heap.size,0,none⟩ 1 1 [.int .i64 x0,.int .i64 x1,.int .i64 x2] rfl rfl (Vw _ _ _ _ _) (Nt _ _ _) ?c3 ?c4 ?c5 ?_)
     case c3=>unfold maxLen;omega
     case c4=>omega
     case c5=>simp;omega
     intro v7 w7 hown7 hgrow7 _
     have hr7:w7.ownsRow w5.heap.size 122 3 v7 (i+1) (Zn (xs++[(x0,x1,x2)])):=by rw [PR];exact hown7
     have hW7:YG p w5 w7:=(hWi.alloc (.cells #[.int .i64 x0,.int .i64 x1,.int .i64 x2] 122)).grown hgrow7 (fun j hj=>(hr.lt _ hj).1)
     have hS7:=((hS6.alloc (.cells #[.int .i64 x0,.int .i64 x1,.int .i64 x2] 122)).grown hgrow7 (fun k e=>by have:=(hr.lt k e).1;omega)).mono (show T+6+i*9+9≤T+6+(i+1)*9 by omega)
     have hC7:=hCi.below ((((Below.refl p w6).alloc (Nat.le_of_lt hpi) (.cells #[.int .i64 x0,.int .i64 x1,.int .i64 x2] 122))).grown hgrow7 (by simp;omega) (fun j hj=>by have:=(hr.lt j hj).1;omega))
     have hp7:p<w7.heap.size:=by have:=hgrow7.size;simp at this;omega
     clear hown7 hgrow7 hr hWi hS6 hCi hpi
     go_wp2
     go_roundw
     case rel=>exact ⟨i+1,xs++[(x0,x1,x2)],by omega,by go_num,by simp [HXL.out],hxo2,hr7,hS7,hC7,hp7,hW7⟩
     case measure=>simp [intOf];omega
    obtain rfl:i=nn:=by omega
    have hcok:ZP xs=true:=PJ (by omega) (by rw [hxl];exact hxo.out)
    have hok2:Hid (VI (done++[xs])):=VI.snoc hok.out hcok (by rw [hdl,hxl];unfold DE;rw [if_neg HK3.out];exact hnn)
    obtain ⟨aC,capC,hv⟩:∃ aC capC,u6=.slice aC i capC:=by
     rcases hr.2 with ⟨hv,h0⟩ | ⟨g,cp,cur,hv,_⟩
     ·exact ⟨none,0,by rw [h0];exact hv⟩
     exact ⟨_,cp,hv⟩
    subst hv
    have hlow:∀ t x,t<k→(vs.getD t undef).ownBlock=some x→x<w5.heap.size:=fun t x ht hx=>((hR.1 t ht).lt x hx).2
    have hw5B:w.heap.size≤w5.heap.size:=hWt.size
    have hR':=hR.went hWi hpB
    have hV':=ZI hV hWi hpB
    have hX':=ZI hX hWi hpB
    have hRr':=ZI hRr hWi hpB
    have hWt':=hWt.trans hWi
    have hcX:wr.cell? ⟨X,0,none⟩=some (.slice aV k capV):=by simpa using hX'.cellAt 0 (by omega)
    have hbs8:=hWt'.size
    clear hR hV hX hRr hWt hWi hS hC hpl hok hxo hcok
    go_wp2_with (at_builtin;refine wpList_append_own _ rfl _ _ 23 rfl w.heap.size 91 j0 (.slice none 0 0) 1 24 Tryz.underlying23 hj hy0 hy1 hy2 rfl (by decide) _ _ _ rfl (hV'.alloc _) ⟨wr.heap.size,0,none⟩ 1 1 [.slice aC i capC] rfl rfl (QS _ _ _) (Jp _ _ _) ?c3 ?c4 ?c5 ?_)
    case c3=>unfold maxLen;omega
    case c4=>omega
    case c5=>simp;omega
    intro v8 w8 hown8 hgrow8 _
    have hA:=hr.alloc (.cells #[.slice aC i capC] 91)
    have hV2:=hV'.alloc (.cells #[.slice aC i capC] 91)
    have hC4:=hA.kept hgrow8 (Ys hA hV2 (by decide))
    have hR4:Wo w8 w.heap.size k vs done:=⟨fun t ht=>((hR'.1 t ht).alloc _).kept hgrow8 (Ys ((hR'.1 t ht).alloc _) hV2 (by decide)),hR'.2⟩
    have hX4:=(hX'.alloc (.cells #[.slice aC i capC] 91)).kept hgrow8 (Ys (hX'.alloc _) hV2 (by decide))
    have hRr4:=(hRr'.alloc (.cells #[.slice aC i capC] 91)).kept hgrow8 (Ys (hRr'.alloc _) hV2 (by decide))
    have hW4:YG p w w8:=(hWt'.alloc (.cells #[.slice aC i capC] 91)).grown hgrow8 (fun j hj=>(hV'.lt _ hj).1)
    have hS4:=(hSi.alloc (.cells #[.slice aC i capC] 91)).grown hgrow8 (fun j e=>by have:=(hV'.lt j e).1;omega)
    have hCd4:=hCi.below (((Below.refl p wr).alloc (Nat.le_of_lt hpi) (.cells #[.slice aC i capC] 91)).grown hgrow8 (by simp;omega) (fun j hj=>by have:=(hV'.lt j hj).1;omega))
    have hp4:p<w8.heap.size:=by have:=hgrow8.size;simp at this;omega
    clear hA hV2 hV' hR' hX' hRr' hWt' hgrow8 hr hcX hSi hCi hpi
    obtain ⟨aW,capW,hv4⟩:∃ aW capW,v8=.slice aW (k+1) capW:=by
     rcases hown8.2 with ⟨hv,h0⟩ | ⟨g,cp,cur,hv,_⟩
     ·omega
     exact ⟨_,cp,hv⟩
    subst hv4
    have hlv:vs.length=k:=by have:=hown8.1;simp at this;omega
    have hpush:=hR4.push' (s0:=w5.heap.size) hlv hdl hlow (r:=xs) (sv:=.slice aC i capC) (by rw [hxl];exact hC4) hw5B
    have fX:=hX4.frozenAt 0
    have cX:w8.cell? ⟨X,0,none⟩=some (.slice aV k capV):=by simpa using hX4.cellAt 0 (by omega)
    have hX5:=(hX4.stored 0 (.slice aW (k+1) capW)).1
    have hV5:(w8.setCell ⟨X,0,none⟩ (.slice aW (k+1) capW)).ownsRow w.heap.size 91 1 (.slice aW (k+1) capW) (k+1) (vs++[.slice aC i capC]):=ownsRow_setCell_other hown8 (Uh hown8 hX4 (by decide)) _
    have hR5:Wo (w8.setCell ⟨X,0,none⟩ (.slice aW (k+1) capW)) w.heap.size (k+1) (vs++[.slice aC i capC]) (done++[xs]):=⟨fun t ht=>ownsRow_setCell_other (hpush.1 t ht) (Uh (hpush.1 t ht) hX4 (by decide)) _,hpush.2⟩
    have hRr5:(w8.setCell ⟨X,0,none⟩ (.slice aW (k+1) capW)).ownsRow w.heap.size 25 1 (.slice (some ⟨w.heap.size,0,none⟩) 1 1) 1 [.slice none 0 0]:=ownsRow_setCell_other hRr4 (by simp [Value.ownBlock];omega) _
    have g5:=Zh w8 X 0 (.slice aW (k+1) capW)
    have hW5:=hW4.grown g5 (fun j e=>by cases e;omega)
    have hS5:=hS4.grown g5 (fun j e=>by cases e;omega)
    have hC5:=hCd4.below (ZX g5 (show p≤X by omega) (Nat.le_of_lt hp4))
    have hp5:p<(w8.setCell ⟨X,0,none⟩ (.slice aW (k+1) capW)).heap.size:=Nat.lt_of_lt_of_le hp4 g5.size
    simp only [List.set_cons_zero] at hX5
    clear hpush hX4 hown8 hR4 hRr4 hC4 hlow g5 hW4 hS4 hCd4 hp4
    have hdl2:(done++[xs]).length=k+1:=by simp [hdl]
    generalize done++[xs]=done2 at hok2 hR5 hdl2
    generalize vs++[.slice aC i capC]=vs2 at hV5 hR5
    go_wp2
    go_roundw
    case rel=>exact ⟨k+1,T+6+i*9,done2,vs2,aW,capW,by omega,by go_num,by omega,hdl2,hok2,hR5,hV5,hX5,hRr5,hS5,hC5,hp5,hW5⟩
    case measure=>simp [intOf];omega
  obtain rfl:k=3:=by omega
  have hp3:Vs done:=⟨Gt hdl hok.out.1,VI.small hok.out hdl⟩
  have HP:Hid (Vs done):=hp3
  have hcX:wr.cell? ⟨X,0,none⟩=some (.slice aV 3 capV):=by simpa using hX.cellAt 0 (by omega)
  have kR:wr.cell? ⟨w.heap.size,0,none⟩=some (.slice none 0 0):=by simpa using hRr.cellAt 0 (by omega)
  have fR:=hRr.frozenAt 0
  have hOP:Xb (wr.setCell ⟨w.heap.size,0,none⟩ (.slice aV 3 capV)) w.heap.size (.slice aV 3 capV) done:=⟨vs,by rw [hdl];exact ownsRow_setCell_other hV (Uh hV hRr (by decide)) _,by have:=hV.1;omega,fun t ht=>ownsRow_setCell_other (hR.1 t (by omega)) (Uh (hR.1 t (by omega)) hRr (by decide)) _,fun t t' ht ht'=>hR.2 t t' (by omega) (by omega)⟩
  have g9:=Zh wr w.heap.size 0 (.slice aV 3 capV)
  have hb9:YG p w (wr.setCell ⟨w.heap.size,0,none⟩ (.slice aV 3 capV)):=hWt.grown g9 (fun k e=>by cases e;exact Nat.le_refl _)
  have k3:(wr.setCell ⟨w.heap.size,0,none⟩ (.slice aV 3 capV)).cell? ⟨w.heap.size,0,none⟩=some (.slice aV 3 capV):=World.cell?_setCell_same' _ _ _ (by rw [kR];rfl)
  clear hRr hR hV hX hS hC hWt g9 hp3 hok
  go_wp2
  clear kR fR hcX
  generalize wr.setCell ⟨w.heap.size,0,none⟩ (.slice aV 3 capV)=w9 at hb9 k3 hOP
  refine bodyPost_ret (by simp [results,Tryz.results45,go_sem,k3];try rfl) rfl ?_
  exact ⟨⟨_,done,HP.out,rfl,hOP⟩,hb9⟩


def IsL (w:World) (v:Value) (xs:List Int):Prop:=∃ la ln lc,v=.slice la ln lc∧Yn .i64 w la ln lc xs
theorem IsL.below {w w':World} {v:Value} {xs:List Int} (h:IsL w v xs) (hb:Below w.heap.size w w'):IsL w' v xs:=by
 obtain ⟨la,ln,lc,rfl,hi⟩:=h
 exact ⟨la,ln,lc,rfl,hi.below hb⟩
def JI (w:World) (vs:List Value) (xss:List (List Int)):Prop:=vs.length=xss.length∧∀ t,t<xss.length→IsL w (vs.getD t undef) (xss.getD t [])
theorem JI.below {w w':World} {vs:List Value} {xss:List (List Int)} (h:JI w vs xss) (hb:Below w.heap.size w w'):JI w' vs xss:=⟨h.1,fun t ht=>(h.2 t ht).below hb⟩
def TR (w:World) (a:Option Addr) (n c:Nat) (xss:List (List Int)):Prop:=
 xss.length=n∧n≤c∧c≤maxLen∧∃ vs,JI w vs xss∧(n=0∨∃ b off,a=some ⟨b,off,none⟩∧b<w.heap.size∧∀ t,t<n→w.cell? ⟨b,off+t,none⟩=some (vs.getD t undef))
theorem TR.below {w w':World} {a:Option Addr} {n c:Nat} {xss:List (List Int)} (h:TR w a n c xss) (hb:Below w.heap.size w w'):TR w' a n c xss:=by
 obtain ⟨h1,h2,h3,vs,h4,h5⟩:=h
 refine ⟨h1,h2,h3,vs,h4.below hb,?_⟩
 rcases h5 with h5 | ⟨b,off,h6,h7,h8⟩
 ·exact .inl h5
 exact .inr ⟨b,off,h6,Nat.lt_of_lt_of_le h7 hb.size,fun t ht=>by rw [hb.cell (p:=⟨b,off+t,none⟩) h7];exact h8 t ht⟩
theorem TR.cell {w:World} {a:Option Addr} {n c:Nat} {xss:List (List Int)} (h:TR w a n c xss) {t:Nat} (ht:t<n):∃ b off la ln lc,a=some ⟨b,off,none⟩∧w.cell? ⟨b,off+t,none⟩=some (.slice la ln lc)∧Yn .i64 w la ln lc (xss.getD t []):=by
 obtain ⟨h1,h2,h3,vs,h4,h5⟩:=h
 rcases h5 with h5 | ⟨b,off,h6,h7,h8⟩
 ·omega
 obtain ⟨la,ln,lc,e,hi⟩:=h4.2 t (by omega)
 exact ⟨b,off,la,ln,lc,h6,by rw [h8 t ht,e],hi⟩
theorem TR.own {w:World} {B n c:Nat} {a:Option Addr} {vs:List Value} {xss:List (List Int)} (h:w.ownsRow B 36 1 (.slice a n c) n vs) (hl:xss.length=n) (hA:JI w vs xss):TR w a n c xss:=by
 rcases h.2 with ⟨e,h0⟩ | ⟨b,cc,cur,e,h1,h2,h3,h4⟩
 ·cases e
  exact ⟨by omega,by omega,by unfold maxLen;omega,vs,hA,.inl (by omega)⟩
 cases e
 refine ⟨hl,by omega,by omega,vs,hA,.inr ⟨b,0,rfl,(h.lt b rfl).2,fun t ht=>?_⟩⟩
 rw [Nat.zero_add,h.cellAt t (by omega)]
 have hq:=hA.1
 simp [List.getD,show t<vs.length by omega]


theorem QH:Maps.Keyed Tryz.prog 3:=Maps.int_keyed Tryz.underlying3
theorem GV (w:World):(zeroValue 3).run Tryz.prog w=.ok (.int .i64 0) w:=by kernel_rfl
structure Qf (D:DataW Unit) (xs:List Int):Prop where
 has:∀ x:Int,Maps.has D (.int .i64 x)=true↔x ∈ xs
 bnd:∀ x c:Int,D.atKey (.int .i64 x) (.lit (.int .i64 0))=.lit (.int .i64 c)→0≤c∧c≤xs.length
theorem Qf.start:Qf (.map []) []:=⟨fun t=>by simp [Maps.has],fun x c h=>by
 simp [DataW.atKey] at h
 subst h
 simp⟩
theorem Jc {s t:Int} (h:s≠t):(Lit.int .i64 s)≠Lit.int .i64 t:=fun e=>by
 injection e with _ e
 exact h e
theorem Qf.put {D:DataW Unit} {xs:List Int} (h:Qf D xs) (hm:Maps.IsMap D) {x c:Int} (hc0:0≤c) (hc:c≤xs.length) :
  Qf (D.put (.int .i64 x) (.lit (.int .i64 (c+1)))) (xs++[x]):=by
 have hkl:WideAt.IsKeyLit (.int .i64 x):=trivial
 refine ⟨fun t=>?_,fun y d hd=>?_⟩
 ·by_cases e:t=x
  ·subst e
   rw [Maps.has_put_same hm hkl]
   simp
  rw [Maps.has_put_other (Jc e),h.has]
  simp [e]
 by_cases e:y=x
 ·subst e
  rw [Maps.atKey_put_same hm hkl] at hd
  injection hd with hd
  injection hd with _ hd
  subst hd
  simp
  omega
 rw [Maps.atKey_put_other (Jc e)] at hd
 have:=h.bnd y d hd
 simp
 omega
theorem Cy {z:Int} (h:0≤z) (h':z≤2000000000):(Lit.int .i64 z).wf=true:=by
 simp only [Lit.wf,Bool.and_eq_true,decide_eq_true_eq]
 have h1:IntKind.i64.min=-9223372036854775808:=by decide
 have h2:IntKind.i64.max=9223372036854775807:=by decide
 omega
theorem FA {x:Int} (h:(Lit.int .i64 x).wf=true):keyOf Tryz.prog 3 (.int .i64 x)=some (.int .i64 x):=by
 simp [keyOf,Tryz.underlying3,mapKey,h]
def CO (e:Ending) (w':World) (B:Nat) (xs:List Int):Prop:=e=.returned (.map (some B))∧∃ D:DataW Unit,w'.ownsMap Tryz.prog 3 (plainElem Tryz.prog 3) B xs.length D∧Qf D xs

theorem J8 {xss:List (List Int)} {i:Nat} (h:i<xss.length):(xss.take (i+1)).flatten=(xss.take i).flatten++xss.getD i []:=by
 have e:xss.getD i []=xss[i]:=by simp [List.getD,List.getElem?_eq_getElem h]
 rw [List.take_succ_eq_append_getElem h,List.flatten_append,e]
 simp only [List.flatten_cons,List.flatten_nil,List.append_nil]
theorem Fq (xss:List (List Int)) (i:Nat):(xss.take i).flatten.length≤xss.flatten.length:=by
 conv=>rhs;rw [← List.take_append_drop i xss]
 rw [List.flatten_append,List.length_append]
 omega
theorem Pb {Z:List Int} {k:Nat} (h:k<Z.length):Z.take (k+1)=Z.take k++[Z.getD k 0]:=by
 rw [List.take_succ_eq_append_getElem h]
 simp [List.getD,List.getElem?_eq_getElem h]

theorem FJ (a:Option Addr) (n c:Nat) (xss:List (List Int)) (w:World) (h:TR w a n c xss) (hn:n≤1000000) (hT:xss.flatten.length≤1000000000) (hF:∀ x ∈ xss.flatten,(Lit.int .i64 x).wf=true) :
  Calls Tryz.prog 102 #[.slice a n c] w fun e w'=>CO e w' w.heap.size xss.flatten∧Below w.heap.size w w':=by
 have hmm:=@run_makeMap Tryz.prog
 have hl:=h.1
 have hm0:(w.alloc (.map #[] 0)).ownsMap Tryz.prog 3 (plainElem Tryz.prog 3) w.heap.size 0 (.map []:DataW Unit):=World.ownsMap_made (H:=Unit) w Tryz.prog 3 (plainElem Tryz.prog 3)
 have hb0:Below w.heap.size w (w.alloc (.map #[] 0)):=⟨rfl,rfl,rfl,by simp,fun k hk=>Below.heap_alloc w _ k hk⟩
 obtain ⟨R,hR⟩:∃ R:World→Nat→List Int→Prop,∀ wr tot xs,R wr tot xs↔(∃ D:DataW Unit,wr.ownsMap Tryz.prog 3 (plainElem Tryz.prog 3) w.heap.size tot D∧Qf D xs)∧Below w.heap.size w wr:=⟨fun wr tot xs=>(∃ D:DataW Unit,wr.ownsMap Tryz.prog 3 (plainElem Tryz.prog 3) w.heap.size tot D∧Qf D xs)∧Below w.heap.size w wr,fun _ _ _=>Iff.rfl⟩
 have hR0:R (w.alloc (.map #[] 0)) 0 []:=(hR _ _ _).2 ⟨⟨_,hm0,Qf.start⟩,hb0⟩
 clear hm0 hb0
 go_enter Tryz.func102,Tryz.ntmps102
 go_wp2_with fail
 go_loopw [11] (fun si wr=>∃ i:Nat,i≤n∧si=.int .i64 i∧R wr ((xss.take i).flatten.length) ((xss.take i).flatten)) (fun si _=>n - (Go.RowKit.intOf si).toNat)
 case atStart=>exact ⟨0,by omega,rfl,by simpa using hR0⟩
 case round =>
  obtain ⟨i,hi,rfl,hr⟩:=hrel
  by_cases hlt:i<n
  ·have hlt':(i:Int)<(n:Int):=by omega
   obtain ⟨b,off,la,ln,lc,rfl,hcw,hI⟩:=h.cell hlt
   have hI0:=hI
   have hc:=hcw
   rw [← ((hR _ _ _).1 hr).2.cell (p:=⟨b,off+i,none⟩) (QK hcw)] at hc
   obtain ⟨zs,hzs⟩:∃ zs,zs=xss.getD i []:=⟨_,rfl⟩
   have hfl:=J8 (xss:=xss) (i:=i) (by omega)
   have hle:=Fq xss (i+1)
   rw [hfl,List.length_append] at hle
   rw [← hzs] at hI hI0 hfl hle
   have hlz:=hI.1
   have hzm:∀ x ∈ zs,(Lit.int .i64 x).wf=true:=fun x hx=>hF x (by
    rw [hzs] at hx
    have hi2:i<xss.length:=by omega
    rw [List.mem_flatten]
    refine ⟨xss.getD i [],?_,hx⟩
    simp [List.getD,List.getElem?_eq_getElem hi2])
   clear hzs
   obtain ⟨ys,hys⟩:∃ ys,ys=(xss.take i).flatten:=⟨_,rfl⟩
   rw [← hys] at hr hfl hle
   have HF:Hid ((xss.take (i+1)).flatten=ys++zs):=hfl
   have hbW:=((hR _ _ _).1 hr).2
   clear hys hfl
   go_wp2_with fail
   go_loopw [17] (fun sj wq=>∃ j:Nat,j≤ln∧sj=.int .i64 j∧R wq (ys.length+j) (ys++zs.take j)) (fun sj _=>ln - (Go.RowKit.intOf sj).toNat)
   case atStart=>exact ⟨0,by omega,rfl,by simpa using hr⟩
   case round =>
    obtain ⟨j,hj,rfl,hq⟩:=hrel
    by_cases hlj:j<ln
    ·have hlj':(j:Int)<(ln:Int):=by omega
     obtain ⟨⟨D,hm,hS⟩,hbl⟩:=(hR _ _ _).1 hq
     obtain ⟨_,_,_,hcase⟩:=hI0.below hbl
     rcases hcase with e0 | ⟨lb,lo,rfl,_,hcc⟩
     ·omega
     have d0:=hcc j hlj
     have hx:=hzm (zs.getD j 0) (by simp [List.getD,List.getElem?_eq_getElem (show j<zs.length by omega)])
     have hsn:ys++zs.take (j+1)=(ys++zs.take j)++[zs.getD j 0]:=by rw [Pb (by omega),List.append_assoc]
     have HS:Hid (ys++zs.take (j+1)=(ys++zs.take j)++[zs.getD j 0]):=hsn
     have hlen:(ys++zs.take j).length=ys.length+j:=by simp;omega
     generalize zs.getD j 0=x at d0 hx HS
     have hkey:=FA hx
     have hT2:ys.length+j≤1000000000:=by omega
     clear hcc hI hI0 hzm hc hcw hsn hF hx
     have hbn:∀ c:Int,D.atKey (.int .i64 x) (.lit (.int .i64 0))=.lit (.int .i64 c)→(0≤c∧c≤1000000000)∧Qf (D.put (.int .i64 x) (.lit (.int .i64 (c+1)))) (ys++zs.take j++[x]):=fun c hat=>by
      have:=hS.bnd x c hat
      exact ⟨by omega,hS.put hm.isMap this.1 this.2⟩
     clear hS hlen
     go_wp2_with (first | (at_lookup;refine wpList_lookup_own_int _ rfl _ _ 173 rfl 3 3 .i64 QH Tryz.underlying173 Tryz.underlying3 (GV _) w.heap.size (ys.length+j) D rfl hm _ _ rfl hkey ?_;intro cc hat hwc;obtain ⟨⟨hc0,hc1⟩,hSP⟩:=hbn cc hat;clear hbn hat hwc) | (at_mapUpdate;refine wpList_mapUpdate_own _ rfl _ _ _ 173 rfl 3 3 QH Tryz.underlying173 _ w.heap.size (ys.length+j) D rfl hm (by unfold maxLen;omega) _ _ _ rfl rfl hkey _ [] (plainElem_int Tryz.underlying3 (Cy (by omega) (by omega))) ?_;intro w3 hm3 g3))
     have hb3:Below w.heap.size w w3:=hbl.grown g3 hbl.size (fun k e=>by cases e;exact Nat.le_refl _)
     go_roundw
     case rel=>exact ⟨j+1,by omega,by go_num,(hR _ _ _).2 ⟨⟨_,by rw [← Nat.add_assoc];exact hm3,by rw [HS.out];exact hSP⟩,hb3⟩⟩
     case measure=>simp [Go.RowKit.intOf];omega
    obtain rfl:j=ln:=by omega
    have e9:zs.take j=zs:=List.take_of_length_le (by omega)
    rw [e9,← hlz,← List.length_append,← HF.out] at hq
    clear e9 HF
    go_wp2
    go_roundw
    case rel=>exact ⟨i+1,by omega,by go_num,hq⟩
    case measure=>simp [Go.RowKit.intOf];omega
  obtain rfl:i=n:=by omega
  have e9:xss.take i=xss:=List.take_of_length_le (by omega)
  rw [e9,hR] at hr
  obtain ⟨⟨D,hm,hS⟩,hbl⟩:=hr
  clear e9
  go_wp2
  go_ret
  exact ⟨⟨rfl,D,hm,hS⟩,hbl⟩

open Go.RowKit Go.Maps Go.Sort Go.Shelf

def P3:Go.Shelf.Ren:=⟨fun | 7=>101 | 10=>140 | n=>n,fun | 23=>173 | 26=>3 | 3=>3 | 28=>171 | 0=>0 | 27=>170 | 33=>124 | 4=>4 | n=>n,fun | n=>n⟩
theorem Cz:Go.Proofs.SlLaysZI.n7 Tryz.prog P3:={
 mixed:=by kernel_rfl
 f7:=⟨Tryz.f101.name,by decide,Tryz.func101.trans (congrArg some (by kernel_rfl))⟩
 f10:=⟨Tryz.f140.name,by decide,Tryz.func140.trans (congrArg some (by kernel_rfl))⟩
 t0:=Tryz.underlying0
 a0:=Tryz.isAgg0
 z0:=Tryz.sizeOf0
 v0:=Tryz.zeroValue0
 t4:=Tryz.underlying4
 a4:=Tryz.isAgg4
 z4:=Tryz.sizeOf4
 v4:=Tryz.zeroValue4
 t23:=Tryz.underlying173
 a23:=Tryz.isAgg173
 z23:=Tryz.sizeOf173
 v23:=Tryz.zeroValue173
 t26:=Tryz.underlying3
 a26:=Tryz.isAgg3
 z26:=Tryz.sizeOf3
 v26:=Tryz.zeroValue3
 t27:=Tryz.underlying170
 a27:=Tryz.isAgg170
 z27:=Tryz.sizeOf170
 v27:=Tryz.zeroValue170
 t28:=Tryz.underlying171
 a28:=Tryz.isAgg171
 z28:=Tryz.sizeOf171
 v28:=Tryz.zeroValue171
 t33:=Tryz.underlying124
 a33:=Tryz.isAgg124
 z33:=Tryz.sizeOf124
 v33:=Tryz.zeroValue124 }
def RS:Go.Shelf.Ren:=⟨fun | 6=>100 | 8=>138 | 9=>139 | 11=>166 | 13=>162 | 12=>167 | 23=>179 | 24=>180 | 14=>190 | 15=>191 | 16=>192 | 17=>193 | 18=>194 | 19=>195 | 20=>196 | 21=>197 | 22=>198 | 25=>208 | 26=>200 | 27=>201 | 28=>209 | 29=>210 | 30=>114 | 31=>213 | n=>n,fun | 26=>3 | 28=>171 | 24=>36 | 0=>0 | 3=>3 | 37=>204 | 48=>249 | 50=>251 | 4=>4 | 40=>243 | 39=>242 | 45=>114 | 5=>5 | 9=>9 | 51=>263 | 55=>267 | 57=>273 | 58=>128 | 33=>124 | n=>n,fun | n=>n⟩
theorem Cp:Go.Proofs.SlLaysZI.n6 Tryz.prog RS:={
 mixed:=by kernel_rfl
 f6:=⟨Tryz.f100.name,by decide,Tryz.func100.trans (congrArg some (by kernel_rfl))⟩
 f8:=⟨Tryz.f138.name,by decide,Tryz.func138.trans (congrArg some (by kernel_rfl))⟩
 f11:=⟨Tryz.f166.name,by decide,Tryz.func166.trans (congrArg some (by kernel_rfl))⟩
 t0:=Tryz.underlying0
 a0:=Tryz.isAgg0
 z0:=Tryz.sizeOf0
 v0:=Tryz.zeroValue0
 t24:=Tryz.underlying36
 a24:=Tryz.isAgg36
 z24:=Tryz.sizeOf36
 v24:=Tryz.zeroValue36
 t26:=Tryz.underlying3
 a26:=Tryz.isAgg3
 z26:=Tryz.sizeOf3
 v26:=Tryz.zeroValue3
 t28:=Tryz.underlying171
 a28:=Tryz.isAgg171
 z28:=Tryz.sizeOf171
 v28:=Tryz.zeroValue171
 i26:=by kernel_rfl }
def GE:Go.Shelf.Ren:=⟨fun | 5=>139 | 8=>162 | 7=>167 | 19=>179 | 20=>180 | 10=>190 | 11=>191 | 12=>192 | 13=>193 | 14=>194 | 15=>195 | 16=>196 | 17=>197 | 18=>198 | 30=>208 | 31=>200 | 32=>201 | 33=>209 | 34=>210 | 35=>114 | 40=>213 | n=>n,fun | 23=>36 | 25=>3 | 3=>3 | 32=>204 | 22=>36 | 0=>0 | 44=>249 | 46=>251 | 4=>4 | 36=>243 | 35=>242 | 41=>114 | 5=>5 | 9=>9 | 53=>263 | 57=>267 | 63=>273 | 64=>128 | n=>n,fun | n=>n⟩
theorem CH:Go.Proofs.SlLaysM.n5 Tryz.prog GE:={
 mixed:=by kernel_rfl
 f5:=⟨Tryz.f139.name,by decide,Tryz.func139.trans (congrArg some (by kernel_rfl))⟩
 f7:=⟨Tryz.f167.name,by decide,Tryz.func167.trans (congrArg some (by kernel_rfl))⟩
 f8:=Tryz.func162.trans (congrArg some (by kernel_rfl))
 f10:=⟨Tryz.f190.name,by decide,Tryz.func190.trans (congrArg some (by kernel_rfl))⟩
 f11:=⟨Tryz.f191.name,by decide,Tryz.func191.trans (congrArg some (by kernel_rfl))⟩
 f12:=⟨Tryz.f192.name,by decide,Tryz.func192.trans (congrArg some (by kernel_rfl))⟩
 f13:=⟨Tryz.f193.name,by decide,Tryz.func193.trans (congrArg some (by kernel_rfl))⟩
 f14:=⟨Tryz.f194.name,by decide,Tryz.func194.trans (congrArg some (by kernel_rfl))⟩
 f15:=⟨Tryz.f195.name,by decide,Tryz.func195.trans (congrArg some (by kernel_rfl))⟩
 f16:=⟨Tryz.f196.name,by decide,Tryz.func196.trans (congrArg some (by kernel_rfl))⟩
 f17:=⟨Tryz.f197.name,by decide,Tryz.func197.trans (congrArg some (by kernel_rfl))⟩
 f18:=⟨Tryz.f198.name,by decide,Tryz.func198.trans (congrArg some (by kernel_rfl))⟩
 f19:=Tryz.func179.trans (congrArg some (by kernel_rfl))
 f20:=Tryz.func180.trans (congrArg some (by kernel_rfl))
 f30:=⟨Tryz.f208.name,by decide,Tryz.func208.trans (congrArg some (by kernel_rfl))⟩
 f31:=Tryz.func200.trans (congrArg some (by kernel_rfl))
 f32:=Tryz.func201.trans (congrArg some (by kernel_rfl))
 f33:=⟨Tryz.f209.name,by decide,Tryz.func209.trans (congrArg some (by kernel_rfl))⟩
 f34:=⟨Tryz.f210.name,by decide,Tryz.func210.trans (congrArg some (by kernel_rfl))⟩
 f35:=⟨Tryz.f114.name,by decide,Tryz.func114.trans (congrArg some (by kernel_rfl))⟩
 f40:=⟨Tryz.f213.name,by decide,Tryz.func213.trans (congrArg some (by kernel_rfl))⟩
 t0:=Tryz.underlying0
 a0:=Tryz.isAgg0
 z0:=Tryz.sizeOf0
 v0:=Tryz.zeroValue0
 t3:=Tryz.underlying3
 a3:=Tryz.isAgg3
 z3:=Tryz.sizeOf3
 v3:=Tryz.zeroValue3
 t4:=Tryz.underlying4
 a4:=Tryz.isAgg4
 z4:=Tryz.sizeOf4
 v4:=Tryz.zeroValue4
 t5:=Tryz.underlying5
 a5:=Tryz.isAgg5
 z5:=Tryz.sizeOf5
 v5:=Tryz.zeroValue5
 t9:=Tryz.underlying9
 a9:=Tryz.isAgg9
 z9:=Tryz.sizeOf9
 v9:=Tryz.zeroValue9
 t22:=Tryz.underlying36
 a22:=Tryz.isAgg36
 z22:=Tryz.sizeOf36
 v22:=Tryz.zeroValue36
 t23:=Tryz.underlying36
 a23:=Tryz.isAgg36
 z23:=Tryz.sizeOf36
 v23:=Tryz.zeroValue36
 t25:=Tryz.underlying3
 a25:=Tryz.isAgg3
 z25:=Tryz.sizeOf3
 v25:=Tryz.zeroValue3
 t32:=Tryz.underlying204
 a32:=Tryz.isAgg204
 z32:=Tryz.sizeOf204
 v32:=Tryz.zeroValue204
 t35:=Tryz.underlying242
 a35:=Tryz.isAgg242
 z35:=Tryz.sizeOf242
 v35:=Tryz.zeroValue242
 t36:=Tryz.underlying243
 a36:=Tryz.isAgg243
 z36:=Tryz.sizeOf243
 v36:=Tryz.zeroValue243
 t41:=Tryz.underlying114
 a41:=Tryz.isAgg114
 z41:=Tryz.sizeOf114
 v41:=Tryz.zeroValue114
 t44:=Tryz.underlying249
 a44:=Tryz.isAgg249
 z44:=Tryz.sizeOf249
 v44:=Tryz.zeroValue249
 t46:=Tryz.underlying251
 a46:=Tryz.isAgg251
 z46:=Tryz.sizeOf251
 v46:=Tryz.zeroValue251
 t53:=Tryz.underlying263
 a53:=Tryz.isAgg263
 z53:=Tryz.sizeOf263
 v53:=Tryz.zeroValue263
 t57:=Tryz.underlying267
 a57:=Tryz.isAgg267
 z57:=Tryz.sizeOf267
 v57:=Tryz.zeroValue267
 t63:=Tryz.underlying273
 a63:=Tryz.isAgg273
 z63:=Tryz.sizeOf273
 v63:=Tryz.zeroValue273
 t64:=Tryz.underlying128
 a64:=Tryz.isAgg128
 z64:=Tryz.sizeOf128
 v64:=Tryz.zeroValue128 }

theorem C9 (m:Nat):AnyZI.SortsIn Tryz.prog RS Fence.wide m:=
 ⟨fun blk off cap ss W hH hblk hsz=>callsIn_wide.2 (AnyM.slices_Sort_int CH blk off cap ss W hH hblk hsz),
  fun p cap W=>callsIn_wide.2 (AnyM.slices_Sort_int_none CH p cap W)⟩
theorem Bk (mb:Option Nat) (W:World):Calls Tryz.prog 101 #[.map mb] W fun e w'=>e=.returned (.func (.func 140) #[] #[.pointer (some ⟨W.heap.size,0,none⟩)])∧w'=W.alloc (.cells #[.map mb] 173):=
 callsIn_wide.1 (AnyZI.keys_in Cz Fence.wide 5 trivial rfl mb W)
theorem Co (b nn:Nat) (D0:DataW Unit) (w:World) (hown:w.ownsMap Tryz.prog 3 (plainElem Tryz.prog 3) b nn D0) (hmax:nn≤1000000000) :
  Calls Tryz.prog 100 #[.func (.func 140) #[] #[.pointer (some ⟨w.heap.size,0,none⟩)]] (w.alloc (.cells #[.map (some b)] 173)) fun e w'=>∃ (v:Value) (ss:List Int),e=.returned v∧ss.Perm (intKeys D0) ∧
   w'.ownsRow (w.alloc (.cells #[.map (some b)] 173)).heap.size 3 1 v ss.length ((ss.mergeSort (fun x y=>decide (x≤y))).map encZ)∧(v=.slice none 0 0↔ss=[])∧Below (w.alloc (.cells #[.map (some b)] 173)).heap.size (w.alloc (.cells #[.map (some b)] 173)) w':=by
 have hbl:=hown.lt
 have hsz:=hown.size_le
 have hseq:SeqGives Fence.wide 2 Tryz.prog 140 #[.pointer (some ⟨w.heap.size,0,none⟩)] encZ (fun ss=>ss.Perm (intKeys D0)) (Maps.size D0) (w.alloc (.cells #[.map (some b)] 173)):=
  AnyZI.keys_gives (ρ:=P3) { Cz with } Fence.wide _ trivial rfl (by omega) w.heap.size b nn D0 _ (by simp) (by simp) (by
   obtain ⟨es,clock,hb,Ft,hs,hD⟩:=hown
   exact ⟨es,clock,(Below.heap_alloc _ _ b hbl).trans hb,Ft,hs,hD⟩)
 have cS:=AnyZI.sorted_in Cp Fence.wide 5 trivial trivial trivial trivial rfl (by omega) (C9 _) (enters_of Tryz.func139 (by kernel_rfl) rfl) 140 #[.pointer (some ⟨w.heap.size,0,none⟩)] trivial (enters_of Tryz.func140 (by kernel_rfl) rfl) _ _ (by unfold maxLen;omega) (by omega) _ hseq
 exact callsIn_wide.1 cS
theorem FC {w:World} {b nn:Nat} {D:DataW Unit} {xs ss:List Int} (hown:w.ownsMap Tryz.prog 3 (plainElem Tryz.prog 3) b nn D) (hS:Qf D xs) (hp:ss.Perm (intKeys D)):ss.mergeSort (fun x y=>decide (x≤y))=Yx xs:=by
 obtain ⟨es,hD,hpw,_⟩:=hown.entries QH
 obtain ⟨es',hD',hko⟩:=hown.keysOf
 obtain rfl:es=es':=by rw [hD] at hD';simpa using hD'
 subst hD
 have hp2:(Yx xs).Perm (intKeys (.map es)):=perm_intKeys hpw (fun p hp=>by obtain ⟨v,hv⟩:=hko p hp;obtain ⟨x,_,hx,_⟩:=Maps.keyOf_i64 Tryz.underlying3 hv;exact ⟨x,hx⟩) (VR (YQ xs)) (fun x=>by rw [XV,hS.has])
 have hp3:(ss.mergeSort (fun x y=>decide (x≤y))).Perm (Yx xs):=(List.mergeSort_perm _ _).trans (hp.trans hp2.symm)
 have tr:∀ a b c:Int,decide (a≤b)=true→decide (b≤c)=true→decide (a≤c)=true:=fun a b c h1 h2=>by simp only [decide_eq_true_eq] at *;exact Int.le_trans h1 h2
 have to:∀ a b:Int,(decide (a≤b) || decide (b≤a))=true:=fun a b=>by simp only [Bool.or_eq_true,decide_eq_true_eq];exact Int.le_total a b
 refine hp3.eq_of_pairwise (le:=fun a b=>a≤b) (fun a b _ _ h1 h2=>Int.le_antisymm h1 h2) ?_ ((YQ xs).imp (fun h=>Int.le_of_lt h))
 have:=List.pairwise_mergeSort tr to ss
 exact this.imp (fun h=>by simpa using h)
theorem Gi (a:Option Addr) (n c:Nat) (xss:List (List Int)) (w:World) (h:TR w a n c xss) (hn:n≤1000000) (hT:xss.flatten.length≤1000000000) (hF:∀ x ∈ xss.flatten,(Lit.int .i64 x).wf=true) :
  Calls Tryz.prog 63 #[.slice a n c] w fun e w'=>S9 e w' w.heap.size (Yx xss.flatten)∧Below w.heap.size w w':=by
 have kM:=FJ a n c xss w h hn hT hF
 clear h hF
 generalize xss.flatten=xs at *
 have HL:Hid (xs.length≤1000000000):=hT
 clear hT
 go_enter Tryz.func63,Tryz.ntmps63
 go_wp2_with fail
 refine kM.mono ?_
 rintro e w1 ⟨⟨rfl,D,hm,hS⟩,hb⟩
 have kS:=Co w.heap.size xs.length D w1 hm HL.out
 go_wp2_with fail
 refine (Bk _ _).mono ?_
 rintro e w2 ⟨rfl,rfl⟩
 go_wp2_with fail
 refine kS.mono ?_
 rintro e w3 ⟨v,ss,rfl,hp,ho,hnil,hb3⟩
 go_wp2
 go_ret
 have hsz:=hb.size
 refine ⟨⟨v,rfl,?_⟩,hb.trans ?_⟩
 ·have e1:=FC hm hS hp
  have e2:ss.length=(Yx xs).length:=by rw [← e1,List.length_mergeSort]
  rw [e1,e2] at ho
  exact ownsRow_base_a ho (by simp;omega)
 exact ((Below.refl _ w1).alloc (Nat.le_refl _) _).mono hsz |>.trans (hb3.mono (by simp;omega))
end Go.Proofs.YtgmhhegckcionaaGreatDoor
