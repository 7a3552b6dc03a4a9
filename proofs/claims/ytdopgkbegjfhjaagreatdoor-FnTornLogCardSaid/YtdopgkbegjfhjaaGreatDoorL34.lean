/-
  Joined: DrawP, VmDraw.
-/
import Derived.Test.YtdopgkbegjfhjaaGreatDoorL10
import Derived.Test.YtdopgkbegjfhjaaGreatDoorL32
import Derived.Test.YtdopgkbegjfhjaaGreatDoorL33

namespace Go.Proofs.YtdopgkbegjfhjaaGreatDoor
set_option maxRecDepth 100000
set_option maxHeartbeats 16000000
open Go.RowKit

def okTo (nn:Nat) (xs:List I3):Prop:=∀ i,i<xs.length→okI (xs.getD i (0,0,0))=true∧DrawnAt (xs.getD i (0,0,0)) i nn
theorem okTo_snoc {nn:Nat} {xs:List I3} {x:I3} (h:okTo nn xs) (h1:okI x=true) (h2:DrawnAt x xs.length nn):okTo nn (xs++[x]):=by
 intro i hi
 by_cases e:i=xs.length
 ·subst e
  simpa [List.getD] using ⟨h1,h2⟩
 ·have hi':i<xs.length:=by simp at hi;omega
  have:=h i hi'
  have e2:(xs++[x]).getD i (0,0,0)=xs.getD i (0,0,0):=by simp [List.getD,List.getElem?_append_left hi']
  rw [e2]
  exact this
theorem okFrom_of {n:Nat}:∀ (k:Nat) (xs:List I3),(∀ i,i<xs.length→okI (xs.getD i (0,0,0))=true∧DrawnAt (xs.getD i (0,0,0)) (k+i) n)→okFrom n k xs=true
 | _,[],_=>rfl
 | k,x::xs,h=>by
  have h0:=h 0 (by simp)
  simp at h0
  have hl:leads x k n=true:=by
   unfold leads
   split
   ·rename_i e
    have:=h0.2 e
    exact inB_true.2 this
   ·rfl
  have ih:=okFrom_of (n:=n) (k+1) xs (fun i hi=>by
   have:=h (i+1) (by simp;omega)
   rw [List.getD_cons_succ] at this
   rwa [show k+(i+1)=k+1+i by omega] at this)
  simp [okFrom,h0.1,hl,ih]
theorem codeOk_of {xs:List I3} (hl:xs.length≤6) (h:okTo xs.length xs):codeOk xs=true:=by
 unfold codeOk
 have:=okFrom_of (n:=xs.length) 0 xs (fun i hi=>by simpa using h i hi)
 simp [hl,this]
theorem progOk_of {rows:List (List I3)} (h3:rows.length=3) (h:∀ r ∈ rows,codeOk r=true):progOk rows=true:=by
 unfold progOk
 simp [h3]
 exact h
theorem RowsOwn.went {p:Nat} {w w':World} {B k:Nat} {vs:List Value} {rows:List (List I3)} (h:RowsOwn w B k vs rows) (hw:Went p w w') (hp:p<B):RowsOwn w' B k vs rows:=⟨fun t ht=>owns_wn (h.1 t ht) hw hp,h.2⟩
theorem RowsOwn.push' {w:World} {B k s0:Nat} {vs:List Value} {sv:Value} {done:List (List I3)} {r:List I3} (h:RowsOwn w B k vs done) (hv:vs.length=k) (hd:done.length=k) (hlow:∀ t x,t<k→(vs.getD t undef).ownBlock=some x→x<s0)
  (hn:w.ownsRow s0 109 3 sv r.length (flat r)) (hB:B≤s0):RowsOwn w B (k+1) (vs++[sv]) (done++[r]):=by
 have hold:∀ t,t<k→(done++[r]).getD t []=done.getD t []:=fun t ht=>by simp [List.getD,List.getElem?_append_left (show t<done.length by omega)]
 have hnew:(done++[r]).getD k []=r:=by subst hd;simp [List.getD]
 have hvold:∀ t,t<k→(vs++[sv]).getD t undef=vs.getD t undef:=fun t ht=>by simp [List.getD,List.getElem?_append_left (show t<vs.length by omega)]
 have hvnew:(vs++[sv]).getD k undef=sv:=by subst hv;simp [List.getD]
 refine ⟨fun t ht=>?_,fun t t' ht ht' hne=>?_⟩
 ·by_cases e:t=k
  ·subst e
   rw [hnew,hvnew]
   exact owns_lower hn hB
  ·rw [hold t (by omega),hvold t (by omega)]
   exact h.1 t (by omega)
 ·by_cases e:t=k
  ·subst e
   rw [hvnew,hvold t' (by omega)]
   rcases hb:sv.ownBlock with _ | x
   ·exact .inl rfl
   ·refine .inr fun h'=>?_
    have h1:=(hn.lt x hb).1
    have h2:=hlow t' x (by omega) h'.symm
    omega
  ·rw [hvold t (by omega)]
   by_cases e':t'=k
   ·subst e'
    rw [hvnew]
    rcases hb:(vs.getD t undef).ownBlock with _ | x
    ·exact .inl rfl
    ·refine .inr fun h'=>?_
     have h1:=(hn.lt x h'.symm).1
     have h2:=hlow t x (by omega) hb
     omega
   ·rw [hvold t' (by omega)]
    exact h.2 t t' (by omega) (by omega) hne
theorem one_slv (a:Option Addr) (n c:Nat):∀ u ∈ [Value.slice a n c],u.oneCell'=true:=by intro u hu;simp at hu;subst hu;rfl
theorem one_cell_v (w:World) (x:Value) (t:TypeId):∀ j u,[x][j]?=some u→(w.alloc (.cells #[x] t)).cell? ((⟨w.heap.size,0,none⟩:Addr).add j)=some u:=by
 intro j u hj
 match j,hj with
 | 0,hj=>simp at hj;subst hj;simp [Addr.add]
 | (j+1),hj=>simp at hj
theorem empty_n (w:World) (t s B:Nat) (hB:B≤w.heap.size):(w.alloc (.cells #[] t)).ownsRow B t s (.slice (some ⟨w.heap.size,0,none⟩) 0 0) 0 []:=World.ownsRow_lit w #[] 0 hB (by unfold maxLen;omega) (by simp)

theorem program_go (p T0:Nat) (a:Option Addr) (n cap:Nat) (w:World) (hS:Src w p (.slice a n cap) T0) (hC:Code w p a n cap) (hT0:T0≤600000) :
  Calls Tryz.prog 58 #[.pointer (some ⟨p,0,none⟩)] w fun e w'=>(∃ (v:Value) (rows:List (List I3)),progOk rows=true∧e=.returned (.agg #[v])∧OwnProg w' w.heap.size v rows)∧Src w' p (.slice a n cap) (T0+300)∧Went p w w':=by
 obtain ⟨i0,hi,hz0,hz1,hz2⟩:=info_parts info_instr
 obtain ⟨j0,hj,hy0,hy1,hy2⟩:=info_parts info_instrs
 have hpl:=hS.lt
 have hpB:p<w.heap.size:=hS.lt
 go_enter Tryz.func58,Tryz.ntmps58
 go_wp2_with fail
 have hRr:(((w.alloc (.cells #[.slice none 0 0] 69)).alloc (.cells #[] 107)).alloc (.cells #[.slice (some ⟨w.heap.size+1,0,none⟩) 0 0] 69)).ownsRow w.heap.size 69 1 (.slice (some ⟨w.heap.size,0,none⟩) 1 1) 1 [.slice none 0 0]:=((box_n w (.slice none 0 0) 69 w.heap.size (Nat.le_refl _)).alloc _).alloc _
 have hV:(((w.alloc (.cells #[.slice none 0 0] 69)).alloc (.cells #[] 107)).alloc (.cells #[.slice (some ⟨w.heap.size+1,0,none⟩) 0 0] 69)).ownsRow w.heap.size 107 1 (.slice (some ⟨w.heap.size+1,0,none⟩) 0 0) 0 []:=by
  have h9:=(empty_n (w.alloc (.cells #[.slice none 0 0] 69)) 107 1 w.heap.size (by simp)).alloc (.cells #[.slice (some ⟨w.heap.size+1,0,none⟩) 0 0] 69)
  simp only [World.size_alloc] at h9
  exact h9
 have hX:(((w.alloc (.cells #[.slice none 0 0] 69)).alloc (.cells #[] 107)).alloc (.cells #[.slice (some ⟨w.heap.size+1,0,none⟩) 0 0] 69)).ownsRow w.heap.size 69 1 (.slice (some ⟨w.heap.size+1+1,0,none⟩) 1 1) 1 [.slice (some ⟨w.heap.size+1,0,none⟩) 0 0]:=by
  have h9:=box_n ((w.alloc (.cells #[.slice none 0 0] 69)).alloc (.cells #[] 107)) (.slice (some ⟨w.heap.size+1,0,none⟩) 0 0) 69 w.heap.size (by simp;omega)
  simp only [World.size_alloc] at h9
  exact h9
 have hWt:Went p w (((w.alloc (.cells #[.slice none 0 0] 69)).alloc (.cells #[] 107)).alloc (.cells #[.slice (some ⟨w.heap.size+1,0,none⟩) 0 0] 69)):=(((Went.refl p w).alloc _).alloc _).alloc _
 replace hC:=hC.below (((hWt.below (Nat.le_of_lt hpl))))
 replace hS:=((hS.alloc (.cells #[.slice none 0 0] 69)).alloc (.cells #[] 107)).alloc (.cells #[.slice (some ⟨w.heap.size+1,0,none⟩) 0 0] 69)
 replace hpl:p<(((w.alloc (.cells #[.slice none 0 0] 69)).alloc (.cells #[] 107)).alloc (.cells #[.slice (some ⟨w.heap.size+1,0,none⟩) 0 0] 69)).heap.size:=by simp;omega
 have hXw:w.heap.size<w.heap.size+1+1:=by omega
 generalize (((w.alloc (.cells #[.slice none 0 0] 69)).alloc (.cells #[] 107)).alloc (.cells #[.slice (some ⟨w.heap.size+1,0,none⟩) 0 0] 69))=w3 at hRr hV hX hWt hC hS hpl
 generalize w.heap.size+1+1=X at hX hXw
 generalize some (Addr.mk (w.heap.size+1) 0 none)=aV0 at hV hX
 go_loopw [4] (fun si wr=>∃ (k T:Nat) (done:List (List I3)) (vs:List Value) (aV:Option Addr) (capV:Nat),k≤3∧si=.int .i64 k∧T≤T0+k*100∧done.length=k∧Hid (∀ r ∈ done,codeOk r=true) ∧
   RowsOwn wr w.heap.size k vs done∧wr.ownsRow w.heap.size 107 1 (.slice aV k capV) k vs∧wr.ownsRow w.heap.size 69 1 (.slice (some ⟨X,0,none⟩) 1 1) 1 [.slice aV k capV]∧wr.ownsRow w.heap.size 69 1 (.slice (some ⟨w.heap.size,0,none⟩) 1 1) 1 [.slice none 0 0]∧Src wr p (.slice a n cap) T∧Code wr p a n cap∧p<wr.heap.size∧Went p w wr) (fun si _=>3 - (intOf si).toNat)
 case atStart=>exact ⟨0,T0,[],[],aV0,0,by omega,rfl,by omega,rfl,(fun r hr=>by cases hr),⟨fun t ht=>by omega,fun t _ ht=>by omega⟩,hV,hX,hRr,hS,hC,hpl,hWt⟩
 case round =>
  clear hRr hV hX hWt hC hS hpl
  obtain ⟨k,T,done,vs,aV,capV,hk,rfl,hT,hdl,hok,hR,hV,hX,hRr,hS,hC,hpl,hWt⟩:=hrel
  by_cases hlt:k<3
  ·have hlt2:(k:Int)<3:=by omega
   have hk0:(0:Int)≤(k:Int):=by omega
   go_wp2_with fail
   refine (next_any p T a n cap 4 _ hS hC (by omega) (by omega)).mono ?_
   rintro e w4 ⟨⟨v1,hv1,rfl⟩,hSn,hWn⟩
   replace hS:=hSn
   replace hR:=hR.went hWn hpB
   replace hV:=owns_wn hV hWn hpB
   replace hX:=owns_wn hX hWn hpB
   replace hRr:=owns_wn hRr hWn hpB
   replace hC:=hC.went hWn (Nat.le_of_lt hpl)
   replace hpl:=Nat.lt_of_lt_of_le hpl hWn.size
   replace hWt:=hWt.trans hWn
   clear hSn hWn
   by_cases hk2:k=2
   ·have hk2':((k:Int) == 2)=true:=by subst hk2;rfl
    go_wp2_with fail
    refine (next_any p (T+3) a n cap 3 _ hS hC (by omega) (by omega)).mono ?_
    rintro e w5 ⟨⟨v2,hv2,rfl⟩,hSn,hWn⟩
    replace hS:=hSn
    replace hR:=hR.went hWn hpB
    replace hV:=owns_wn hV hWn hpB
    replace hX:=owns_wn hX hWn hpB
    replace hRr:=owns_wn hRr hWn hpB
    replace hC:=hC.went hWn (Nat.le_of_lt hpl)
    replace hpl:=Nat.lt_of_lt_of_le hpl hWn.size
    replace hWt:=hWt.trans hWn
    clear hSn hWn
    have hnn:v2≤3:=by omega
    obtain ⟨nn,hnnd⟩:∃ nn:Nat,nn=v2:=⟨_,rfl⟩
    rw [← hnnd] at hnn
    rw [← hnnd]
    have HK2:Hid (k=2):=hk2
    clear hnnd hv2 hv1 hk2 hk2'
    replace hS:=hS.mono (show T+3+3≤T+6 by omega)
    have hCo:=empty_n w5 109 3 w5.heap.size (Nat.le_refl _)
    have hWo:=(Went.refl p w5).alloc (.cells #[] 109)
    have hSo:=hS.alloc (.cells #[] 109)
    have hpo:p<(w5.alloc (.cells #[] 109)).heap.size:=by simp;omega
    have hCdo:=hC.below ((Below.refl p w5).alloc (Nat.le_of_lt hpl) (.cells #[] 109))
    go_wp2
    go_loopw [6,7] (fun sv si wi=>∃ (i:Nat) (xs:List I3),i≤nn∧si=.int .i64 i∧xs.length=i∧Hid (okTo nn xs)∧wi.ownsRow w5.heap.size 109 3 sv i (flat xs)∧Src wi p (.slice a n cap) (T+6+i*9)∧Code wi p a n cap∧p<wi.heap.size∧Went p w5 wi) (fun _ si _=>nn - (intOf si).toNat)
    case atStart=>exact ⟨0,[],by omega,rfl,rfl,(fun i hi=>by simp at hi),hCo,hSo,hCdo,hpo,hWo⟩
    case round =>
     clear hCo hWo hSo hpo hCdo
     obtain ⟨i,xs,hin,rfl,hxl,hxo,hr,hSi,hCi,hpi,hWi⟩:=hrel
     by_cases him:i<nn
     ·have him2:(i:Int)<(nn:Int):=by omega
      go_wp2_with fail
      refine (instr_any p (T+6+i*9) a n cap i nn _ hSi hCi (by omega) him hnn).mono ?_
      rintro e w6 ⟨⟨x,⟨hx1,hx2⟩,rfl⟩,hS6,hW6⟩
      have hxo2:Hid (okTo nn (xs++[x])):=okTo_snoc hxo.out hx1 (by rw [hxl];exact hx2)
      replace hr:=owns_wn hr hW6 hpl
      replace hCi:=hCi.went hW6 (Nat.le_of_lt hpi)
      replace hpi:=Nat.lt_of_lt_of_le hpi hW6.size
      replace hWi:=hWi.trans hW6
      have hbs6:=hWi.size
      clear hSi hW6 hx1 hx2 hxo
      have HXL:Hid (xs.length=i):=hxl
      clear hxl
      obtain ⟨x0,x1,x2⟩:=x
      unfold I3.val
      go_wp2_with (at_builtin;refine wpList_append_own _ rfl _ _ 107 rfl w5.heap.size 109 i0 (.agg #[.int .i64 0,.int .i64 0,.int .i64 0]) 3 24 Tryz.underlying107 hi hz0 hz1 hz2 rfl (by decide) _ _ _ rfl (hr.alloc _) ⟨w6.heap.size,0,none⟩ 1 1 [.int .i64 x0,.int .i64 x1,.int .i64 x2] rfl rfl (cell_three_new _ _ _ _ _) (three_i64 _ _ _) ?c3 ?c4 ?c5 ?_)
      case c3=>unfold maxLen;omega
      case c4=>omega
      case c5=>simp;omega
      intro v7 w7 hown7 hgrow7 _
      have hr7:w7.ownsRow w5.heap.size 109 3 v7 (i+1) (flat (xs++[(x0,x1,x2)])):=by rw [flat_snoc];exact hown7
      have hW7:Went p w5 w7:=(hWi.alloc (.cells #[.int .i64 x0,.int .i64 x1,.int .i64 x2] 109)).grown hgrow7 (fun j hj=>(hr.lt _ hj).1)
      have hS7:=((hS6.alloc (.cells #[.int .i64 x0,.int .i64 x1,.int .i64 x2] 109)).grown hgrow7 (fun k e=>by have:=(hr.lt k e).1;omega)).mono (show T+6+i*9+9≤T+6+(i+1)*9 by omega)
      have hC7:=hCi.below ((((Below.refl p w6).alloc (Nat.le_of_lt hpi) (.cells #[.int .i64 x0,.int .i64 x1,.int .i64 x2] 109))).grown hgrow7 (by simp;omega) (fun j hj=>by have:=(hr.lt j hj).1;omega))
      have hp7:p<w7.heap.size:=by have:=hgrow7.size;simp at this;omega
      clear hown7 hgrow7 hr hWi hS6 hCi hpi
      go_wp2
      go_roundw
      case rel=>exact ⟨i+1,xs++[(x0,x1,x2)],by omega,by go_num,by simp [HXL.out],hxo2,hr7,hS7,hC7,hp7,hW7⟩
      case measure=>simp [intOf];omega
     ·obtain rfl:i=nn:=by omega
      have hcok:codeOk xs=true:=codeOk_of (by omega) (by rw [hxl];exact hxo.out)
      have hok2:Hid (∀ r ∈ done++[xs],codeOk r=true):=fun r hr'=>by
       rcases List.mem_append.1 hr' with h' | h'
       ·exact hok.out r h'
       ·simp at h'
        subst h'
        exact hcok
      obtain ⟨aC,capC,hv⟩:∃ aC capC,u6=.slice aC i capC:=by
       rcases hr.2 with ⟨hv,h0⟩ | ⟨g,cp,cur,hv,_⟩
       ·exact ⟨none,0,by rw [h0];exact hv⟩
       ·exact ⟨_,cp,hv⟩
      subst hv
      have hlow:∀ t x,t<k→(vs.getD t undef).ownBlock=some x→x<w5.heap.size:=fun t x ht hx=>((hR.1 t ht).lt x hx).2
      have hw5B:w.heap.size≤w5.heap.size:=hWt.size
      have hR':=hR.went hWi hpB
      have hV':=owns_wn hV hWi hpB
      have hX':=owns_wn hX hWi hpB
      have hRr':=owns_wn hRr hWi hpB
      have hWt':=hWt.trans hWi
      have hcX:wr.cell? ⟨X,0,none⟩=some (.slice aV k capV):=by simpa using hX'.cellAt 0 (by omega)
      have hbs8:=hWt'.size
      clear hR hV hX hRr hWt hWi hS hC hpl hok hxo hcok
      go_wp2_with (at_builtin;refine wpList_append_own _ rfl _ _ 67 rfl w.heap.size 107 j0 (.slice none 0 0) 1 24 Tryz.underlying67 hj hy0 hy1 hy2 rfl (by decide) _ _ _ rfl (hV'.alloc _) ⟨wr.heap.size,0,none⟩ 1 1 [.slice aC i capC] rfl rfl (one_cell_v _ _ _) (one_slv _ _ _) ?c3 ?c4 ?c5 ?_)
      case c3=>unfold maxLen;omega
      case c4=>omega
      case c5=>simp;omega
      intro v8 w8 hown8 hgrow8 _
      have hA:=hr.alloc (.cells #[.slice aC i capC] 107)
      have hV2:=hV'.alloc (.cells #[.slice aC i capC] 107)
      have hC4:=hA.kept hgrow8 (owns_ne hA hV2 (by decide))
      have hR4:RowsOwn w8 w.heap.size k vs done:=⟨fun t ht=>((hR'.1 t ht).alloc _).kept hgrow8 (owns_ne ((hR'.1 t ht).alloc _) hV2 (by decide)),hR'.2⟩
      have hX4:=(hX'.alloc (.cells #[.slice aC i capC] 107)).kept hgrow8 (owns_ne (hX'.alloc _) hV2 (by decide))
      have hRr4:=(hRr'.alloc (.cells #[.slice aC i capC] 107)).kept hgrow8 (owns_ne (hRr'.alloc _) hV2 (by decide))
      have hW4:Went p w w8:=(hWt'.alloc (.cells #[.slice aC i capC] 107)).grown hgrow8 (fun j hj=>(hV'.lt _ hj).1)
      have hS4:=(hSi.alloc (.cells #[.slice aC i capC] 107)).grown hgrow8 (fun j e=>by have:=(hV'.lt j e).1;omega)
      have hCd4:=hCi.below (((Below.refl p wr).alloc (Nat.le_of_lt hpi) (.cells #[.slice aC i capC] 107)).grown hgrow8 (by simp;omega) (fun j hj=>by have:=(hV'.lt j hj).1;omega))
      have hp4:p<w8.heap.size:=by have:=hgrow8.size;simp at this;omega
      clear hA hV2 hV' hR' hX' hRr' hWt' hgrow8 hr hcX hSi hCi hpi
      obtain ⟨aW,capW,hv4⟩:∃ aW capW,v8=.slice aW (k+1) capW:=by
       rcases hown8.2 with ⟨hv,h0⟩ | ⟨g,cp,cur,hv,_⟩
       ·omega
       ·exact ⟨_,cp,hv⟩
      subst hv4
      have hlv:vs.length=k:=by have:=hown8.1;simp at this;omega
      have hpush:=hR4.push' (s0:=w5.heap.size) hlv hdl hlow (r:=xs) (sv:=.slice aC i capC) (by rw [hxl];exact hC4) hw5B
      have fX:=hX4.frozenAt 0
      have cX:w8.cell? ⟨X,0,none⟩=some (.slice aV k capV):=by simpa using hX4.cellAt 0 (by omega)
      have hX5:=(hX4.stored 0 (.slice aW (k+1) capW)).1
      have hV5:(w8.setCell ⟨X,0,none⟩ (.slice aW (k+1) capW)).ownsRow w.heap.size 107 1 (.slice aW (k+1) capW) (k+1) (vs++[.slice aC i capC]):=ownsRow_setCell_other hown8 (ne_block hown8 hX4 (by decide)) _
      have hR5:RowsOwn (w8.setCell ⟨X,0,none⟩ (.slice aW (k+1) capW)) w.heap.size (k+1) (vs++[.slice aC i capC]) (done++[xs]):=⟨fun t ht=>ownsRow_setCell_other (hpush.1 t ht) (ne_block (hpush.1 t ht) hX4 (by decide)) _,hpush.2⟩
      have hRr5:(w8.setCell ⟨X,0,none⟩ (.slice aW (k+1) capW)).ownsRow w.heap.size 69 1 (.slice (some ⟨w.heap.size,0,none⟩) 1 1) 1 [.slice none 0 0]:=ownsRow_setCell_other hRr4 (by simp [Value.ownBlock];omega) _
      have g5:=grownBy_set w8 X 0 (.slice aW (k+1) capW)
      have hW5:=hW4.grown g5 (fun j e=>by cases e;omega)
      have hS5:=hS4.grown g5 (fun j e=>by cases e;omega)
      have hC5:=hCd4.below (grown_below g5 (show p≤X by omega) (Nat.le_of_lt hp4))
      have hp5:p<(w8.setCell ⟨X,0,none⟩ (.slice aW (k+1) capW)).heap.size:=Nat.lt_of_lt_of_le hp4 g5.size
      simp only [List.set_cons_zero] at hX5
      clear hpush hX4 hown8 hR4 hRr4 hC4 hlow g5 hW4 hS4 hCd4 hp4
      have hdl2:(done++[xs]).length=k+1:=by simp [hdl]
      generalize done++[xs]=done2 at hok2 hR5 hdl2
      generalize vs++[.slice aC i capC]=vs2 at hV5 hR5
      go_wp2
      go_roundw
      case rel=>exact ⟨k+1,T+6+i*9,done2,vs2,aW,capW,by omega,(by first | go_num | (rw [HK2.out];rfl)),by omega,hdl2,hok2,hR5,hV5,hX5,hRr5,hS5,hC5,hp5,hW5⟩
      case measure=>have h9:=HK2.out;simp [intOf];omega
   ·have hk2':((k:Int) == 2)=false:=beq_eq_false_iff_ne.2 (by omega)
    have hnn:v1≤3:=by omega
    obtain ⟨nn,hnnd⟩:∃ nn:Nat,nn=v1:=⟨_,rfl⟩
    rw [← hnnd] at hnn
    rw [← hnnd]
    clear hnnd hv1
    replace hS:=hS.mono (show T+3≤T+6 by omega)
    obtain ⟨w5,hw5⟩:∃ w5,w5=w4:=⟨_,rfl⟩
    subst hw5
    have hCo:=empty_n w5 109 3 w5.heap.size (Nat.le_refl _)
    have hWo:=(Went.refl p w5).alloc (.cells #[] 109)
    have hSo:=hS.alloc (.cells #[] 109)
    have hpo:p<(w5.alloc (.cells #[] 109)).heap.size:=by simp;omega
    have hCdo:=hC.below ((Below.refl p w5).alloc (Nat.le_of_lt hpl) (.cells #[] 109))
    go_wp2
    go_loopw [6,7] (fun sv si wi=>∃ (i:Nat) (xs:List I3),i≤nn∧si=.int .i64 i∧xs.length=i∧Hid (okTo nn xs)∧wi.ownsRow w5.heap.size 109 3 sv i (flat xs)∧Src wi p (.slice a n cap) (T+6+i*9)∧Code wi p a n cap∧p<wi.heap.size∧Went p w5 wi) (fun _ si _=>nn - (intOf si).toNat)
    case atStart=>exact ⟨0,[],by omega,rfl,rfl,(fun i hi=>by simp at hi),hCo,hSo,hCdo,hpo,hWo⟩
    case round =>
     clear hCo hWo hSo hpo hCdo
     obtain ⟨i,xs,hin,rfl,hxl,hxo,hr,hSi,hCi,hpi,hWi⟩:=hrel
     by_cases him:i<nn
     ·have him2:(i:Int)<(nn:Int):=by omega
      go_wp2_with fail
      refine (instr_any p (T+6+i*9) a n cap i nn _ hSi hCi (by omega) him hnn).mono ?_
      rintro e w6 ⟨⟨x,⟨hx1,hx2⟩,rfl⟩,hS6,hW6⟩
      have hxo2:Hid (okTo nn (xs++[x])):=okTo_snoc hxo.out hx1 (by rw [hxl];exact hx2)
      replace hr:=owns_wn hr hW6 hpl
      replace hCi:=hCi.went hW6 (Nat.le_of_lt hpi)
      replace hpi:=Nat.lt_of_lt_of_le hpi hW6.size
      replace hWi:=hWi.trans hW6
      have hbs6:=hWi.size
      clear hSi hW6 hx1 hx2 hxo
      have HXL:Hid (xs.length=i):=hxl
      clear hxl
      obtain ⟨x0,x1,x2⟩:=x
      unfold I3.val
      go_wp2_with (at_builtin;refine wpList_append_own _ rfl _ _ 107 rfl w5.heap.size 109 i0 (.agg #[.int .i64 0,.int .i64 0,.int .i64 0]) 3 24 Tryz.underlying107 hi hz0 hz1 hz2 rfl (by decide) _ _ _ rfl (hr.alloc _) ⟨w6.heap.size,0,none⟩ 1 1 [.int .i64 x0,.int .i64 x1,.int .i64 x2] rfl rfl (cell_three_new _ _ _ _ _) (three_i64 _ _ _) ?c3 ?c4 ?c5 ?_)
      case c3=>unfold maxLen;omega
      case c4=>omega
      case c5=>simp;omega
      intro v7 w7 hown7 hgrow7 _
      have hr7:w7.ownsRow w5.heap.size 109 3 v7 (i+1) (flat (xs++[(x0,x1,x2)])):=by rw [flat_snoc];exact hown7
      have hW7:Went p w5 w7:=(hWi.alloc (.cells #[.int .i64 x0,.int .i64 x1,.int .i64 x2] 109)).grown hgrow7 (fun j hj=>(hr.lt _ hj).1)
      have hS7:=((hS6.alloc (.cells #[.int .i64 x0,.int .i64 x1,.int .i64 x2] 109)).grown hgrow7 (fun k e=>by have:=(hr.lt k e).1;omega)).mono (show T+6+i*9+9≤T+6+(i+1)*9 by omega)
      have hC7:=hCi.below ((((Below.refl p w6).alloc (Nat.le_of_lt hpi) (.cells #[.int .i64 x0,.int .i64 x1,.int .i64 x2] 109))).grown hgrow7 (by simp;omega) (fun j hj=>by have:=(hr.lt j hj).1;omega))
      have hp7:p<w7.heap.size:=by have:=hgrow7.size;simp at this;omega
      clear hown7 hgrow7 hr hWi hS6 hCi hpi
      go_wp2
      go_roundw
      case rel=>exact ⟨i+1,xs++[(x0,x1,x2)],by omega,by go_num,by simp [HXL.out],hxo2,hr7,hS7,hC7,hp7,hW7⟩
      case measure=>simp [intOf];omega
     ·obtain rfl:i=nn:=by omega
      have hcok:codeOk xs=true:=codeOk_of (by omega) (by rw [hxl];exact hxo.out)
      have hok2:Hid (∀ r ∈ done++[xs],codeOk r=true):=fun r hr'=>by
       rcases List.mem_append.1 hr' with h' | h'
       ·exact hok.out r h'
       ·simp at h'
        subst h'
        exact hcok
      obtain ⟨aC,capC,hv⟩:∃ aC capC,u6=.slice aC i capC:=by
       rcases hr.2 with ⟨hv,h0⟩ | ⟨g,cp,cur,hv,_⟩
       ·exact ⟨none,0,by rw [h0];exact hv⟩
       ·exact ⟨_,cp,hv⟩
      subst hv
      have hlow:∀ t x,t<k→(vs.getD t undef).ownBlock=some x→x<w5.heap.size:=fun t x ht hx=>((hR.1 t ht).lt x hx).2
      have hw5B:w.heap.size≤w5.heap.size:=hWt.size
      have hR':=hR.went hWi hpB
      have hV':=owns_wn hV hWi hpB
      have hX':=owns_wn hX hWi hpB
      have hRr':=owns_wn hRr hWi hpB
      have hWt':=hWt.trans hWi
      have hcX:wr.cell? ⟨X,0,none⟩=some (.slice aV k capV):=by simpa using hX'.cellAt 0 (by omega)
      have hbs8:=hWt'.size
      clear hR hV hX hRr hWt hWi hS hC hpl hok hxo hcok
      go_wp2_with (at_builtin;refine wpList_append_own _ rfl _ _ 67 rfl w.heap.size 107 j0 (.slice none 0 0) 1 24 Tryz.underlying67 hj hy0 hy1 hy2 rfl (by decide) _ _ _ rfl (hV'.alloc _) ⟨wr.heap.size,0,none⟩ 1 1 [.slice aC i capC] rfl rfl (one_cell_v _ _ _) (one_slv _ _ _) ?c3 ?c4 ?c5 ?_)
      case c3=>unfold maxLen;omega
      case c4=>omega
      case c5=>simp;omega
      intro v8 w8 hown8 hgrow8 _
      have hA:=hr.alloc (.cells #[.slice aC i capC] 107)
      have hV2:=hV'.alloc (.cells #[.slice aC i capC] 107)
      have hC4:=hA.kept hgrow8 (owns_ne hA hV2 (by decide))
      have hR4:RowsOwn w8 w.heap.size k vs done:=⟨fun t ht=>((hR'.1 t ht).alloc _).kept hgrow8 (owns_ne ((hR'.1 t ht).alloc _) hV2 (by decide)),hR'.2⟩
      have hX4:=(hX'.alloc (.cells #[.slice aC i capC] 107)).kept hgrow8 (owns_ne (hX'.alloc _) hV2 (by decide))
      have hRr4:=(hRr'.alloc (.cells #[.slice aC i capC] 107)).kept hgrow8 (owns_ne (hRr'.alloc _) hV2 (by decide))
      have hW4:Went p w w8:=(hWt'.alloc (.cells #[.slice aC i capC] 107)).grown hgrow8 (fun j hj=>(hV'.lt _ hj).1)
      have hS4:=(hSi.alloc (.cells #[.slice aC i capC] 107)).grown hgrow8 (fun j e=>by have:=(hV'.lt j e).1;omega)
      have hCd4:=hCi.below (((Below.refl p wr).alloc (Nat.le_of_lt hpi) (.cells #[.slice aC i capC] 107)).grown hgrow8 (by simp;omega) (fun j hj=>by have:=(hV'.lt j hj).1;omega))
      have hp4:p<w8.heap.size:=by have:=hgrow8.size;simp at this;omega
      clear hA hV2 hV' hR' hX' hRr' hWt' hgrow8 hr hcX hSi hCi hpi
      obtain ⟨aW,capW,hv4⟩:∃ aW capW,v8=.slice aW (k+1) capW:=by
       rcases hown8.2 with ⟨hv,h0⟩ | ⟨g,cp,cur,hv,_⟩
       ·omega
       ·exact ⟨_,cp,hv⟩
      subst hv4
      have hlv:vs.length=k:=by have:=hown8.1;simp at this;omega
      have hpush:=hR4.push' (s0:=w5.heap.size) hlv hdl hlow (r:=xs) (sv:=.slice aC i capC) (by rw [hxl];exact hC4) hw5B
      have fX:=hX4.frozenAt 0
      have cX:w8.cell? ⟨X,0,none⟩=some (.slice aV k capV):=by simpa using hX4.cellAt 0 (by omega)
      have hX5:=(hX4.stored 0 (.slice aW (k+1) capW)).1
      have hV5:(w8.setCell ⟨X,0,none⟩ (.slice aW (k+1) capW)).ownsRow w.heap.size 107 1 (.slice aW (k+1) capW) (k+1) (vs++[.slice aC i capC]):=ownsRow_setCell_other hown8 (ne_block hown8 hX4 (by decide)) _
      have hR5:RowsOwn (w8.setCell ⟨X,0,none⟩ (.slice aW (k+1) capW)) w.heap.size (k+1) (vs++[.slice aC i capC]) (done++[xs]):=⟨fun t ht=>ownsRow_setCell_other (hpush.1 t ht) (ne_block (hpush.1 t ht) hX4 (by decide)) _,hpush.2⟩
      have hRr5:(w8.setCell ⟨X,0,none⟩ (.slice aW (k+1) capW)).ownsRow w.heap.size 69 1 (.slice (some ⟨w.heap.size,0,none⟩) 1 1) 1 [.slice none 0 0]:=ownsRow_setCell_other hRr4 (by simp [Value.ownBlock];omega) _
      have g5:=grownBy_set w8 X 0 (.slice aW (k+1) capW)
      have hW5:=hW4.grown g5 (fun j e=>by cases e;omega)
      have hS5:=hS4.grown g5 (fun j e=>by cases e;omega)
      have hC5:=hCd4.below (grown_below g5 (show p≤X by omega) (Nat.le_of_lt hp4))
      have hp5:p<(w8.setCell ⟨X,0,none⟩ (.slice aW (k+1) capW)).heap.size:=Nat.lt_of_lt_of_le hp4 g5.size
      simp only [List.set_cons_zero] at hX5
      clear hpush hX4 hown8 hR4 hRr4 hC4 hlow g5 hW4 hS4 hCd4 hp4
      have hdl2:(done++[xs]).length=k+1:=by simp [hdl]
      generalize done++[xs]=done2 at hok2 hR5 hdl2
      generalize vs++[.slice aC i capC]=vs2 at hV5 hR5
      go_wp2
      go_roundw
      case rel=>exact ⟨k+1,T+6+i*9,done2,vs2,aW,capW,by omega,by go_num,by omega,hdl2,hok2,hR5,hV5,hX5,hRr5,hS5,hC5,hp5,hW5⟩
      case measure=>simp [intOf];omega
  ·obtain rfl:k=3:=by omega
   have hp3:progOk done=true:=progOk_of hdl hok.out
   have HP:Hid (progOk done=true):=hp3
   have hcX:wr.cell? ⟨X,0,none⟩=some (.slice aV 3 capV):=by simpa using hX.cellAt 0 (by omega)
   have kR:wr.cell? ⟨w.heap.size,0,none⟩=some (.slice none 0 0):=by simpa using hRr.cellAt 0 (by omega)
   have fR:=hRr.frozenAt 0
   have hOP:OwnProg (wr.setCell ⟨w.heap.size,0,none⟩ (.slice aV 3 capV)) w.heap.size (.slice aV 3 capV) done:=⟨vs,by rw [hdl];exact ownsRow_setCell_other hV (ne_block hV hRr (by decide)) _,by have:=hV.1;omega,fun t ht=>ownsRow_setCell_other (hR.1 t (by omega)) (ne_block (hR.1 t (by omega)) hRr (by decide)) _,fun t t' ht ht'=>hR.2 t t' (by omega) (by omega)⟩
   have g9:=grownBy_set wr w.heap.size 0 (.slice aV 3 capV)
   have hb9:Went p w (wr.setCell ⟨w.heap.size,0,none⟩ (.slice aV 3 capV)):=hWt.grown g9 (fun k e=>by cases e;exact Nat.le_refl _)
   have hS9:=(hS.grown g9 (fun k e=>by cases e;omega)).mono (show T≤T0+300 by omega)
   have k3:(wr.setCell ⟨w.heap.size,0,none⟩ (.slice aV 3 capV)).cell? ⟨w.heap.size,0,none⟩=some (.slice aV 3 capV):=World.cell?_setCell_same' _ _ _ (by rw [kR];rfl)
   clear hRr hR hV hX hS hC hWt g9 hp3 hok
   go_wp2
   clear kR fR hcX
   generalize wr.setCell ⟨w.heap.size,0,none⟩ (.slice aV 3 capV)=w9 at hb9 k3 hOP hS9
   refine bodyPost_ret (by simp [results,Tryz.results58,go_sem,k3];try rfl) rfl ?_
   exact ⟨⟨_,done,HP.out,rfl,hOP⟩,hS9,hb9⟩

set_option linter.unusedVariables false
set_option linter.unusedSimpArgs false

theorem Went.of_below {p:Nat} {w w':World} (h:Below w.heap.size w w'):Went p w w':=⟨h.os,h.tape,h.output,h.size,fun k hk _=>h.block k hk⟩
theorem Blk.went {p g t:Nat} {w w':World} {cs:List Value} (h:Blk w g t cs) (hw:Went p w w') (hne:g≠p):Blk w' g t cs:=h.kept hw (fun e=>hne (by cases e;rfl))
theorem OwnV.went {p B:Nat} {w w':World} {s:S4} {m:V4} (h:OwnV w B s m) (hw:Went p w w') (hp:p<B):OwnV w' B s m:=⟨⟨owns_wn h.1.1 hw hp,owns_wn h.1.2.1 hw hp,owns_wn h.1.2.2.1 hw hp,owns_wn h.1.2.2.2 hw hp⟩,h.2⟩
theorem OwnI.went {p B:Nat} {w w':World} {s:Sl} {zs:List Int} (h:OwnI w B s zs) (hw:Went p w w') (hp:p<B):OwnI w' B s zs:=owns_wn h hw hp
theorem OwnV.lowerB {B B':Nat} {w:World} {s:S4} {m:V4} (h:OwnV w B s m) (hB:B'≤B):OwnV w B' s m:=⟨⟨own_lower h.1.1 hB,own_lower h.1.2.1 hB,own_lower h.1.2.2.1 hB,own_lower h.1.2.2.2 hB⟩,h.2⟩
theorem Src.belowD {p T:Nat} {c:Value} {w w':World} (h:Src w p c T) (hb:Below w.heap.size w w'):Src w' p c T:=h.grown (row:=none) ⟨hb.os,hb.tape,hb.output,hb.size,fun k hk _=>hb.block k hk⟩ (fun k e=>by cases e)
theorem zero_shape:shapeOk zeroV=true:=by decide
def vmC (t:S4):List Value:=[.slice t.1.1 t.1.2.1 t.1.2.2,.slice t.2.1.1 t.2.1.2.1 t.2.1.2.2,.slice t.2.2.1.1 t.2.2.1.2.1 t.2.2.1.2.2,.slice t.2.2.2.1 t.2.2.2.2.1 t.2.2.2.2.2]
theorem step_store_blkD {P:Program} {ops:Array Oper} {o:Oper} {a:Act} {w:World} {K:Act→World→Prop} {Q:Exit→Act→World→Prop} {E:Prop} (hgd:o.guard=none) (ty:TypeId) (x y:Operand) (ho:o.op=.store ty x y) (g:Nat) (vs:List Value) (hx:a.eval x=.pointer (some ⟨g,0,none⟩)) (hy:a.eval y=.agg vs.toArray) {t:Nat} {cs:List Value} (hB:Blk w g t cs)
  (hi:(P.info? ty).map (·.size)=some vs.length) (hl:cs.length=vs.length) (h1:vs.all (·.oneCell')=true)
  (h:∀ w',Hid (Blk w' g t vs)→w.grownBy w' (some g)→K (a.put o.dst undef) w'):if Region.wanted o (yielded ops a.tmps)=true then Oper.wp P o a w K Q else E:=by
 have hw:Region.wanted o (yielded ops a.tmps)=true:=by simp [Region.wanted,hgd]
 rw [if_pos hw]
 exact wp_store_row ty x y ho g vs.toArray hx hy t cs.toArray hB (by simpa using hi) (by simpa using hl) (by simpa using h1) (h _ (blk_setRow vs hB) (grown_setRow _ _ _))
theorem cellsD {U:World} {X3 X5 lg ll lc B t3 t5:Nat} {y x0 x1 x2 x3:Value} {es:List Int} (pP:Blk U X3 t3 [y]) (pX:Blk U X5 t5 [x0,x1,x2,x3]) (hL:OwnI U B (some ⟨lg,0,none⟩,ll,lc) es) :
  U.cell? ⟨X3,0,none⟩=some y∧U.cell? ⟨X5,0,none⟩=some x0∧U.cell? ⟨X5,1,none⟩=some x1∧U.cell? ⟨X5,2,none⟩=some x2∧U.cell? ⟨X5,3,none⟩=some x3∧∀ j,j<ll→U.cell? ⟨lg,j,none⟩=some (.int .i64 (es.getD j 0)):=⟨pP.cell 0,pX.cell 0,pX.cell 1,pX.cell 2,pX.cell 3,fun j hj=>hL.at9 hj⟩
def OnWay (w wr:World) (p:Nat) (cd:Value) (a:Option Addr) (n cap T X5:Nat) (aP:Option Addr) (capP:Nat) (t:S4) (m:V4):Prop:=
 Src wr p cd T∧Code wr p a n cap∧p<wr.heap.size∧Went p w wr∧Blk wr w.heap.size 69 [.slice aP 3 capP]∧Blk wr (w.heap.size+1) 123 [.slice none 0 0,.slice none 0 0,.slice none 0 0,.slice none 0 0]∧Blk wr X5 123 (vmC t)∧OwnV wr (w.heap.size+2) t m∧Hid (shapeOk m=true)

theorem vm_go (p T:Nat) (a:Option Addr) (n cap:Nat) (aP:Option Addr) (capP:Nat) (rows:List (List I3)) (w:World) (hS:Src w p (.slice a n cap) T) (hC:Code w p a n cap) (hT:T≤800000) (hok:progOk rows=true)
  (hPr:∀ W,Went p w W→Codes W aP 3 capP rows) :
  Calls Tryz.prog 89 #[.pointer (some ⟨p,0,none⟩),.agg #[.slice aP 3 capP]] w fun e w'=>(∃ (t:S4) (m:V4),e=.returned t.val∧OwnV w' w.heap.size t m∧shapeOk m=true)∧Src w' p (.slice a n cap) (T+40)∧Went p w w':=by
 have hpw:p<w.heap.size:=hS.lt
 have HOK:Hid (progOk rows=true):=hok
 clear hok
 have hW1:Went p w ((w.alloc (.cells #[.slice aP 3 capP] 69)).alloc (.cells #[.slice none 0 0,.slice none 0 0,.slice none 0 0,.slice none 0 0] 123)):=((Went.refl p w).alloc _).alloc _
 have pP:Blk ((w.alloc (.cells #[.slice aP 3 capP] 69)).alloc (.cells #[.slice none 0 0,.slice none 0 0,.slice none 0 0,.slice none 0 0] 123)) w.heap.size 69 [.slice aP 3 capP]:=blkOld _ (blkAt _ _ _ rfl)
 have pR:Blk ((w.alloc (.cells #[.slice aP 3 capP] 69)).alloc (.cells #[.slice none 0 0,.slice none 0 0,.slice none 0 0,.slice none 0 0] 123)) (w.heap.size+1) 123 [.slice none 0 0,.slice none 0 0,.slice none 0 0,.slice none 0 0]:=blkAt _ _ _ (by simp)
 have hS1:=(hS.alloc (.cells #[.slice aP 3 capP] 69)).alloc (.cells #[.slice none 0 0,.slice none 0 0,.slice none 0 0,.slice none 0 0] 123)
 have hC1:=hC.below (hW1.below (Nat.le_of_lt hpw))
 have hsz:((w.alloc (.cells #[.slice aP 3 capP] 69)).alloc (.cells #[.slice none 0 0,.slice none 0 0,.slice none 0 0,.slice none 0 0] 123)).heap.size=w.heap.size+2:=by simp
 go_enter Tryz.func89,Tryz.ntmps89
 go_wp2_with fail
 generalize ((w.alloc (.cells #[.slice aP 3 capP] 69)).alloc (.cells #[.slice none 0 0,.slice none 0 0,.slice none 0 0,.slice none 0 0] 123))=W1 at *
 refine (specNewVm_is W1).mono ?_
 rintro e w2 ⟨⟨t0,rfl,hO⟩,hb⟩
 obtain ⟨⟨a0,n0,k0⟩,⟨a1,n1,k1⟩,⟨a2,n2,k2⟩,⟨a3,n3,k3⟩⟩:=t0
 have uA:S4.val ((a0,n0,k0),(a1,n1,k1),(a2,n2,k2),(a3,n3,k3))=.agg #[.slice a0 n0 k0,.slice a1 n1 k1,.slice a2 n2 k2,.slice a3 n3 k3]:=rfl
 rw [uA]
 clear uA
 rw [hsz] at hO
 have hW2:=hW1.trans (Went.of_below hb)
 have pP2:=pP.below hb
 have pR2:=pR.below hb
 have hS2:=hS1.belowD hb
 have hp1:p<W1.heap.size:=by omega
 have hC2:=hC1.below (hb.mono (Nat.le_of_lt hp1))
 have hp2:p<w2.heap.size:=Nat.lt_of_lt_of_le hp1 hb.size
 have hw2:w.heap.size+2≤w2.heap.size:=by have:=hb.size;omega
 clear hb hW1 pP pR hS1 hC1 hp1
 have bA:Below w2.heap.size w2 (w2.alloc (.cells #[.slice a0 n0 k0,.slice a1 n1 k1,.slice a2 n2 k2,.slice a3 n3 k3] 123)):=by go_grown
 have pX:=Blk.new w2 123 [.slice a0 n0 k0,.slice a1 n1 k1,.slice a2 n2 k2,.slice a3 n3 k3]
 have hWay:OnWay w (w2.alloc (.cells #[.slice a0 n0 k0,.slice a1 n1 k1,.slice a2 n2 k2,.slice a3 n3 k3] 123)) p (.slice a n cap) a n cap T w2.heap.size aP capP ((a0,n0,k0),(a1,n1,k1),(a2,n2,k2),(a3,n3,k3)) zeroV:=⟨hS2.belowD bA,hC2.below (bA.mono (Nat.le_of_lt hp2)),by simp;omega,hW2.trans (Went.of_below bA),pP2.below bA,pR2.below bA,pX,hO.below bA,zero_shape⟩
 clear bA pX hS2 hC2 hW2 pP2 pR2 hO
 go_wp2_with fail
 generalize (w2.alloc (.cells #[.slice a0 n0 k0,.slice a1 n1 k1,.slice a2 n2 k2,.slice a3 n3 k3] 123))=W3 at *
 generalize w2.heap.size=X5 at *
 obtain ⟨hSr,hCd,hpU,hWn,pP,pR,pX,hO,HS⟩:=hWay
 refine (next_any p T a n cap 10 W3 hSr hCd (by omega) (by omega)).mono ?_
 rintro e w4 ⟨⟨v,hv,rfl⟩,hSr4,hst⟩
 have hWay:OnWay w w4 p (.slice a n cap) a n cap (T+3) X5 aP capP ((a0,n0,k0),(a1,n1,k1),(a2,n2,k2),(a3,n3,k3)) zeroV:=⟨hSr4,hCd.went hst (Nat.le_of_lt hpU),Nat.lt_of_lt_of_le hpU hst.size,hWn.trans hst,pP.went hst (by omega),pR.went hst (by omega),pX.went hst (by omega),hO.went hst (by omega),HS⟩
 have hv10:v≤10:=by omega
 clear hSr hCd hpU hWn pP pR pX hO HS hSr4 hst hv
 go_wp2_with fail
 go_loopw [6] (fun si wr=>∃ (i TT:Nat) (t:S4) (m:V4),si=.int .i64 i∧i≤10∧TT≤T+3+(10 - i)*3∧OnWay w wr p (.slice a n cap) a n cap TT X5 aP capP t m) (fun si _=>(intOf si).toNat)
 case atStart=>exact ⟨v,T+3,_,_,rfl,hv10,by omega,hWay⟩
 case round =>
  clear hWay hv10
  obtain ⟨i,TT,t,m,rfl,hi,hTT,hSr,hCd,hpU,hWn,pP,pR,pX,hO,HS⟩:=hrel
  have hpX:p≠X5:=by omega
  have hX5:X5≠w.heap.size+1:=by omega
  obtain ⟨⟨a0,n0,k0⟩,⟨a1,n1,k1⟩,⟨a2,n2,k2⟩,⟨a3,n3,k3⟩⟩:=t
  unfold vmC at pX
  simp only at pX
  by_cases hi0:i=0
  ·subst hi0
   have HE:Hid (∀ (W:World),wr.grownBy W (some (w.heap.size+1))→(∃ (t:S4) (m:V4),Ending.returned (.agg #[.slice a0 n0 k0,.slice a1 n1 k1,.slice a2 n2 k2,.slice a3 n3 k3])=.returned t.val∧OwnV W w.heap.size t m∧shapeOk m=true)∧Src W p (.slice a n cap) (T+40)∧Went p w W):=fun W g=>⟨⟨_,m,rfl,(hO.kept9 g pR (by decide)).lowerB (by omega),HS.out⟩,(hSr.grown g (fun k e=>by cases e;omega)).mono (by omega),hWn.grown g (fun k e=>by cases e;omega)⟩
   clear hSr hCd hWn hO HS pP
   go_wp2_with (first | refine wpList_load_blk rfl 123 _ rfl X5 rfl pX _ Tryz.underlying123 rfl (by kernel_rfl) ?_ | refine wpList_store_blk rfl 123 _ _ rfl (w.heap.size+1) [.slice a0 n0 k0,.slice a1 n1 k1,.slice a2 n2 k2,.slice a3 n3 k3] rfl rfl pR (by kernel_rfl) rfl rfl ?_)
   intro w9 pR9 g9
   have hE:=HE.out _ g9
   clear g9 HE pX pR
   go_wp2_with fail
   refine bodyPost_ret (results_blk1 Tryz.results89 _ _ _ _ _ _ rfl pR9.out Tryz.underlying123 rfl (by kernel_rfl)) rfl ?_
   exact hE
  ·have hip:(0:Int)<(i:Int):=by omega
   obtain ⟨_,cs,hR⟩:=(hPr wr hWn).rowsAt HOK.out
   have hM:=hO.mem (shape_fits9 HS.out).1
   have kE:=l03Enabled_is aP 3 capP rows _ m cs wr rfl hR hM HOK.out HS.out
   have uA:S4.val ((a0,n0,k0),(a1,n1,k1),(a2,n2,k2),(a3,n3,k3))=.agg #[.slice a0 n0 k0,.slice a1 n1 k1,.slice a2 n2 k2,.slice a3 n3 k3]:=rfl
   rw [uA] at kE
   have cP:=pP.cell 0
   have cX0:=pX.cell 0
   have cX1:=pX.cell 1
   have cX2:=pX.cell 2
   have cX3:=pX.cell 3
   simp only [List.getElem?_cons_zero,List.getElem?_cons_succ] at cP cX0 cX1 cX2 cX3
   go_wp2_with fail
   refine kE.mono ?_
   rintro e w5 ⟨⟨⟨la,ll,lc⟩,rfl,hLi⟩,hb⟩
   clear kE cP cX0 cX1 cX2 cX3 hM hR
   have hLw:w.heap.size+2≤wr.heap.size:=by
    have h1:=pR.lt
    have h2:=pX.lt
    omega
   replace hSr:=hSr.belowD hb
   replace hCd:=hCd.below (hb.mono (Nat.le_of_lt hpU))
   replace hWn:=hWn.trans (Went.of_below hb)
   replace pP:=pP.below hb
   replace pR:=pR.below hb
   replace pX:=pX.below hb
   replace hO:=hO.below hb
   have hl:(enabM rows m 3).length=ll:=hLi.ints.1
   have hLi2:OwnI w5 (w.heap.size+2) (la,ll,lc) (enabM rows m 3):=own_lower hLi hLw
   replace hpU:p<w5.heap.size:=Nat.lt_of_lt_of_le hpU hb.size
   clear hb hLi hLw
   by_cases hL0:ll=0
   ·subst hL0
    have HE:Hid (∀ (W:World),w5.grownBy W (some (w.heap.size+1))→(∃ (t:S4) (m:V4),Ending.returned (.agg #[.slice a0 n0 k0,.slice a1 n1 k1,.slice a2 n2 k2,.slice a3 n3 k3])=.returned t.val∧OwnV W w.heap.size t m∧shapeOk m=true)∧Src W p (.slice a n cap) (T+40)∧Went p w W):=fun W g=>⟨⟨_,m,rfl,(hO.kept9 g pR (by decide)).lowerB (by omega),HS.out⟩,(hSr.grown g (fun k e=>by cases e;omega)).mono (by omega),hWn.grown g (fun k e=>by cases e;omega)⟩
    clear hSr hCd hWn hO HS pP hLi2 hl
    go_wp2_with (first | refine wpList_load_blk rfl 123 _ rfl X5 rfl pX _ Tryz.underlying123 rfl (by kernel_rfl) ?_ | refine wpList_store_blk rfl 123 _ _ rfl (w.heap.size+1) [.slice a0 n0 k0,.slice a1 n1 k1,.slice a2 n2 k2,.slice a3 n3 k3] rfl rfl pR (by kernel_rfl) rfl rfl ?_)
    intro w9 pR9 g9
    have hE:=HE.out _ g9
    clear g9 HE pX pR
    go_wp2_with fail
    refine bodyPost_ret (results_blk1 Tryz.results89 _ _ _ _ _ _ rfl pR9.out Tryz.underlying123 rfl (by kernel_rfl)) rfl ?_
    exact hE
   ·have hLz:((ll:Int) == 0)=false:=by simp;omega
    have hL3:ll≤3:=by rw [← hl];exact enabM_len rows m 3
    obtain ⟨lg,lc2,hsl,_,_⟩:=hLi2.some9 hl (by omega)
    cases hsl
    have hat:∀ j,j<ll→∃ k:Nat,(enabM rows m 3).getD j 0=k∧k<3∧canM rows m k=true:=fun j hj=>enab_at (by omega)
    have HAT:Hid (∀ j,j<ll→∃ k:Nat,(enabM rows m 3).getD j 0=k∧k<3∧canM rows m k=true):=hat
    clear hat hl
    obtain ⟨es,hes⟩:∃ es,es=enabM rows m 3:=⟨_,rfl⟩
    rw [← hes] at HAT hLi2
    clear hes
    go_wp2_with fail
    refine wp_region_held_drew (S:=(fun w'=>w'.cell? ⟨w.heap.size,0,none⟩=some (.slice aP 3 capP)∧w'.cell? ⟨X5,0,none⟩=some (.slice a0 n0 k0)∧w'.cell? ⟨X5,1,none⟩=some (.slice a1 n1 k1)∧w'.cell? ⟨X5,2,none⟩=some (.slice a2 n2 k2)∧w'.cell? ⟨X5,3,none⟩=some (.slice a3 n3 k3)∧∀ j,j<ll→w'.cell? ⟨lg,j,none⟩=some (.int .i64 (es.getD j 0)))) (by kernel_rfl) (cellsD pP pX hLi2) (fun hS0=>?_)
    refine tkm 0 25 (.agg #[.slice aP 3 capP]) ?_
    refine tkm 1 26 (.agg #[.slice a0 n0 k0,.slice a1 n1 k1,.slice a2 n2 k2,.slice a3 n3 k3]) ?_
    refine tkm 2 27 (.slice (some ⟨lg,0,none⟩) ll lc) ?_
    refine tkm 3 28 (.pointer (some ⟨p,0,none⟩)) ?_
    refine tkm 4 29 (.slice (some ⟨lg,0,none⟩) ll lc) ?_
    refine tkm 5 30 (.int .i64 (ll:Int)) ?_
    refine wpAnyH_ready (rs:=[6,13]) (by kernel_rfl) (by simp) ?_
    refine AllReadyH.cons (o:=⟨some 31,_,_,_,_,_⟩) rfl (fun K hK=>?_) (AllReadyH.cons (o:=⟨some 8,_,_,_,_,_⟩) rfl (fun K hK=>?_) AllReadyH.nil)
    ·go_simp
     refine (next_any p TT a n cap (ll:Int) w5.drew (show Src w5.drew p _ _ from hSr) (show Code w5.drew p _ _ _ from hCd) (by omega) (by omega)).mono ?_
     rintro e U1 ⟨⟨v,hv,rfl⟩,hSn,hst⟩
     replace hst:Went p w5 U1:=⟨hst.os,hst.tape,hst.output,hst.size,hst.block⟩
     have hvl:v<ll:=by omega
     have hvi:(v:Int)<(ll:Int):=by omega
     obtain ⟨kk,hkk,hk3,hcan⟩:=HAT.out v hvl
     have HCN:Hid (canM rows m kk=true):=hcan
     clear hcan hv
     replace hSr:=hSn
     replace hCd:=hCd.went hst (Nat.le_of_lt hpU)
     replace hpU:p<U1.heap.size:=Nat.lt_of_lt_of_le hpU hst.size
     replace hWn:=hWn.trans hst
     replace pP:=pP.went hst (by omega)
     replace pR:=pR.went hst (by omega)
     replace pX:=pX.went hst (by omega)
     replace hO:=hO.went hst (by omega)
     replace hLi2:=hLi2.went hst (by omega)
     go_wp2_with fail
     refine hK.out _ _ (cellsD pP pX hLi2) (fun hS1=>?_)
     clear hK hst hSn
     try simp only [Act.put,tka,tkb,tkc]
     refine tkm 7 32 (.pointer (some ⟨lg,v,none⟩)) ?_
     refine tkx 8 33 (.int .i64 (kk:Int)) ?_ ?_
     ·(intro w' hSw;have hcv:=hSw.2.2.2.2.2 v hvl;rw [hkk] at hcv;clear hSw;(try dsimp only at hSw);go_simp;try rfl)
     simp only [Act.put,tka,tkb,tkc]
     refine wpAnyH_ready (rs:=[9,13]) (by kernel_rfl) (by simp) ?_
     refine AllReadyH.cons (o:=⟨some 34,_,_,_,_,_⟩) rfl (fun K hK=>?_) (AllReadyH.cons (o:=⟨some 8,_,_,_,_,_⟩) rfl (fun K hK=>?_) AllReadyH.nil)
     ·obtain ⟨_,cs,hR⟩:=(hPr U1 hWn).rowsAt HOK.out
      have hM:=hO.mem (shape_fits9 HS.out).1
      have hsh:=shape_step HOK.out HS.out hk3 (can_parts HCN.out).1
      have kT:=l03Step_is (cap:=capP) rfl hR hM HOK.out HS.out hk3 (can_parts HCN.out).1
      have uB:S4.val ((a0,n0,k0),(a1,n1,k1),(a2,n2,k2),(a3,n3,k3))=.agg #[.slice a0 n0 k0,.slice a1 n1 k1,.slice a2 n2 k2,.slice a3 n3 k3]:=rfl
      rw [uB] at kT
      generalize (stepM m (insM rows m kk) kk).1=mm at *
      generalize (stepM m (insM rows m kk) kk).2=fd at *
      have HS2:Hid (shapeOk mm=true):=hsh
      clear hM hR uB hsh
      go_simp
      refine kT.mono ?_
      rintro e U2 ⟨⟨⟨⟨b0,m0,q0⟩,⟨b1,m1,q1⟩,⟨b2,m2,q2⟩,⟨b3,m3,q3⟩⟩,rfl,hO2⟩,hb⟩
      have uC:S4.val ((b0,m0,q0),(b1,m1,q1),(b2,m2,q2),(b3,m3,q3))=.agg #[.slice b0 m0 q0,.slice b1 m1 q1,.slice b2 m2 q2,.slice b3 m3 q3]:=rfl
      rw [uC]
      clear uC kT
      replace hO2:=hO2.lowerB (B':=w.heap.size+2) (by have h1:=pR.lt;have h2:=pX.lt;omega)
      replace hSr:=hSr.belowD hb
      replace hCd:=hCd.below (hb.mono (Nat.le_of_lt hpU))
      replace hWn:=hWn.trans (Went.of_below hb)
      replace pP:=pP.below hb
      replace pR:=pR.below hb
      replace pX:=pX.below hb
      replace hO:=hO.below hb
      replace hLi2:=hLi2.below hb
      replace hpU:p<U2.heap.size:=Nat.lt_of_lt_of_le hpU hb.size
      go_wp2_with fail
      refine hK.out _ _ (cellsD pP pX hLi2) (fun hS2=>?_)
      clear hK hb
      try simp only [Act.put,tka,tkb,tkc]
      refine tkm 10 24 (.tuple #[.agg #[.slice b0 m0 q0,.slice b1 m1 q1,.slice b2 m2 q2,.slice b3 m3 q3],.int .i64 fd]) ?_
      refine tkm 11 35 (.agg #[.slice b0 m0 q0,.slice b1 m1 q1,.slice b2 m2 q2,.slice b3 m3 q3]) ?_
      refine tkm 12 36 (.int .i64 fd) ?_
      refine tkr 13 8 (fun K hK=>?_)
      have hal:Below U2.heap.size U2 (U2.alloc (.cells #[.slice none 0 0,.slice none 0 0,.slice none 0 0,.slice none 0 0] 123)):=by go_grown
      have pG:Blk (U2.alloc (.cells #[.slice none 0 0,.slice none 0 0,.slice none 0 0,.slice none 0 0] 123)) U2.heap.size 123 [.slice none 0 0,.slice none 0 0,.slice none 0 0,.slice none 0 0]:=Blk.new U2 123 [.slice none 0 0,.slice none 0 0,.slice none 0 0,.slice none 0 0]
      have hGw:w.heap.size+1<U2.heap.size:=pR.lt
      have hG5:X5<U2.heap.size:=pX.lt
      replace hSr:=hSr.belowD hal
      replace hCd:=hCd.below (hal.mono (Nat.le_of_lt hpU))
      replace hWn:=hWn.trans (Went.of_below hal)
      replace pP:=pP.below hal
      replace pR:=pR.below hal
      replace pX:=pX.below hal
      replace hO:=hO.below hal
      replace hLi2:=hLi2.below hal
      replace hO2:=hO2.below hal
      replace hpU:p<(U2.alloc (.cells #[.slice none 0 0,.slice none 0 0,.slice none 0 0,.slice none 0 0] 123)).heap.size:=Nat.lt_of_lt_of_le hpU hal.size
      go_simp
      refine hK.out _ _ (cellsD pP pX hLi2) (fun hS3=>?_)
      clear hK hal
      generalize hG8:U2.heap.size=G8 at *
      generalize (U2.alloc (.cells #[.slice none 0 0,.slice none 0 0,.slice none 0 0,.slice none 0 0] 123))=U3 at *
      try simp only [Act.put,tka,tkb,tkc]
      refine tkz 14 (fun K hK=>?_)
      refine step_store_blkD rfl 123 _ _ rfl G8 [.slice b0 m0 q0,.slice b1 m1 q1,.slice b2 m2 q2,.slice b3 m3 q3] rfl rfl pG (by kernel_rfl) rfl rfl ?_
      intro U4 pG2 g2
      replace hSr:=hSr.grown g2 (fun k e=>by cases e;omega)
      replace hCd:=hCd.below (grown_below g2 (show p≤G8 by omega) (Nat.le_of_lt hpU))
      replace hpU:p<U4.heap.size:=Nat.lt_of_lt_of_le hpU g2.size
      replace hWn:=hWn.grown g2 (fun k e=>by cases e;omega)
      replace hLi2:OwnI U4 (w.heap.size+2) (some ⟨lg,0,none⟩,ll,lc) es:=hLi2.kept9 g2 pG (by decide)
      replace hO:=hO.kept9 g2 pG (by decide)
      replace hO2:=hO2.kept9 g2 pG (by decide)
      replace pP:=pP.kept g2 (fun e=>by cases e;omega)
      replace pR:=pR.kept g2 (fun e=>by cases e;omega)
      replace pX:=pX.kept g2 (fun e=>by cases e;omega)
      replace pG:=pG2.out
      clear pG2 g2
      refine hK.out _ _ (cellsD pP pX hLi2) (fun hS4=>?_)
      clear hK
      try simp only [Act.put,tka,tkb,tkc]
      refine tkm 15 9 (.int .i64 fd) ?_
      refine wpAnyH_done (by kernel_rfl) ?_ _
      clear hLi2 hO HAT HS
      go_wp2_with (first | refine wpList_load_blk rfl 123 _ rfl G8 rfl pG _ Tryz.underlying123 rfl (by kernel_rfl) ?_ | refine wpList_store_blk rfl 123 _ _ rfl X5 [.slice b0 m0 q0,.slice b1 m1 q1,.slice b2 m2 q2,.slice b3 m3 q3] rfl rfl pX (by kernel_rfl) rfl rfl ?_)
      intro w9 pX9 g9
      have hne2:X5≠w.heap.size:=blk_ne pX pP (by decide)
      have hWay:OnWay w w9 p (.slice a n cap) a n cap (TT+3) X5 aP capP ((b0,m0,q0),(b1,m1,q1),(b2,m2,q2),(b3,m3,q3)) mm:=⟨hSr.grown g9 (fun k e=>by cases e;omega),hCd.below (grown_below g9 (show p≤X5 by omega) (Nat.le_of_lt hpU)),Nat.lt_of_lt_of_le hpU g9.size,hWn.grown g9 (fun k e=>by cases e;omega),pP.kept g9 (fun e=>hne2 (by cases e;rfl)),pR.kept g9 (fun e=>hX5 (by cases e;rfl)),pX9.out,hO2.kept9 g9 pX (by decide),HS2⟩
      clear g9 pX9 pG hO2 HS2 hSr hCd hpU hWn pP pR pX hne2
      go_wp2
      go_roundw
      case rel=>exact ⟨i - 1,TT+3,_,mm,by go_num,by omega,by omega,hWay⟩
      case measure=>simp [intOf];omega
     ·have hal:Below U1.heap.size U1 (U1.alloc (.cells #[.slice none 0 0,.slice none 0 0,.slice none 0 0,.slice none 0 0] 123)):=by go_grown
      have pG:Blk (U1.alloc (.cells #[.slice none 0 0,.slice none 0 0,.slice none 0 0,.slice none 0 0] 123)) U1.heap.size 123 [.slice none 0 0,.slice none 0 0,.slice none 0 0,.slice none 0 0]:=Blk.new U1 123 [.slice none 0 0,.slice none 0 0,.slice none 0 0,.slice none 0 0]
      have hGw:w.heap.size+1<U1.heap.size:=pR.lt
      have hG5:X5<U1.heap.size:=pX.lt
      replace hSr:=hSr.belowD hal
      replace hCd:=hCd.below (hal.mono (Nat.le_of_lt hpU))
      replace hWn:=hWn.trans (Went.of_below hal)
      replace pP:=pP.below hal
      replace pR:=pR.below hal
      replace pX:=pX.below hal
      replace hO:=hO.below hal
      replace hLi2:=hLi2.below hal
      replace hpU:p<(U1.alloc (.cells #[.slice none 0 0,.slice none 0 0,.slice none 0 0,.slice none 0 0] 123)).heap.size:=Nat.lt_of_lt_of_le hpU hal.size
      go_simp
      refine hK.out _ _ (cellsD pP pX hLi2) (fun hS5=>?_)
      clear hK hal
      generalize hG8:U1.heap.size=G8 at *
      generalize (U1.alloc (.cells #[.slice none 0 0,.slice none 0 0,.slice none 0 0,.slice none 0 0] 123))=U5 at *
      try simp only [Act.put,tka,tkb,tkc]
      refine tkr 9 34 (fun K hK=>?_)
      obtain ⟨_,cs,hR⟩:=(hPr U5 hWn).rowsAt HOK.out
      have hM:=hO.mem (shape_fits9 HS.out).1
      have hsh:=shape_step HOK.out HS.out hk3 (can_parts HCN.out).1
      have kT:=l03Step_is (cap:=capP) rfl hR hM HOK.out HS.out hk3 (can_parts HCN.out).1
      have uB:S4.val ((a0,n0,k0),(a1,n1,k1),(a2,n2,k2),(a3,n3,k3))=.agg #[.slice a0 n0 k0,.slice a1 n1 k1,.slice a2 n2 k2,.slice a3 n3 k3]:=rfl
      rw [uB] at kT
      generalize (stepM m (insM rows m kk) kk).1=mm at *
      generalize (stepM m (insM rows m kk) kk).2=fd at *
      have HS2:Hid (shapeOk mm=true):=hsh
      clear hM hR uB hsh
      go_simp
      refine kT.mono ?_
      rintro e U6 ⟨⟨⟨⟨b0,m0,q0⟩,⟨b1,m1,q1⟩,⟨b2,m2,q2⟩,⟨b3,m3,q3⟩⟩,rfl,hO2⟩,hb⟩
      have uC:S4.val ((b0,m0,q0),(b1,m1,q1),(b2,m2,q2),(b3,m3,q3))=.agg #[.slice b0 m0 q0,.slice b1 m1 q1,.slice b2 m2 q2,.slice b3 m3 q3]:=rfl
      rw [uC]
      clear uC kT
      replace hO2:=hO2.lowerB (B':=w.heap.size+2) (by have h1:=pR.lt;have h2:=pX.lt;omega)
      replace hSr:=hSr.belowD hb
      replace hCd:=hCd.below (hb.mono (Nat.le_of_lt hpU))
      replace hWn:=hWn.trans (Went.of_below hb)
      replace pP:=pP.below hb
      replace pR:=pR.below hb
      replace pX:=pX.below hb
      replace pG:=pG.below hb
      replace hO:=hO.below hb
      replace hLi2:=hLi2.below hb
      replace hpU:p<U6.heap.size:=Nat.lt_of_lt_of_le hpU hb.size
      go_wp2_with fail
      refine hK.out _ _ (cellsD pP pX hLi2) (fun hS6=>?_)
      clear hK hb
      try simp only [Act.put,tka,tkb,tkc]
      refine tkm 10 24 (.tuple #[.agg #[.slice b0 m0 q0,.slice b1 m1 q1,.slice b2 m2 q2,.slice b3 m3 q3],.int .i64 fd]) ?_
      refine tkm 11 35 (.agg #[.slice b0 m0 q0,.slice b1 m1 q1,.slice b2 m2 q2,.slice b3 m3 q3]) ?_
      refine tkm 12 36 (.int .i64 fd) ?_
      refine tkz 14 (fun K hK=>?_)
      refine step_store_blkD rfl 123 _ _ rfl G8 [.slice b0 m0 q0,.slice b1 m1 q1,.slice b2 m2 q2,.slice b3 m3 q3] rfl rfl pG (by kernel_rfl) rfl rfl ?_
      intro U7 pG2 g2
      replace hSr:=hSr.grown g2 (fun k e=>by cases e;omega)
      replace hCd:=hCd.below (grown_below g2 (show p≤G8 by omega) (Nat.le_of_lt hpU))
      replace hpU:p<U7.heap.size:=Nat.lt_of_lt_of_le hpU g2.size
      replace hWn:=hWn.grown g2 (fun k e=>by cases e;omega)
      replace hLi2:OwnI U7 (w.heap.size+2) (some ⟨lg,0,none⟩,ll,lc) es:=hLi2.kept9 g2 pG (by decide)
      replace hO:=hO.kept9 g2 pG (by decide)
      replace hO2:=hO2.kept9 g2 pG (by decide)
      replace pP:=pP.kept g2 (fun e=>by cases e;omega)
      replace pR:=pR.kept g2 (fun e=>by cases e;omega)
      replace pX:=pX.kept g2 (fun e=>by cases e;omega)
      replace pG:=pG2.out
      clear pG2 g2
      refine hK.out _ _ (cellsD pP pX hLi2) (fun hS7=>?_)
      clear hK
      try simp only [Act.put,tka,tkb,tkc]
      refine tkm 15 9 (.int .i64 fd) ?_
      refine wpAnyH_done (by kernel_rfl) ?_ _
      clear hLi2 hO HAT HS
      go_wp2_with (first | refine wpList_load_blk rfl 123 _ rfl G8 rfl pG _ Tryz.underlying123 rfl (by kernel_rfl) ?_ | refine wpList_store_blk rfl 123 _ _ rfl X5 [.slice b0 m0 q0,.slice b1 m1 q1,.slice b2 m2 q2,.slice b3 m3 q3] rfl rfl pX (by kernel_rfl) rfl rfl ?_)
      intro w9 pX9 g9
      have hne2:X5≠w.heap.size:=blk_ne pX pP (by decide)
      have hWay:OnWay w w9 p (.slice a n cap) a n cap (TT+3) X5 aP capP ((b0,m0,q0),(b1,m1,q1),(b2,m2,q2),(b3,m3,q3)) mm:=⟨hSr.grown g9 (fun k e=>by cases e;omega),hCd.below (grown_below g9 (show p≤X5 by omega) (Nat.le_of_lt hpU)),Nat.lt_of_lt_of_le hpU g9.size,hWn.grown g9 (fun k e=>by cases e;omega),pP.kept g9 (fun e=>hne2 (by cases e;rfl)),pR.kept g9 (fun e=>hX5 (by cases e;rfl)),pX9.out,hO2.kept9 g9 pX (by decide),HS2⟩
      clear g9 pX9 pG hO2 HS2 hSr hCd hpU hWn pP pR pX hne2
      go_wp2
      go_roundw
      case rel=>exact ⟨i - 1,TT+3,_,mm,by go_num,by omega,by omega,hWay⟩
      case measure=>simp [intOf];omega
    ·have hal:Below w5.heap.size w5 (w5.alloc (.cells #[.slice none 0 0,.slice none 0 0,.slice none 0 0,.slice none 0 0] 123)).drew:=by go_grown
     have pG:Blk (w5.alloc (.cells #[.slice none 0 0,.slice none 0 0,.slice none 0 0,.slice none 0 0] 123)).drew w5.heap.size 123 [.slice none 0 0,.slice none 0 0,.slice none 0 0,.slice none 0 0]:=Blk.new w5 123 [.slice none 0 0,.slice none 0 0,.slice none 0 0,.slice none 0 0]
     have hGw:w.heap.size+1<w5.heap.size:=pR.lt
     have hG5:X5<w5.heap.size:=pX.lt
     replace hSr:=hSr.belowD hal
     replace hCd:=hCd.below (hal.mono (Nat.le_of_lt hpU))
     replace hWn:=hWn.trans (Went.of_below hal)
     replace pP:=pP.below hal
     replace pR:=pR.below hal
     replace pX:=pX.below hal
     replace hO:=hO.below hal
     replace hLi2:=hLi2.below hal
     replace hpU:p<(w5.alloc (.cells #[.slice none 0 0,.slice none 0 0,.slice none 0 0,.slice none 0 0] 123)).drew.heap.size:=Nat.lt_of_lt_of_le hpU hal.size
     go_simp
     refine hK.out _ _ (cellsD pP pX hLi2) (fun hS8=>?_)
     clear hK hal
     generalize hG8:w5.heap.size=G8 at *
     generalize (w5.alloc (.cells #[.slice none 0 0,.slice none 0 0,.slice none 0 0,.slice none 0 0] 123)).drew=U8 at *
     try simp only [Act.put,tka,tkb,tkc]
     refine tkr 6 31 (fun K hK=>?_)
     go_simp
     refine (next_any p TT a n cap (ll:Int) U8 (show Src U8 p _ _ from hSr) (show Code U8 p _ _ _ from hCd) (by omega) (by omega)).mono ?_
     rintro e U9 ⟨⟨v,hv,rfl⟩,hSn,hst⟩
     replace hst:Went p U8 U9:=⟨hst.os,hst.tape,hst.output,hst.size,hst.block⟩
     have hvl:v<ll:=by omega
     have hvi:(v:Int)<(ll:Int):=by omega
     obtain ⟨kk,hkk,hk3,hcan⟩:=HAT.out v hvl
     have HCN:Hid (canM rows m kk=true):=hcan
     clear hcan hv
     replace hSr:=hSn
     replace hCd:=hCd.went hst (Nat.le_of_lt hpU)
     replace hpU:p<U9.heap.size:=Nat.lt_of_lt_of_le hpU hst.size
     replace hWn:=hWn.trans hst
     replace pP:=pP.went hst (by omega)
     replace pR:=pR.went hst (by omega)
     replace pX:=pX.went hst (by omega)
     replace pG:=pG.went hst (by omega)
     replace hO:=hO.went hst (by omega)
     replace hLi2:=hLi2.went hst (by omega)
     go_wp2_with fail
     refine hK.out _ _ (cellsD pP pX hLi2) (fun hS9=>?_)
     clear hK hst hSn
     try simp only [Act.put,tka,tkb,tkc]
     refine tkm 7 32 (.pointer (some ⟨lg,v,none⟩)) ?_
     refine tkx 8 33 (.int .i64 (kk:Int)) ?_ ?_
     ·(intro w' hSw;have hcv:=hSw.2.2.2.2.2 v hvl;rw [hkk] at hcv;clear hSw;(try dsimp only at hSw);go_simp;try rfl)
     simp only [Act.put,tka,tkb,tkc]
     refine tkr 9 34 (fun K hK=>?_)
     obtain ⟨_,cs,hR⟩:=(hPr U9 hWn).rowsAt HOK.out
     have hM:=hO.mem (shape_fits9 HS.out).1
     have hsh:=shape_step HOK.out HS.out hk3 (can_parts HCN.out).1
     have kT:=l03Step_is (cap:=capP) rfl hR hM HOK.out HS.out hk3 (can_parts HCN.out).1
     have uB:S4.val ((a0,n0,k0),(a1,n1,k1),(a2,n2,k2),(a3,n3,k3))=.agg #[.slice a0 n0 k0,.slice a1 n1 k1,.slice a2 n2 k2,.slice a3 n3 k3]:=rfl
     rw [uB] at kT
     generalize (stepM m (insM rows m kk) kk).1=mm at *
     generalize (stepM m (insM rows m kk) kk).2=fd at *
     have HS2:Hid (shapeOk mm=true):=hsh
     clear hM hR uB hsh
     go_simp
     refine kT.mono ?_
     rintro e U10 ⟨⟨⟨⟨b0,m0,q0⟩,⟨b1,m1,q1⟩,⟨b2,m2,q2⟩,⟨b3,m3,q3⟩⟩,rfl,hO2⟩,hb⟩
     have uC:S4.val ((b0,m0,q0),(b1,m1,q1),(b2,m2,q2),(b3,m3,q3))=.agg #[.slice b0 m0 q0,.slice b1 m1 q1,.slice b2 m2 q2,.slice b3 m3 q3]:=rfl
     rw [uC]
     clear uC kT
     replace hO2:=hO2.lowerB (B':=w.heap.size+2) (by have h1:=pR.lt;have h2:=pX.lt;omega)
     replace hSr:=hSr.belowD hb
     replace hCd:=hCd.below (hb.mono (Nat.le_of_lt hpU))
     replace hWn:=hWn.trans (Went.of_below hb)
     replace pP:=pP.below hb
     replace pR:=pR.below hb
     replace pX:=pX.below hb
     replace pG:=pG.below hb
     replace hO:=hO.below hb
     replace hLi2:=hLi2.below hb
     replace hpU:p<U10.heap.size:=Nat.lt_of_lt_of_le hpU hb.size
     go_wp2_with fail
     refine hK.out _ _ (cellsD pP pX hLi2) (fun hS10=>?_)
     clear hK hb
     try simp only [Act.put,tka,tkb,tkc]
     refine tkm 10 24 (.tuple #[.agg #[.slice b0 m0 q0,.slice b1 m1 q1,.slice b2 m2 q2,.slice b3 m3 q3],.int .i64 fd]) ?_
     refine tkm 11 35 (.agg #[.slice b0 m0 q0,.slice b1 m1 q1,.slice b2 m2 q2,.slice b3 m3 q3]) ?_
     refine tkm 12 36 (.int .i64 fd) ?_
     refine tkz 14 (fun K hK=>?_)
     refine step_store_blkD rfl 123 _ _ rfl G8 [.slice b0 m0 q0,.slice b1 m1 q1,.slice b2 m2 q2,.slice b3 m3 q3] rfl rfl pG (by kernel_rfl) rfl rfl ?_
     intro U11 pG2 g2
     replace hSr:=hSr.grown g2 (fun k e=>by cases e;omega)
     replace hCd:=hCd.below (grown_below g2 (show p≤G8 by omega) (Nat.le_of_lt hpU))
     replace hpU:p<U11.heap.size:=Nat.lt_of_lt_of_le hpU g2.size
     replace hWn:=hWn.grown g2 (fun k e=>by cases e;omega)
     replace hLi2:OwnI U11 (w.heap.size+2) (some ⟨lg,0,none⟩,ll,lc) es:=hLi2.kept9 g2 pG (by decide)
     replace hO:=hO.kept9 g2 pG (by decide)
     replace hO2:=hO2.kept9 g2 pG (by decide)
     replace pP:=pP.kept g2 (fun e=>by cases e;omega)
     replace pR:=pR.kept g2 (fun e=>by cases e;omega)
     replace pX:=pX.kept g2 (fun e=>by cases e;omega)
     replace pG:=pG2.out
     clear pG2 g2
     refine hK.out _ _ (cellsD pP pX hLi2) (fun hS11=>?_)
     clear hK
     try simp only [Act.put,tka,tkb,tkc]
     refine tkm 15 9 (.int .i64 fd) ?_
     refine wpAnyH_done (by kernel_rfl) ?_ _
     clear hLi2 hO HAT HS
     go_wp2_with (first | refine wpList_load_blk rfl 123 _ rfl G8 rfl pG _ Tryz.underlying123 rfl (by kernel_rfl) ?_ | refine wpList_store_blk rfl 123 _ _ rfl X5 [.slice b0 m0 q0,.slice b1 m1 q1,.slice b2 m2 q2,.slice b3 m3 q3] rfl rfl pX (by kernel_rfl) rfl rfl ?_)
     intro w9 pX9 g9
     have hne2:X5≠w.heap.size:=blk_ne pX pP (by decide)
     have hWay:OnWay w w9 p (.slice a n cap) a n cap (TT+3) X5 aP capP ((b0,m0,q0),(b1,m1,q1),(b2,m2,q2),(b3,m3,q3)) mm:=⟨hSr.grown g9 (fun k e=>by cases e;omega),hCd.below (grown_below g9 (show p≤X5 by omega) (Nat.le_of_lt hpU)),Nat.lt_of_lt_of_le hpU g9.size,hWn.grown g9 (fun k e=>by cases e;omega),pP.kept g9 (fun e=>hne2 (by cases e;rfl)),pR.kept g9 (fun e=>hX5 (by cases e;rfl)),pX9.out,hO2.kept9 g9 pX (by decide),HS2⟩
     clear g9 pX9 pG hO2 HS2 hSr hCd hpU hWn pP pR pX hne2
     go_wp2
     go_roundw
     case rel=>exact ⟨i - 1,TT+3,_,mm,by go_num,by omega,by omega,hWay⟩
     case measure=>simp [intOf];omega
end Go.Proofs.YtdopgkbegjfhjaaGreatDoor
