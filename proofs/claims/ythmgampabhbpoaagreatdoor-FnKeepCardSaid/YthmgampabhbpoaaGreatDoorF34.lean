/-
  Joined: MgiI, MgiJ.
-/
import Derived.Shelf.SlIterI.Nil
import Derived.Shelf.SortM.Plain
import Derived.Shelf.SortM.SortNone
import Derived.Test.YthmgampabhbpoaaGreatDoorF33

namespace Go.Proofs.YthmgampabhbpoaaGreatDoor
set_option maxRecDepth 100000
set_option maxHeartbeats 16000000
open Go.RowKit
set_option linter.unusedVariables false
set_option linter.unusedSimpArgs false

def allIt (xs:List Int):Bool:=xs.all itOk
def wfs (xs:List Int):Prop:=∀ x ∈ xs,(Lit.int .i64 x).wf=true
theorem allIt_drop {xs:List Int} {k:Nat} (h:k<xs.length):allIt (xs.drop k)=(itOk (xs.getD k 0) && allIt (xs.drop (k+1))):=by
 unfold allIt
 rw [List.drop_eq_getElem_cons h,List.all_cons]
 simp [List.getD,List.getElem?_eq_getElem h]
theorem itOk_wf {x:Int} (h:itOk x=true):(Lit.int .i64 x).wf=true:=by
 simp only [itOk,decide_eq_true_eq] at h
 exact fits8 (by omega) (by omega)
theorem allIt_wf {xs:List Int} (h:allIt xs=true):wfs xs:=fun x hx=>itOk_wf (List.all_eq_true.1 h x hx)

theorem itemsOK_is (a:Option Addr) (n cap:Nat) (Z:List Int) (w:World) (h:Ints .i64 w a n cap Z) (hn:n≤1048576) (hw:wfs Z) :
  Calls Tryz.prog 31 #[.slice a n cap] w fun e w'=>e=.returned (.bool (allIt Z))∧w=w':=by
 have hl:=h.1
 obtain ⟨r,hr⟩:∃ r,r=allIt Z:=⟨_,rfl⟩
 rw [← hr]
 have HR:Hid (r=allIt (Z.drop 0)):=by rw [Hid];simpa using hr
 clear hr
 go_enter Tryz.func31,Tryz.ntmps31
 go_wp2_with fail
 go_loopw [7] (fun si wr=>∃ k:Nat,k≤n∧si=.int .i64 k∧Hid (r=allIt (Z.drop k))∧w=wr) (fun si _=>n - (Go.RowKit.intOf si).toNat)
 case atStart=>exact ⟨0,by omega,rfl,HR,rfl⟩
 case round =>
  clear HR
  obtain ⟨k,hk,rfl,HR,rfl⟩:=hrel
  by_cases hlt:k<n
  ·have hm:=allIt_drop (xs:=Z) (k:=k) (by omega)
   have hx:=hw (Z.getD k 0) (by simp [List.getD,List.getElem?_eq_getElem (show k<Z.length by omega)])
   obtain ⟨_,_,_,hcase⟩:=h
   rcases hcase with e0 | ⟨b,off,rfl,hb,hc⟩
   ·omega
   have d0:=hc k hlt
   clear hc hb
   generalize Z.getD k 0=x at d0 hm hx
   have kO:=isItem_is x (in_wf8 hx)
   clear hx
   have HM:Hid (allIt (Z.drop k)=(itOk x && allIt (Z.drop (k+1)))):=hm
   clear hm
   have hlt':(k:Int)<(n:Int):=by omega
   have hk0:(0:Int)≤(k:Int):=by omega
   cases hE:itOk x
   ·rw [hE] at kO
    have HF:Hid (r=false):=by rw [Hid,HR.out,HM.out,hE];rfl
    clear HM HR hE
    go_wp2_with fail
    refine (kO _).mono ?_
    rintro e w1 ⟨rfl,rfl⟩
    go_wp2
    go_ret
    exact ⟨by rw [HF.out];rfl,rfl⟩
   ·rw [hE] at kO
    have HF:Hid (r=allIt (Z.drop (k+1))):=by rw [Hid,HR.out,HM.out,hE];rfl
    clear HM HR hE
    go_wp2_with fail
    refine (kO _).mono ?_
    rintro e w1 ⟨rfl,rfl⟩
    go_wp2
    go_roundw
    case rel=>exact ⟨k+1,by omega,by go_num,HF,by first | rfl | trivial⟩
    case measure=>simp [Go.RowKit.intOf];omega
  ·obtain rfl:k=n:=by omega
   have HF:Hid (r=true):=by rw [Hid,HR.out,List.drop_of_length_le (by omega)];rfl
   clear HR
   go_wp2
   go_ret
   exact ⟨by rw [HF.out];rfl,rfl⟩

theorem l08All_is (a:Option Addr) (n cap:Nat) (Z:List Int) (w:World) (h:Ints .i64 w a n cap Z) (hn:n≤1048576) (hw:wfs Z) :
  Calls Tryz.prog 34 #[.slice a n cap] w fun e w'=>e=.returned (.bool (allIt Z))∧w=w':=by
 have hl:=h.1
 obtain ⟨r,hr⟩:∃ r,r=allIt Z:=⟨_,rfl⟩
 rw [← hr]
 have HR:Hid (r=allIt (Z.drop 0)):=by rw [Hid];simpa using hr
 clear hr
 go_enter Tryz.func34,Tryz.ntmps34
 go_wp2_with fail
 go_loopw [3] (fun si wr=>∃ k:Nat,k≤n∧si=.int .i64 k∧Hid (r=allIt (Z.drop k))∧w=wr) (fun si _=>n - (Go.RowKit.intOf si).toNat)
 case atStart=>exact ⟨0,by omega,rfl,HR,rfl⟩
 case round =>
  clear HR
  obtain ⟨k,hk,rfl,HR,rfl⟩:=hrel
  by_cases hlt:k<n
  ·have hm:=allIt_drop (xs:=Z) (k:=k) (by omega)
   have hx:=hw (Z.getD k 0) (by simp [List.getD,List.getElem?_eq_getElem (show k<Z.length by omega)])
   obtain ⟨_,_,_,hcase⟩:=h
   rcases hcase with e0 | ⟨b,off,rfl,hb,hc⟩
   ·omega
   have d0:=hc k hlt
   clear hc hb
   generalize Z.getD k 0=x at d0 hm hx
   have kO:=l08OK_is x (in_wf8 hx)
   clear hx
   have HM:Hid (allIt (Z.drop k)=(itOk x && allIt (Z.drop (k+1)))):=hm
   clear hm
   have hlt':(k:Int)<(n:Int):=by omega
   have hk0:(0:Int)≤(k:Int):=by omega
   cases hE:itOk x
   ·rw [hE] at kO
    have HF:Hid (r=false):=by rw [Hid,HR.out,HM.out,hE];rfl
    clear HM HR hE
    go_wp2_with fail
    refine (kO _).mono ?_
    rintro e w1 ⟨rfl,rfl⟩
    go_wp2
    go_ret
    exact ⟨by rw [HF.out];rfl,rfl⟩
   ·rw [hE] at kO
    have HF:Hid (r=allIt (Z.drop (k+1))):=by rw [Hid,HR.out,HM.out,hE];rfl
    clear HM HR hE
    go_wp2_with fail
    refine (kO _).mono ?_
    rintro e w1 ⟨rfl,rfl⟩
    go_wp2
    go_roundw
    case rel=>exact ⟨k+1,by omega,by go_num,HF,by first | rfl | trivial⟩
    case measure=>simp [Go.RowKit.intOf];omega
  ·obtain rfl:k=n:=by omega
   have HF:Hid (r=true):=by rw [Hid,HR.out,List.drop_of_length_le (by omega)];rfl
   clear HR
   go_wp2
   go_ret
   exact ⟨by rw [HF.out];rfl,rfl⟩

theorem fold_take {xs acc:List Int} {k:Nat} (h:k<xs.length):(xs.take (k+1)).foldl putI acc=putI ((xs.take k).foldl putI acc) (xs.getD k 0):=by
 rw [take_snoc8 h,List.foldl_append]
 rfl
theorem l08Merge_is (a:Option Addr) (n cap:Nat) (xs:List Int) (a':Option Addr) (n' cap':Nat) (ys:List Int) (w:World) (h:Ints .i64 w a n cap xs) (h':Ints .i64 w a' n' cap' ys) (hn:n≤100000) (hn':n'≤100000) :
  Calls Tryz.prog 82 #[.slice a n cap,.slice a' n' cap'] w fun e w'=>RowGot e w' w.heap.size (mrgI (xs++ys))∧Below w.heap.size w w':=by
 have hl:=h.1
 have hl':=h'.1
 have q0:=empty8 w 3 1 w.heap.size (Nat.le_refl _)
 have b0:Below w.heap.size w (w.alloc (.cells #[] 3)):=by go_grown
 obtain ⟨R,hR⟩:∃ R:World→Value→List Int→Prop,∀ W v zs,R W v zs↔(∃ g c,v=.slice (some ⟨g,0,none⟩) zs.length c∧W.ownsRow w.heap.size 3 1 v zs.length (zs.map (Value.int .i64)))∧Below w.heap.size w W:=⟨fun W v zs=>(∃ g c,v=.slice (some ⟨g,0,none⟩) zs.length c∧W.ownsRow w.heap.size 3 1 v zs.length (zs.map (Value.int .i64)))∧Below w.heap.size w W,fun _ _ _=>Iff.rfl⟩
 have hR0:R (w.alloc (.cells #[] 3)) (.slice (some ⟨w.heap.size,0,none⟩) 0 0) []:=(hR _ _ _).2 ⟨⟨_,_,rfl,q0⟩,b0⟩
 have hlx:∀ k,((xs.take k).foldl putI []).length≤100000:=fun k=>by
  have:=foldl_putI_len (xs.take k) []
  simp at this
  omega
 have hly:∀ k,((ys.take k).foldl putI (mrgI xs)).length≤200000:=fun k=>by
  have h1:=foldl_putI_len (ys.take k) (mrgI xs)
  have h2:=mrgI_len xs
  simp at h1
  omega
 clear q0 b0
 go_enter Tryz.func82,Tryz.ntmps82
 go_wp2_with fail
 go_loopw [5,6] (fun so si wr=>∃ k:Nat,k≤n∧si=.int .i64 k∧R wr so ((xs.take k).foldl putI [])) (fun _ si _=>n - (Go.RowKit.intOf si).toNat)
 case atStart=>exact ⟨0,by omega,rfl,hR0⟩
 case round =>
  obtain ⟨k,hk,rfl,hr⟩:=hrel
  obtain ⟨⟨g,c,hv,q⟩,hb⟩:=(hR _ _ _).1 hr
  subst hv
  by_cases hlt:k<n
  ·have hfo:=fold_take (xs:=xs) (acc:=[]) (k:=k) (by omega)
   obtain ⟨_,_,_,hcase⟩:=h.below hb
   rcases hcase with e0 | ⟨b,off,rfl,hb9,hc⟩
   ·omega
   have d0:=hc k hlt
   have hlz:=hlx k
   generalize xs.getD k 0=x at d0 hfo
   generalize hzs:(xs.take k).foldl putI []=zs at *
   have kP:=l08Put_is g 0 zs.length c zs x wr (ints8 q) (by omega)
   have HFo:Hid ((xs.take (k+1)).foldl putI []=putI zs x):=hfo
   clear hfo hc hb9 hzs
   have hlt':(k:Int)<(n:Int):=by omega
   have hk0:(0:Int)≤(k:Int):=by omega
   have hs9:=hb.size
   go_wp2_with fail
   refine kP.mono ?_
   rintro e w1 ⟨⟨v1,rfl,q1⟩,hb1⟩
   obtain ⟨g1,c1,rfl⟩:=some8 q1 (by
    have hm:=(putI_mem zs x x).2 (.inl rfl)
    exact List.length_pos_of_mem hm)
   have hr1:R w1 (.slice (some ⟨g1,0,none⟩) (putI zs x).length c1) ((xs.take (k+1)).foldl putI []):=by
    rw [HFo.out]
    exact (hR _ _ _).2 ⟨⟨_,_,rfl,lower8 q1 hs9⟩,bel8 hb hb1⟩
   clear q1 hb1 kP
   go_wp2
   go_roundw
   case rel=>exact ⟨k+1,by omega,by go_num,hr1⟩
   case measure=>simp [Go.RowKit.intOf];omega
  ·obtain rfl:k=n:=by omega
   have e9:(xs.take k).foldl putI []=mrgI xs:=by rw [List.take_of_length_le (by omega)];rfl
   rw [e9] at hr q
   clear e9 hlt hR0
   rw [show ((xs.take k).foldl putI []).length=(mrgI xs).length by rw [List.take_of_length_le (by omega)];rfl] at *
   go_wp2_with fail
   go_loopw [5,7] (fun so si wr=>∃ k:Nat,k≤n'∧si=.int .i64 k∧R wr so ((ys.take k).foldl putI (mrgI xs))) (fun _ si _=>n' - (Go.RowKit.intOf si).toNat)
   case atStart=>exact ⟨0,by omega,rfl,hr⟩
   case round =>
    clear hr q hb
    obtain ⟨j,hj,rfl,hr⟩:=hrel
    obtain ⟨⟨g2,c2,hv,q⟩,hb⟩:=(hR _ _ _).1 hr
    subst hv
    by_cases hlt:j<n'
    ·have hfo:=fold_take (xs:=ys) (acc:=mrgI xs) (k:=j) (by omega)
     obtain ⟨_,_,_,hcase⟩:=h'.below hb
     rcases hcase with e0 | ⟨b,off,rfl,hb9,hc⟩
     ·omega
     have d0:=hc j hlt
     have hlz:=hly j
     generalize ys.getD j 0=x at d0 hfo
     generalize hzs:(ys.take j).foldl putI (mrgI xs)=zs at *
     have kP:=l08Put_is g2 0 zs.length c2 zs x wr (ints8 q) (by omega)
     have HFo:Hid ((ys.take (j+1)).foldl putI (mrgI xs)=putI zs x):=hfo
     clear hfo hc hb9 hzs
     have hlt':(j:Int)<(n':Int):=by omega
     have hk0:(0:Int)≤(j:Int):=by omega
     have hs9:=hb.size
     go_wp2_with fail
     refine kP.mono ?_
     rintro e w1 ⟨⟨v1,rfl,q1⟩,hb1⟩
     obtain ⟨g1,c1,rfl⟩:=some8 q1 (by
      have hm:=(putI_mem zs x x).2 (.inl rfl)
      exact List.length_pos_of_mem hm)
     have hr1:R w1 (.slice (some ⟨g1,0,none⟩) (putI zs x).length c1) ((ys.take (j+1)).foldl putI (mrgI xs)):=by
      rw [HFo.out]
      exact (hR _ _ _).2 ⟨⟨_,_,rfl,lower8 q1 hs9⟩,bel8 hb hb1⟩
     clear q1 hb1 kP
     go_wp2
     go_roundw
     case rel=>exact ⟨j+1,by omega,by go_num,hr1⟩
     case measure=>simp [Go.RowKit.intOf];omega
    ·obtain rfl:j=n':=by omega
     have HE:Hid ((ys.take j).foldl putI (mrgI xs)=mrgI (xs++ys)):=by
      rw [Hid,List.take_of_length_le (by omega)]
      unfold mrgI
      rw [List.foldl_append]
     clear hr
     generalize (ys.take j).foldl putI (mrgI xs)=zs at *
     go_wp2
     go_ret
     exact ⟨⟨_,rfl,by rw [← HE.out];exact q⟩,hb⟩


theorem rows_one (w:World) {a:Option Addr} {n c:Nat} {xs:List Int} (h:Ints .i64 w a n c xs):RowsI (w.alloc (.cells #[.slice a n c] 27)) (some ⟨w.heap.size,0,none⟩) 1 1 [xs]:=by
 have b1:Below w.heap.size w (w.alloc (.cells #[.slice a n c] 27)):=by go_grown
 refine ⟨rfl,Nat.le_refl _,by unfold maxLen;omega,[.slice a n c],(AllL.nil _).snoc ⟨_,_,_,rfl,h.below b1⟩,.inr ⟨_,_,rfl,by simp,fun t ht=>?_⟩⟩
 match t,ht with
 | 0,_=>simp [go_sem]
end Go.Proofs.YthmgampabhbpoaaGreatDoor
