/-
  Joined: MgiI, TchI, EntX, EntD, Clone, CopI, MemI.
-/
import Derived.Shelf.SlIterI.Nil
import Derived.Shelf.SortM.Plain
import Derived.Shelf.SortM.SortNone
import Derived.Lib.Strings
import Derived.Lib.Walk
import Derived.Lib.BufferWrite
import Derived.Lib.UnsafeStr
import Derived.Laws.MakeOwn
import Derived.Test.YtbdfbdbpjijcdaaGreatDoorM25
import Derived.Test.YtbdfbdbpjijcdaaGreatDoorM34

namespace Go.Proofs.YtbdfbdbpjijcdaaGreatDoor
set_option maxRecDepth 100000
set_option maxHeartbeats 16000000
open Go.RowKit
set_option linter.unusedVariables false
set_option linter.unusedSimpArgs false

def allIt (xs:List Int):Bool:=xs.all itOk
def wfs (xs:List Int):Prop:=∀ x ∈ xs,(Lit.int .i64 x).wf=true
theorem allIt_drop {xs:List Int} {k:Nat} (h:k<xs.length):allIt (xs.drop k)=(itOk (xs.getD k 0) && allIt (xs.drop (k+1))):=by
 unfold allIt
 rw [List.drop_eq_getElem_cons h,List.all_cons]
 simp [List.getD,List.getElem?_eq_getElem h]
theorem itOk_wf {x:Int} (h:itOk x=true):(Lit.int .i64 x).wf=true:=by
 simp only [itOk,decide_eq_true_eq] at h
 exact fits8 (by omega) (by omega)
theorem fold_take {xs acc:List Int} {k:Nat} (h:k<xs.length):(xs.take (k+1)).foldl putI acc=putI ((xs.take k).foldl putI acc) (xs.getD k 0):=by
 rw [take_snoc8 h,List.foldl_append]
 rfl
theorem l08Merge_is (a:Option Addr) (n cap:Nat) (xs:List Int) (a':Option Addr) (n' cap':Nat) (ys:List Int) (w:World) (h:Ints .i64 w a n cap xs) (h':Ints .i64 w a' n' cap' ys) (hn:n≤100000) (hn':n'≤100000) :
  Calls Tryz.prog 139 #[.slice a n cap,.slice a' n' cap'] w fun e w'=>RowGot e w' w.heap.size (mrgI (xs++ys))∧Below w.heap.size w w':=by
 have hl:=h.1
 have hl':=h'.1
 have q0:=empty8 w 3 1 w.heap.size (Nat.le_refl _)
 have b0:Below w.heap.size w (w.alloc (.cells #[] 3)):=by go_grown
 obtain ⟨R,hR⟩:∃ R:World→Value→List Int→Prop,∀ W v zs,R W v zs↔(∃ g c,v=.slice (some ⟨g,0,none⟩) zs.length c∧W.ownsRow w.heap.size 3 1 v zs.length (zs.map (Value.int .i64)))∧Below w.heap.size w W:=⟨fun W v zs=>(∃ g c,v=.slice (some ⟨g,0,none⟩) zs.length c∧W.ownsRow w.heap.size 3 1 v zs.length (zs.map (Value.int .i64)))∧Below w.heap.size w W,fun _ _ _=>Iff.rfl⟩
 have hR0:R (w.alloc (.cells #[] 3)) (.slice (some ⟨w.heap.size,0,none⟩) 0 0) []:=(hR _ _ _).2 ⟨⟨_,_,rfl,q0⟩,b0⟩
 have hlx:∀ k,((xs.take k).foldl putI []).length≤100000:=fun k=>by
  have:=foldl_putI_len (xs.take k) []
  simp at this
  omega
 have hly:∀ k,((ys.take k).foldl putI (mrgI xs)).length≤200000:=fun k=>by
  have h1:=foldl_putI_len (ys.take k) (mrgI xs)
  have h2:=mrgI_len xs
  simp at h1
  omega
 clear q0 b0
 go_enter Tryz.func139,Tryz.ntmps139
 go_wp2_with fail
 go_loopw [5,6] (fun so si wr=>∃ k:Nat,k≤n∧si=.int .i64 k∧R wr so ((xs.take k).foldl putI [])) (fun _ si _=>n - (Go.RowKit.intOf si).toNat)
 case atStart=>exact ⟨0,by omega,rfl,hR0⟩
 case round =>
  obtain ⟨k,hk,rfl,hr⟩:=hrel
  obtain ⟨⟨g,c,hv,q⟩,hb⟩:=(hR _ _ _).1 hr
  subst hv
  by_cases hlt:k<n
  ·have hfo:=fold_take (xs:=xs) (acc:=[]) (k:=k) (by omega)
   obtain ⟨_,_,_,hcase⟩:=h.below hb
   rcases hcase with e0 | ⟨b,off,rfl,hb9,hc⟩
   ·omega
   have d0:=hc k hlt
   have hlz:=hlx k
   generalize xs.getD k 0=x at d0 hfo
   generalize hzs:(xs.take k).foldl putI []=zs at *
   have kP:=l08Put_is g 0 zs.length c zs x wr (ints8 q) (by omega)
   have HFo:Hid ((xs.take (k+1)).foldl putI []=putI zs x):=hfo
   clear hfo hc hb9 hzs
   have hlt':(k:Int)<(n:Int):=by omega
   have hk0:(0:Int)≤(k:Int):=by omega
   have hs9:=hb.size
   go_wp2_with fail
   refine kP.mono ?_
   rintro e w1 ⟨⟨v1,rfl,q1⟩,hb1⟩
   obtain ⟨g1,c1,rfl⟩:=some8 q1 (by
    have hm:=(putI_mem zs x x).2 (.inl rfl)
    exact List.length_pos_of_mem hm)
   have hr1:R w1 (.slice (some ⟨g1,0,none⟩) (putI zs x).length c1) ((xs.take (k+1)).foldl putI []):=by
    rw [HFo.out]
    exact (hR _ _ _).2 ⟨⟨_,_,rfl,lower8 q1 hs9⟩,bel8 hb hb1⟩
   clear q1 hb1 kP
   go_wp2
   go_roundw
   case rel=>exact ⟨k+1,by omega,by go_num,hr1⟩
   case measure=>simp [Go.RowKit.intOf];omega
  ·obtain rfl:k=n:=by omega
   have e9:(xs.take k).foldl putI []=mrgI xs:=by rw [List.take_of_length_le (by omega)];rfl
   rw [e9] at hr q
   clear e9 hlt hR0
   rw [show ((xs.take k).foldl putI []).length=(mrgI xs).length by rw [List.take_of_length_le (by omega)];rfl] at *
   go_wp2_with fail
   go_loopw [5,7] (fun so si wr=>∃ k:Nat,k≤n'∧si=.int .i64 k∧R wr so ((ys.take k).foldl putI (mrgI xs))) (fun _ si _=>n' - (Go.RowKit.intOf si).toNat)
   case atStart=>exact ⟨0,by omega,rfl,hr⟩
   case round =>
    clear hr q hb
    obtain ⟨j,hj,rfl,hr⟩:=hrel
    obtain ⟨⟨g2,c2,hv,q⟩,hb⟩:=(hR _ _ _).1 hr
    subst hv
    by_cases hlt:j<n'
    ·have hfo:=fold_take (xs:=ys) (acc:=mrgI xs) (k:=j) (by omega)
     obtain ⟨_,_,_,hcase⟩:=h'.below hb
     rcases hcase with e0 | ⟨b,off,rfl,hb9,hc⟩
     ·omega
     have d0:=hc j hlt
     have hlz:=hly j
     generalize ys.getD j 0=x at d0 hfo
     generalize hzs:(ys.take j).foldl putI (mrgI xs)=zs at *
     have kP:=l08Put_is g2 0 zs.length c2 zs x wr (ints8 q) (by omega)
     have HFo:Hid ((ys.take (j+1)).foldl putI (mrgI xs)=putI zs x):=hfo
     clear hfo hc hb9 hzs
     have hlt':(j:Int)<(n':Int):=by omega
     have hk0:(0:Int)≤(j:Int):=by omega
     have hs9:=hb.size
     go_wp2_with fail
     refine kP.mono ?_
     rintro e w1 ⟨⟨v1,rfl,q1⟩,hb1⟩
     obtain ⟨g1,c1,rfl⟩:=some8 q1 (by
      have hm:=(putI_mem zs x x).2 (.inl rfl)
      exact List.length_pos_of_mem hm)
     have hr1:R w1 (.slice (some ⟨g1,0,none⟩) (putI zs x).length c1) ((ys.take (j+1)).foldl putI (mrgI xs)):=by
      rw [HFo.out]
      exact (hR _ _ _).2 ⟨⟨_,_,rfl,lower8 q1 hs9⟩,bel8 hb hb1⟩
     clear q1 hb1 kP
     go_wp2
     go_roundw
     case rel=>exact ⟨j+1,by omega,by go_num,hr1⟩
     case measure=>simp [Go.RowKit.intOf];omega
    ·obtain rfl:j=n':=by omega
     have HE:Hid ((ys.take j).foldl putI (mrgI xs)=mrgI (xs++ys)):=by
      rw [Hid,List.take_of_length_le (by omega)]
      unfold mrgI
      rw [List.foldl_append]
     clear hr
     generalize (ys.take j).foldl putI (mrgI xs)=zs at *
     go_wp2
     go_ret
     exact ⟨⟨_,rfl,by rw [← HE.out];exact q⟩,hb⟩


def tchB (xs ys:List Int):Bool:=xs.any (fun x=>decide (x ∈ ys))


theorem getD9 {es:List E3} {t:Nat} (h:t<es.length):es.getD t e3d=es[t]:=by simp [List.getD,List.getElem?_eq_getElem h]
theorem memOk_iff {es:List E3}:memOk es=true↔(∀ e ∈ es,entOk e=true)∧es.Pairwise (fun a b=>ltS a.1 b.1=true)∧es.length≤2000:=by
 constructor
 ·intro h
  refine ⟨fun e he=>?_,?_,memOk_len h⟩
  ·obtain ⟨t,ht,rfl⟩:=List.getElem_of_mem he
   rw [← getD9 ht]
   exact memOk_ent h ht
  ·rw [List.pairwise_iff_getElem]
   intro i j hi hj hij
   rw [← getD9 hi,← getD9 hj]
   exact memOk_lt h hij hj
 ·rintro ⟨h1,h2,h3⟩
  simp only [memOk,Bool.and_eq_true,decide_eq_true_eq]
  refine ⟨allR_true fun k hk=>?_,h3⟩
  simp only [mStep,Bool.and_eq_true,Bool.or_eq_true,decide_eq_true_eq]
  refine ⟨?_,?_⟩
  ·rw [getD9 hk]
   exact h1 _ (List.getElem_mem _)
  ·by_cases h0:k=0
   ·exact .inl h0
   ·right
    rw [getD9 hk,getD9 (show k - 1<es.length by omega)]
    exact List.pairwise_iff_getElem.1 h2 (k - 1) k (by omega) hk (by omega)
theorem isE_at {es:List E3} (h:memOk es=true) {t:Nat} (ht:t<es.length):plcE es (es.getD t e3d).1=t∧isE es (es.getD t e3d).1=true:=by
 have hp:plcE es (es.getD t e3d).1=t:=plcE_of (fun i hi=>memOk_lt h hi ht) (by omega) (fun _=>ltS_irrefl _)
 refine ⟨hp,?_⟩
 rw [isE,hp,decide_eq_true ht,decide_eq_true rfl]
 rfl
theorem isE_iff {es:List E3} (h:memOk es=true) {k:ByteArray}:isE es k=true↔∃ e ∈ es,e.1=k:=by
 constructor
 ·intro hi
  simp only [isE,Bool.and_eq_true,decide_eq_true_eq] at hi
  refine ⟨es.getD (plcE es k) e3d,?_,hi.2⟩
  rw [getD9 hi.1]
  exact List.getElem_mem _
 ·rintro ⟨e,he,rfl⟩
  obtain ⟨t,ht,rfl⟩:=List.getElem_of_mem he
  rw [← getD9 ht]
  exact (isE_at h ht).2
theorem fndE_at {es:List E3} (h:memOk es=true) {t:Nat} (ht:t<es.length):fndE es (es.getD t e3d).1=es.getD t e3d:=by
 obtain ⟨h1,h2⟩:=isE_at h ht
 rw [fndE,h2,h1]
 rfl
theorem mem_take9 {es:List E3} {n:Nat} {e:E3} (h:e ∈ es.take n):∃ t,t<n∧t<es.length∧e=es.getD t e3d:=by
 obtain ⟨t,ht,rfl⟩:=List.getElem_of_mem h
 rw [List.length_take] at ht
 refine ⟨t,by omega,by omega,?_⟩
 rw [getD9 (by omega)]
 simp
theorem mem_drop9 {es:List E3} {n:Nat} {e:E3} (h:e ∈ es.drop n):∃ t,n≤t∧t<es.length∧e=es.getD t e3d:=by
 obtain ⟨t,ht,rfl⟩:=List.getElem_of_mem h
 rw [List.length_drop] at ht
 refine ⟨n+t,by omega,by omega,?_⟩
 rw [getD9 (by omega)]
 simp
theorem putE_len {es:List E3} {e:E3}:(putE es e).length=if isE es e.1 then es.length else es.length+1:=by
 have h1:=plcE_le es e.1
 unfold putE
 rw [List.length_append,List.length_append,List.length_take,List.length_singleton,List.length_drop]
 cases hc:isE es e.1
 ·simp
  omega
 ·have:plcE es e.1<es.length:=by
   simp only [isE,Bool.and_eq_true,decide_eq_true_eq] at hc
   exact hc.1
  simp
  omega
theorem putE_behind {es:List E3} (h:memOk es=true) {k:ByteArray} {t:Nat} (h1:(if isE es k then plcE es k+1 else plcE es k)≤t) (ht:t<es.length):ltS k (es.getD t e3d).1=true:=by
 cases hc:isE es k
 ·rw [hc] at h1
  simp at h1
  cases hk:ltS k (es.getD t e3d).1
  ·have:=ltS_total (plcE_behind h h1 ht) hk
   have hi:=(isE_iff h (k:=k)).2 ⟨es.getD t e3d,by rw [getD9 ht];exact List.getElem_mem _,this⟩
   rw [hc] at hi
   cases hi
  ·rfl
 ·rw [hc] at h1
  simp at h1
  simp only [isE,Bool.and_eq_true,decide_eq_true_eq] at hc
  have:=memOk_lt h (i:=plcE es k) (j:=t) (by omega) ht
  rw [hc.2] at this
  exact this
theorem putE_ok {es:List E3} {e:E3} (h:memOk es=true) (he:entOk e=true) (hr:isE es e.1=true∨es.length<2000):memOk (putE es e)=true:=by
 have h9:=memOk_iff.1 h
 refine memOk_iff.2 ⟨fun x hx=>?_,?_,?_⟩
 ·unfold putE at hx
  simp only [List.mem_append,List.mem_singleton] at hx
  rcases hx with (hx | rfl) | hx
  ·exact h9.1 x (List.mem_of_mem_take hx)
  ·exact he
  ·exact h9.1 x (List.mem_of_mem_drop hx)
 ·unfold putE
  rw [List.pairwise_append,List.pairwise_append]
  refine ⟨⟨h9.2.1.sublist (List.take_sublist _ _),by simp,?_⟩,h9.2.1.sublist (List.drop_sublist _ _),?_⟩
  ·intro a ha b hb
   simp only [List.mem_singleton] at hb
   subst hb
   obtain ⟨t,h1,h2,rfl⟩:=mem_take9 ha
   exact plcE_ahead h1
  ·intro a ha b hb
   obtain ⟨t,h1,h2,rfl⟩:=mem_drop9 hb
   have hk:=putE_behind h h1 h2
   simp only [List.mem_append,List.mem_singleton] at ha
   rcases ha with ha | rfl
   ·obtain ⟨t',h3,h4,rfl⟩:=mem_take9 ha
    exact ltS_trans (plcE_ahead h3) hk
   ·exact hk
 ·rw [putE_len]
  have:=memOk_len h
  split
  ·exact this
  ·rename_i hn
   rcases hr with hr | hr
   ·exact absurd hr hn
   ·omega
theorem putE_mem {es:List E3} {e:E3}:e ∈ putE es e:=by
 unfold putE
 simp
theorem putE_plc {es:List E3} {e:E3} (h:memOk (putE es e)=true):isE (putE es e) e.1=true∧fndE (putE es e) e.1=e:=by
 have hi:=(isE_iff h (k:=e.1)).2 ⟨e,putE_mem,rfl⟩
 refine ⟨hi,?_⟩
 obtain ⟨t,ht,hte⟩:=List.getElem_of_mem (putE_mem (es:=es) (e:=e))
 have:=fndE_at h ht
 rw [getD9 ht,hte] at this
 exact this

theorem riseI_at {zs:List Int} (h:riseI zs=true):∀ i,i<zs.length→(i:Int)≤zs.getD i 0∧itOk (zs.getD i 0)=true
 | 0,hi=>by
  have:=allR_at h hi
  simp only [iStep,Bool.and_eq_true,Bool.or_eq_true,decide_eq_true_eq] at this
  refine ⟨?_,this.1⟩
  have h1:=this.1
  simp only [itOk,decide_eq_true_eq] at h1
  omega
 | i+1,hi=>by
  have h0:=riseI_at h i (by omega)
  have:=allR_at h hi
  simp only [iStep,Bool.and_eq_true,Bool.or_eq_true,decide_eq_true_eq] at this
  refine ⟨?_,this.1⟩
  rcases this.2 with h1 | h1
  ·omega
  ·rw [Nat.add_sub_cancel] at h1
   omega
theorem riseI_len {zs:List Int} (h:riseI zs=true):zs.length≤23:=by
 by_cases h0:zs.length=0
 ·omega
 ·obtain ⟨h1,h2⟩:=riseI_at h (zs.length - 1) (by omega)
  simp only [itOk,decide_eq_true_eq] at h2
  omega
theorem entOk_bugs {e:E3} (h:entOk e=true):e.2.1.length≤30:=by
 simp only [entOk,Bool.and_eq_true,decide_eq_true_eq] at h
 exact h.2.2.2
theorem entOk_foot {e:E3} (h:entOk e=true):e.2.2.length≤23:=by
 simp only [entOk,Bool.and_eq_true,decide_eq_true_eq] at h
 exact riseI_len h.2.2.1
theorem entOk_key {e:E3} (h:entOk e=true):e.1.size=15:=by
 simp only [entOk,keyOk9,Bool.and_eq_true,decide_eq_true_eq] at h
 exact h.1.1
def keepE (es:List E3) (ch:List Int):List E3:=es.filter fun e=>!tchB e.2.2 ch


theorem rise_of9 {xs:List I3} (h1:∀ x ∈ xs,okB x=true) (h2:Rises xs):riseB xs=true:=by
 refine allR_true fun k hk=>?_
 have g:∀ i (hi:i<xs.length),xs.getD i (0,0,0)=xs[i]:=fun i hi=>by simp [List.getD,List.getElem?_eq_getElem hi]
 simp only [bStep,Bool.and_eq_true,Bool.or_eq_true,decide_eq_true_eq]
 refine ⟨by rw [g k hk];exact h1 _ (List.getElem_mem _),?_⟩
 by_cases h0:k=0
 ·exact .inl h0
 ·right
  rw [g k hk,g (k - 1) (by omega)]
  exact List.pairwise_iff_getElem.1 h2 (k - 1) k (by omega) hk (by omega)
theorem riseI_of9 {xs:List Int} (h1:∀ x ∈ xs,itOk x=true) (h2:xs.Pairwise (· < ·)):riseI xs=true:=by
 refine allR_true fun k hk=>?_
 have g:∀ i (hi:i<xs.length),xs.getD i 0=xs[i]:=fun i hi=>by simp [List.getD,List.getElem?_eq_getElem hi]
 simp only [iStep,Bool.and_eq_true,Bool.or_eq_true,decide_eq_true_eq]
 refine ⟨by rw [g k hk];exact h1 _ (List.getElem_mem _),?_⟩
 by_cases h0:k=0
 ·exact .inl h0
 ·right
  rw [g k hk,g (k - 1) (by omega)]
  exact List.pairwise_iff_getElem.1 h2 (k - 1) k (by omega) hk (by omega)
theorem entOk_of9 {m:V4} {bs:List I3} {zs:List Int} (h:shapeOk m=true) (hb:∀ x ∈ bs,okB x=true) (hl:bs.length≤5) (hz:∀ x ∈ zs,itOk x=true):entOk (keyT m,mergeB bs [],mrgI (zs++[]))=true:=by
 have h1:keyOk9 (keyT m)=true:=by unfold keyOk9;rw [decide_eq_true (keyT_size6 h),key_back6 h,h];rfl
 have h2:riseB (mergeB bs [])=true:=rise_of9 (fun x hx=>by
  rcases mem_mergeB.1 hx with h9 | h9
  ·exact hb x h9
  ·cases h9) (mergeB_rises _ _)
 have h3:riseI (mrgI (zs++[]))=true:=riseI_of9 (fun x hx=>hz x (by simpa using (mrgI_mem _ x).1 hx)) (mrgI_rises _)
 have h4:(mergeB bs []).length≤30:=by have:=mergeB_len bs [];simp at this;omega
 simp only [entOk,h1,h2,h3,decide_eq_true h4]
 rfl
theorem OwnProg.went9 {p:Nat} {w w':World} {B:Nat} {v:Value} {rows:List (List I3)} (h:OwnProg w B v rows) (hw:Went p w w') (hp:p<B):OwnProg w' B v rows:=by
 obtain ⟨vs,h1,h2,h3,h4⟩:=h
 exact ⟨vs,owns_wn h1 hw hp,h2,fun t ht=>owns_wn (h3 t ht) hw hp,h4⟩
def EntDr (x:Ending) (w':World) (B:Nat):Prop:=∃ (e:E3) (s:Sl2),entOk e=true∧e.fits∧x=.returned (entV e.1 s)∧OwnE w' B (.slice s.1.1 s.1.2.1 s.1.2.2) (.slice s.2.1 s.2.2.1 s.2.2.2) e
theorem EntDr.mk9 {w':World} {B:Nat} {e:E3} {s:Sl2} (h1:entOk e=true) (h2:e.fits) (h3:OwnE w' B (.slice s.1.1 s.1.2.1 s.1.2.2) (.slice s.2.1 s.2.2.1 s.2.2.2) e):EntDr (.returned (entV e.1 s)) w' B:=⟨e,s,h1,h2,rfl,h3⟩

theorem entry_any (p T:Nat) (a:Option Addr) (n cap:Nat) (w:World) (hS:Src w p (.slice a n cap) T) (hC:Code w p a n cap) (hT:T≤500000) :
  Calls Tryz.prog 71 #[.pointer (some ⟨p,0,none⟩)] w fun e w'=>EntDr e w' w.heap.size∧Src w' p (.slice a n cap) (T+600)∧Went p w w':=by
 have hpw:p<w.heap.size:=hS.lt
 have hW:Went p w (w.alloc (.cells #[.string ⟨#[]⟩,.slice none 0 0,.slice none 0 0] 45)):=(Went.refl p w).alloc _
 have pR:Blk (w.alloc (.cells #[.string ⟨#[]⟩,.slice none 0 0,.slice none 0 0] 45)) w.heap.size 45 [.string ⟨#[]⟩,.slice none 0 0,.slice none 0 0]:=blkAt _ _ _ rfl
 have hS1:=hS.alloc (.cells #[.string ⟨#[]⟩,.slice none 0 0,.slice none 0 0] 45)
 have hC1:=hC.went hW (Nat.le_of_lt hpw)
 have hsz:(w.alloc (.cells #[.string ⟨#[]⟩,.slice none 0 0,.slice none 0 0] 45)).heap.size=w.heap.size+1:=by simp
 have hne:w.heap.size≠p:=by omega
 go_enter Tryz.func71,Tryz.ntmps71
 go_wp2_with fail
 generalize (w.alloc (.cells #[.string ⟨#[]⟩,.slice none 0 0,.slice none 0 0] 45))=W1 at *
 refine (program_go p T a n cap W1 hS1 hC1 (by omega)).mono ?_
 rintro x w2 ⟨⟨v,rows,hok,rfl,hP⟩,hS2,hWn⟩
 have hp3:=(progOk_parts hok).1
 obtain ⟨aP,capP,rfl⟩:=hP.slice
 have hfit:∀ r ∈ rows,∀ x ∈ r,I3.fits x:=fun r hr x hx=>okI_fits (((progOk_parts hok).2 r hr).2 x hx)
 replace hW:=hW.trans hWn
 replace pR:=pR.went hWn hne
 replace hC1:=hC1.went hWn (by omega)
 rw [hsz] at hP
 have hs2:w.heap.size+1≤w2.heap.size:=by have:=hWn.size;omega
 clear hWn hS1 hsz
 rw [hp3] at hP ⊢
 have bB:Below w2.heap.size w2 (w2.alloc (.cells #[.slice aP 3 capP] 25)):=by go_grown
 have pP:Blk (w2.alloc (.cells #[.slice aP 3 capP] 25)) w2.heap.size 25 [.slice aP 3 capP]:=blkAt _ _ _ rfl
 replace hW:=hW.trans (Went.of_below bB)
 replace pR:=pR.below bB
 replace hC1:=hC1.went (Went.of_below bB) (by omega)
 replace hS2:=hS2.belowD bB
 replace hP:=hP.below bB
 have hs3:w.heap.size+1≤(w2.alloc (.cells #[.slice aP 3 capP] 25)).heap.size:=by have:=bB.size;omega
 have y0:=pP.cell 0
 simp only [List.getElem?_cons_zero] at y0
 clear bB
 have kV:=vm_go p (T+300) a n cap aP capP rows _ hS2 hC1 (by omega) hok (fun W hW9=>(hP.went9 hW9 (by omega)).codes hfit)
 go_wp2_with fail
 generalize (w2.alloc (.cells #[.slice aP 3 capP] 25))=W3 at *
 refine kV.mono ?_
 rintro x w4 ⟨⟨t,m,rfl,hO,hm⟩,hS4,hWn⟩
 replace hW:=hW.trans hWn
 replace pR:=pR.went hWn hne
 replace hC1:=hC1.went hWn (by omega)
 have hs4:w.heap.size+1≤w4.heap.size:=by have:=hWn.size;omega
 have kK:=l03Key_is t m w4 (hO.mem (shape_fits9 hm).1) hm
 clear hWn kV hP pP y0 hS2 hO hs3
 obtain ⟨⟨b0,m0,q0⟩,⟨b1,m1,q1⟩,⟨b2,m2,q2⟩,⟨b3,m3,q3⟩⟩:=t
 have uA:S4.val ((b0,m0,q0),(b1,m1,q1),(b2,m2,q2),(b3,m3,q3))=.agg #[.slice b0 m0 q0,.slice b1 m1 q1,.slice b2 m2 q2,.slice b3 m3 q3]:=rfl
 rw [uA] at kK ⊢
 clear uA
 go_wp2_with fail
 refine kK.mono ?_
 rintro x w5 ⟨rfl,hb⟩
 replace hW:=hW.trans (Went.of_below hb)
 replace pR:=pR.below hb
 replace hC1:=hC1.went (Went.of_below hb) (by omega)
 replace hS4:=hS4.belowD hb
 have hs5:w.heap.size+1≤w5.heap.size:=by have:=hb.size;omega
 clear hb kK hs4
 have HK:Hid (keyT m=keyT m):=rfl
 obtain ⟨ky,hky⟩:∃ ky,ky=keyT m:=⟨_,rfl⟩
 rw [← hky]
 have HKY:Hid (ky=keyT m):=hky
 clear hky
 go_wp2_with fail
 refine (bugs_any p (T+300+40) a n cap w5 hS4 hC1 (by omega)).mono ?_
 rintro x w6 ⟨⟨vb,bs,hbl,hbo,rfl,qb⟩,hS6,hWn⟩
 replace hW:=hW.trans hWn
 replace pR:=pR.went hWn hne
 replace hC1:=hC1.went hWn (by omega)
 have hs6:w.heap.size+1≤w6.heap.size:=by have:=hWn.size;omega
 obtain ⟨ba,bc,rfl⟩:=slice8 qb
 have hIb:=(Instrs.of_ownB9 qb (fun x hx=>okB_fits (hbo x hx)))
 obtain ⟨ba',bc',hve,hIb⟩:=hIb
 injection hve with e1 e2 e3
 subst e1 e3
 clear hWn hS4 qb hs5
 have bE:Below w6.heap.size w6 (w6.alloc (.cells #[] 158)):=by go_grown
 replace hW:=hW.trans (Went.of_below bE)
 replace pR:=pR.below bE
 replace hC1:=hC1.went (Went.of_below bE) (by omega)
 replace hS6:=hS6.belowD bE
 have hIe:Instrs (w6.alloc (.cells #[] 158)) (some ⟨w6.heap.size,0,none⟩) 0 0 []:=⟨rfl,Nat.le_refl _,by unfold maxLen;omega,by simp,.inl rfl⟩
 have kM:=l04Merge_is _ _ _ bs _ _ _ [] _ (hIb.below bE) hIe (by omega) (by omega)
 have hs7:w.heap.size+1≤(w6.alloc (.cells #[] 158)).heap.size:=by have:=bE.size;omega
 clear bE hIb hIe hs6
 go_wp2_with fail
 generalize (w6.alloc (.cells #[] 158))=W7 at *
 refine kM.mono ?_
 rintro x w8 ⟨⟨vm,rfl,qm⟩,hb⟩
 replace hW:=hW.trans (Went.of_below hb)
 replace pR:=pR.below hb
 replace hC1:=hC1.went (Went.of_below hb) (by omega)
 replace hS6:=hS6.belowD hb
 replace qm:=lower8 qm hs7
 have hs8:w.heap.size+1≤w8.heap.size:=by have:=hb.size;omega
 clear hb kM hs7
 obtain ⟨ma,mc,rfl⟩:=slice8 qm
 obtain ⟨mb,hmb⟩:∃ mb,mb=mergeB bs []:=⟨_,rfl⟩
 rw [← hmb] at qm ⊢
 have HMB:Hid (mb=mergeB bs []):=hmb
 clear hmb
 go_wp2_with fail
 refine (items_any p (T+300+40+100) a n cap w8 hS6 hC1 (by omega)).mono ?_
 rintro x w9 ⟨⟨vi,zs,hzl,hzo,rfl,qi⟩,hS9,hWn⟩
 replace hW:=hW.trans hWn
 replace pR:=pR.went hWn hne
 replace qm:=owns_wn qm hWn (by omega)
 have hs9:w.heap.size+1≤w9.heap.size:=by have:=hWn.size;omega
 obtain ⟨ia,ic,rfl⟩:=slice8 qi
 have hIi:=ints8 qi
 clear hWn hS6 qi hs8
 have bE:Below w9.heap.size w9 (w9.alloc (.cells #[] 3)):=by go_grown
 replace hW:=hW.trans (Went.of_below bE)
 replace pR:=pR.below bE
 replace hS9:=hS9.belowD bE
 replace qm:=owns8 qm bE
 have hIe:Ints .i64 (w9.alloc (.cells #[] 3)) (some ⟨w9.heap.size,0,none⟩) 0 0 []:=⟨rfl,Nat.le_refl _,by unfold maxLen;omega,.inl rfl⟩
 have kM:=l08Merge_is _ _ _ zs _ _ _ [] _ (hIi.below bE) hIe (by omega) (by omega)
 have hs7:w.heap.size+1≤(w9.alloc (.cells #[] 3)).heap.size:=by have:=bE.size;omega
 clear bE hIi hIe hs9
 go_wp2_with fail
 generalize (w9.alloc (.cells #[] 3))=WA at *
 refine kM.mono ?_
 rintro x wb ⟨⟨vz,rfl,qz⟩,hb⟩
 replace hW:=hW.trans (Went.of_below hb)
 replace pR:=pR.below hb
 replace hS9:=hS9.belowD hb
 replace qm:=owns8 qm hb
 replace qz:=lower8 qz hs7
 clear hb kM hs7
 obtain ⟨za,zc,rfl⟩:=slice8 qz
 have hok9:entOk (ky,mb,mrgI (zs++[]))=true:=by rw [HKY.out,HMB.out];exact entOk_of9 hm hbo hbl hzo
 have hf9:E3.fits (ky,mb,mrgI (zs++[])):=by
  have h9:=entOk_key hok9
  have hp9:=hok9
  simp only [entOk,Bool.and_eq_true,decide_eq_true_eq] at hp9
  refine ⟨?_,fun x hx=>?_,fun z hz=>?_⟩
  ·show ky.size≤maxLen
   have:ky.size=15:=h9
   unfold maxLen;omega
  ·have hx2:x ∈ mb:=hx
   rw [HMB.out] at hx2
   rcases mem_mergeB.1 hx2 with h8 | h8
   ·exact okB_fits (hbo x h8)
   ·cases h8
  ·exact itOk_wf (hzo z (by simpa using (mrgI_mem _ z).1 hz))
 generalize mrgI (zs++[])=mz at *
 have r0:=pR.cell 0
 have r1:=pR.cell 1
 have r2:=pR.cell 2
 have fr0:=pR.frozen 0
 have fr1:=pR.frozen 1
 have fr2:=pR.frozen 2
 have pZ:=((pR.set 0 (.string ky)).set 1 (.slice ma mb.length mc)).set 2 (.slice za mz.length zc)
 simp only [List.set_cons_zero,List.set_cons_succ] at pZ
 have z0:=pZ.cell 0
 have z1:=pZ.cell 1
 have z2:=pZ.cell 2
 simp only [List.getElem?_cons_zero,List.getElem?_cons_succ] at z0 z1 z2 r0 r1 r2
 have g1:=grownBy_set wb w.heap.size 0 (.string ky)
 have g2:=grownBy_set (wb.setCell ⟨w.heap.size,0,none⟩ (.string ky)) w.heap.size 1 (.slice ma mb.length mc)
 have g3:=grownBy_set ((wb.setCell ⟨w.heap.size,0,none⟩ (.string ky)).setCell ⟨w.heap.size,1,none⟩ (.slice ma mb.length mc)) w.heap.size 2 (.slice za mz.length zc)
 have hr:∀ k,some w.heap.size=some k→w.heap.size≤k:=fun k e=>by cases e;exact Nat.le_refl _
 have hr2:∀ k,some w.heap.size=some k→k≠p:=fun k e=>by cases e;exact hne
 replace hW:=((hW.grown g1 hr).grown g2 hr).grown g3 hr
 replace hS9:=(((hS9.grown g1 hr2).grown g2 hr2).grown g3 hr2).mono (show T+300+40+100+100≤T+600 by omega)
 have hlt9:w.heap.size<w.heap.size+1:=by omega
 have hO9:OwnE (((wb.setCell ⟨w.heap.size,0,none⟩ (.string ky)).setCell ⟨w.heap.size,1,none⟩ (.slice ma mb.length mc)).setCell ⟨w.heap.size,2,none⟩ (.slice za mz.length zc)) w.heap.size (.slice ma mb.length mc) (.slice za mz.length zc) (ky,mb,mz):=
  ((((show OwnE wb (w.heap.size+1) (.slice ma mb.length mc) (.slice za mz.length zc) (ky,mb,mz) from ⟨qm,qz⟩).low (p:=⟨w.heap.size,0,none⟩) hlt9 (.string ky)).low (p:=⟨w.heap.size,1,none⟩) hlt9 (.slice ma mb.length mc)).low (p:=⟨w.heap.size,2,none⟩) hlt9 (.slice za mz.length zc)).lower (by omega)
 clear pZ pR g1 g2 g3 hr hr2 qm qz HK HKY HMB hC1
 generalize mb.length=lb at *
 generalize mz.length=lz at *
 go_wp2
 refine bodyPost_ret (by simp [results,Tryz.results71,go_sem,z0,z1,z2];try rfl) rfl ?_
 exact ⟨EntDr.mk9 (e:=(ky,mb,mz)) (s:=((ma,lb,mc),(za,lz,zc))) hok9 hf9 hO9,hS9,hW⟩


theorem clone_info:(Tryz.prog.info? 5).map (fun i=>(i.zero,i.size,i.bytes))=some (some (.int .u8 0),1,1):=by kernel_rfl

theorem stringslite_Clone (s:ByteArray) (w:World) (hlim:s.size≤281474976710656) :
  Calls Tryz.prog 206 #[.string s] w fun e w'=>e=.returned (.string s)∧Below w.heap.size w w':=by
 by_cases h0:s.size=0
 ·have hs:s=⟨#[]⟩:=by
   apply ByteArray.ext
   exact Array.eq_empty_of_size_eq_zero h0
  subst hs
  go_enter Tryz.func206,Tryz.ntmps206
  go_wp2
  go_ret
  exact ⟨rfl,Below.refl _ _⟩
 ·obtain ⟨i0,hi,hz0,hz1,hz2⟩:=info_parts clone_info
  have hinfo:(Tryz.prog.info? 5).map (·.size)=some 1:=by rw [hi];simp [hz1]
  have hco:Tryz.prog.cellsOf 5=1:=by simp [Program.cellsOf,hi,hz1]
  obtain ⟨M,hM⟩:∃ M,M=madeCells (Value.int .u8 0).cells (((s.size:Nat):Int).toNat*i0.size):=⟨_,rfl⟩
  have hMs:M.size=s.size:=by rw [hM,size_madeCells,hz1];simp
  have hmk:∀ W:World,(Instr.makeSlice 22 (.int .i64 (s.size:Int)) (.int .i64 (s.size:Int))).run Tryz.prog W=.ok (.slice (some ⟨W.heap.size,0,none⟩) s.size s.size) (W.alloc (.cells M 5)):=fun W=>by
   have h:=run_make (P:=Tryz.prog) W 22 5 i0 (.int .u8 0) Tryz.underlying22 hi hz0 .i64 .i64 (s.size:Int) (s.size:Int) (by omega) (by omega) (by rw [hz2];omega) (by omega)
   rw [← hM] at h
   simpa using h
  clear hM
  have hcp:=Lib.run_copy_row_string (P:=Tryz.prog) (w.alloc (.cells M 5)) 22 9 3 5 w.heap.size 0 s.size s.size s M 5 Tryz.underlying22 hinfo (heap_alloc_new w _) (Nat.le_refl _) (by omega)
  obtain ⟨Y,hY⟩:∃ Y,Y=(M.toList.take 0++Lib.byteCells s.data.toList++M.toList.drop (0+s.size)).toArray:=⟨_,rfl⟩
  rw [← hY] at hcp
  have hYl:Y.toList=Lib.byteCells s.data.toList:=by
   rw [hY,List.toList_toArray,List.take_zero,List.nil_append,List.drop_of_length_le (by rw [Array.length_toList];omega),List.append_nil]
  have hYs:Y.size=s.size:=by rw [← Array.length_toList,hYl,Lib.byteCells_length,← Lib.size_eq]
  have hgY:((w.alloc (.cells M 5)).setRow w.heap.size Y).heap[w.heap.size]?=some (.cells Y 5 (0,0)):=setRow_heap _ _ M _ 5 (0,0) (heap_alloc_new w _)
  have hne:s.data.toList≠[]:=fun e=>h0 (by rw [Lib.size_eq,e];rfl)
  have hUS:=Lib.run_unsafeString_row (P:=Tryz.prog) ((w.alloc (.cells M 5)).setRow w.heap.size Y) 308 3 9 5 Tryz.underlying308 hco w.heap.size Y.size (by unfold World.shape?;rw [hgY]) s.data.toList hne (by rw [← Lib.size_eq];omega) (by rw [← Lib.size_eq];omega)
   (fun j x hx=>Lib.cells_of_row hgY Y.size j _ (by rw [List.take_of_length_le (by rw [Array.length_toList];exact Nat.le_refl _),hYl];simp [Lib.byteCells,hx]))
  rw [← Lib.size_eq] at hUS
  clear hY
  go_enter Tryz.func206,Tryz.ntmps206
  go_wp2
  go_ret
  have hb1:Below w.heap.size w (w.alloc (.cells M 5)):=(Below.refl _ w).alloc (Nat.le_refl _) _
  have hb2:Below w.heap.size (w.alloc (.cells M 5)) ((w.alloc (.cells M 5)).setRow w.heap.size Y):=⟨rfl,rfl,rfl,by simp,fun k hk=>setRow_other _ _ _ _ (by omega)⟩
  exact ⟨rfl,Lib.below_freeze (hb1.trans hb2) (p:=⟨w.heap.size,0,none⟩) (Nat.le_refl _) _⟩

theorem strings_Clone (s:ByteArray) (w:World) (hlim:s.size≤281474976710656) :
  Calls Tryz.prog 142 #[.string s] w fun e w'=>e=.returned (.string s)∧Below w.heap.size w w':=by
 go_enter Tryz.func142,Tryz.ntmps142
 go_wp2_with (go_at_call 206;refine (stringslite_Clone s _ hlim).mono ?_;rintro e w1 ⟨rfl,hb1⟩)
 go_ret
 exact ⟨rfl,hb1⟩


theorem copied_is (e:E3) (s:Sl2) (w:World) (h:Emem w s e) (h1:e.2.1.length≤1048576) (h2:e.2.2.length≤1048576) (h3:e.1.size≤1048576) :
  Calls Tryz.prog 75 #[entV e.1 s] w fun x w'=>EntGot x w' w.heap.size e∧Below w.heap.size w w':=by
 obtain ⟨i0,hi0,hz00,hz01,hz02⟩:=info_parts info_bug
 obtain ⟨i1,hi1,hz10,hz11,hz12⟩:=info_parts info_int
 obtain ⟨⟨_,z1,z2⟩,hB,hF,_⟩:=h
 have l1:=hB.1
 have l2:=hF.1
 have hb1:=hB.2.1
 have hb2:=hF.2.1
 obtain ⟨ek,eb,ez⟩:=e
 obtain ⟨⟨a1,n1,c1⟩,⟨a2,n2,c2⟩⟩:=s
 unfold entV
 simp only at z1 z2 hB hF l1 l2 h1 h2 h3 hb1 hb2 ⊢
 subst l1
 subst l2
 have no1:=nil_of0 (m:=0) (P:=True) z1 hb1
 have no2:=nil_of0 (m:=0) (P:=True) z2 hb2
 clear z1 z2 hb1 hb2
 have kC:=fun W=>strings_Clone ek W (by omega)
 have bw:Below w.heap.size w ((w.alloc (.cells #[.string ek,.slice a1 eb.length c1,.slice a2 ez.length c2] 45)).alloc (.cells #[.string ⟨#[]⟩,.slice none 0 0,.slice none 0 0] 45)):=by go_grown
 have pX:Blk ((w.alloc (.cells #[.string ek,.slice a1 eb.length c1,.slice a2 ez.length c2] 45)).alloc (.cells #[.string ⟨#[]⟩,.slice none 0 0,.slice none 0 0] 45)) w.heap.size 45 [.string ek,.slice a1 eb.length c1,.slice a2 ez.length c2]:=blkOld _ (blkAt _ _ _ rfl)
 have pR:Blk ((w.alloc (.cells #[.string ek,.slice a1 eb.length c1,.slice a2 ez.length c2] 45)).alloc (.cells #[.string ⟨#[]⟩,.slice none 0 0,.slice none 0 0] 45)) (w.heap.size+1) 45 [.string ⟨#[]⟩,.slice none 0 0,.slice none 0 0]:=blkAt _ _ _ (by simp)
 have x0:=pX.cell 0
 have x1:=pX.cell 1
 have x2:=pX.cell 2
 simp only [List.getElem?_cons_zero,List.getElem?_cons_succ] at x0 x1 x2
 go_enter Tryz.func75,Tryz.ntmps75
 go_wp2_with fail
 generalize ((w.alloc (.cells #[.string ek,.slice a1 eb.length c1,.slice a2 ez.length c2] 45)).alloc (.cells #[.string ⟨#[]⟩,.slice none 0 0,.slice none 0 0] 45))=W at *
 have bd0:Below W.heap.size W W.drew:=by go_grown
 have bd:Below w.heap.size w W.drew:=bel8 bw bd0
 refine wp_region_held_drew (S:=(fun w'=>w'.cell? ⟨w.heap.size,0,none⟩=some (.string ek)∧w'.cell? ⟨w.heap.size,1,none⟩=some (.slice a1 eb.length c1)∧w'.cell? ⟨w.heap.size,2,none⟩=some (.slice a2 ez.length c2))) (by kernel_rfl) ⟨x0,x1,x2⟩ (fun hS0=>?_)
 refine tkx 0 3 (.pointer (some ⟨w.heap.size,0,none⟩)) ?_ ?_
 ·(intro w' hSw;(try dsimp only at hSw);go_simp;first | done | rfl | omega | (intro h9;omega) | (rw [IntKind.wrap_i64];omega))
 simp only [Act.put,tka,tkb,tkc]
 refine tkx 1 4 (.string ek) ?_ ?_
 ·(intro w' hSw;(try dsimp only at hSw);go_simp;first | done | rfl | omega | (intro h9;omega) | (rw [IntKind.wrap_i64];omega))
 simp only [Act.put,tka,tkb,tkc]
 refine tkx 3 6 (.pointer (some ⟨w.heap.size,1,none⟩)) ?_ ?_
 ·(intro w' hSw;(try dsimp only at hSw);go_simp;first | done | rfl | omega | (intro h9;omega) | (rw [IntKind.wrap_i64];omega))
 simp only [Act.put,tka,tkb,tkc]
 refine tkx 4 7 (.slice a1 eb.length c1) ?_ ?_
 ·(intro w' hSw;(try dsimp only at hSw);go_simp;first | done | rfl | omega | (intro h9;omega) | (rw [IntKind.wrap_i64];omega))
 simp only [Act.put,tka,tkb,tkc]
 refine tkx 6 9 (.pointer (some ⟨w.heap.size,2,none⟩)) ?_ ?_
 ·(intro w' hSw;(try dsimp only at hSw);go_simp;first | done | rfl | omega | (intro h9;omega) | (rw [IntKind.wrap_i64];omega))
 simp only [Act.put,tka,tkb,tkc]
 refine tkx 7 10 (.slice a2 ez.length c2) ?_ ?_
 ·(intro w' hSw;(try dsimp only at hSw);go_simp;first | done | rfl | omega | (intro h9;omega) | (rw [IntKind.wrap_i64];omega))
 simp only [Act.put,tka,tkb,tkc]
 refine tkr 2 5 (fun K hK=>?_)
 go_simp
 refine (kC _).mono ?_
 rintro e W1 ⟨rfl,hb1⟩
 go_wp2_with fail
 refine hK.out _ _ ?_ (fun hS1=>?_)
 ·exact ⟨cells_kept hb1 _ _ hS0.1,cells_kept hb1 _ _ hS0.2.1,cells_kept hb1 _ _ hS0.2.2⟩
 clear hK
 replace bw:=bel8 bd hb1
 replace pX:=(pX.below bd0).below hb1
 replace pR:=(pR.below bd0).below hb1
 clear hb1 bd bd0
 refine tkr 5 8 (fun K hK=>?_)
 refine step_app9 rfl _ _ 28 rfl (w.heap.size+2) 158 i0 (.agg #[.int .i64 0,.int .i64 0,.int .i64 0]) 3 24 Tryz.underlying28 hi0 hz00 hz01 hz02 rfl (by decide) (.slice none 0 0) 0 [] rfl (World.ownsRow_nil _ _ _ _) a1 eb.length c1 rfl no1 (flat eb) (by rw [flat_length]) (fun ad ha=>by subst ha;exact newsB9 (hB.below bw)) (flat_one eb) (by unfold maxLen;omega) (by omega) (by have:=pR.lt;omega) ?_
 intro v5 W5 hown hgrow _
 have hbn:Below W1.heap.size W1 W5:=⟨hgrow.os,hgrow.tape,hgrow.output,hgrow.size,fun g hg=>hgrow.block g hg (by simp [Value.ownBlock])⟩
 have q5:W5.ownsRow (w.heap.size+2) 158 3 v5 eb.length (flat eb):=by simpa using hown
 go_simp
 refine hK.out _ _ ?_ (fun hS5=>?_)
 ·exact ⟨cells_kept hbn _ _ hS1.1,cells_kept hbn _ _ hS1.2.1,cells_kept hbn _ _ hS1.2.2⟩
 clear hK
 try simp only [Act.put,tka,tkb,tkc]
 replace bw:=bel8 bw hbn
 replace pX:=pX.below hbn
 replace pR:=pR.below hbn
 skip
 obtain ⟨va5,vc5,rfl⟩:=slice8 q5
 clear hown hgrow hbn
 refine tkr 8 11 (fun K hK=>?_)
 refine step_app9 rfl _ _ 36 rfl (w.heap.size+2) 3 i1 (.int .i64 0) 1 8 Tryz.underlying36 hi1 hz10 hz11 hz12 rfl (by decide) (.slice none 0 0) 0 [] rfl (World.ownsRow_nil _ _ _ _) a2 ez.length c2 rfl no2 (ez.map (Value.int .i64)) (by rw [List.length_map,Nat.mul_one]) (fun ad ha=>by subst ha;exact newsI9 (hF.below bw)) (one8 ez) (by unfold maxLen;omega) (by omega) (by have:=pR.lt;omega) ?_
 intro v8 W8 hown hgrow _
 have hbn:Below W5.heap.size W5 W8:=⟨hgrow.os,hgrow.tape,hgrow.output,hgrow.size,fun g hg=>hgrow.block g hg (by simp [Value.ownBlock])⟩
 have q8:W8.ownsRow (w.heap.size+2) 3 1 v8 ez.length (ez.map (Value.int .i64)):=by simpa using hown
 go_simp
 refine hK.out _ _ ?_ (fun hS8=>?_)
 ·exact ⟨cells_kept hbn _ _ hS5.1,cells_kept hbn _ _ hS5.2.1,cells_kept hbn _ _ hS5.2.2⟩
 clear hK
 try simp only [Act.put,tka,tkb,tkc]
 replace bw:=bel8 bw hbn
 replace pX:=pX.below hbn
 replace pR:=pR.below hbn
 replace q5:=owns8 q5 hbn
 obtain ⟨va8,vc8,rfl⟩:=slice8 q8
 clear hown hgrow hbn
 refine tkx 9 12 (.agg #[.string ek,.slice va5 eb.length vc5,.slice va8 ez.length vc8]) ?_ ?_
 ·(intro w' hSw;(try dsimp only at hSw);go_simp;first | done | rfl | omega | (intro h9;omega) | (rw [IntKind.wrap_i64];omega))
 simp only [Act.put,tka,tkb,tkc]
 have r0:=pR.cell 0
 have r1:=pR.cell 1
 have r2:=pR.cell 2
 have fr0:=pR.frozen 0
 have fr1:=pR.frozen 1
 have fr2:=pR.frozen 2
 simp only [List.getElem?_cons_zero,List.getElem?_cons_succ] at r0 r1 r2
 have pZ:=((pR.set 0 (.string ek)).set 1 (.slice va5 eb.length vc5)).set 2 (.slice va8 ez.length vc8)
 have pX2:=((pX.off ⟨w.heap.size+1,0,none⟩ (.string ek) (by simp)).off ⟨w.heap.size+1,1,none⟩ (.slice va5 eb.length vc5) (by simp)).off ⟨w.heap.size+1,2,none⟩ (.slice va8 ez.length vc8) (by simp)
 simp only [List.set_cons_zero,List.set_cons_succ] at pZ
 have z0:=pZ.cell 0
 have zz1:=pZ.cell 1
 have zz2:=pZ.cell 2
 have m0:=pX2.cell 0
 have m1:=pX2.cell 1
 have m2:=pX2.cell 2
 simp only [List.getElem?_cons_zero,List.getElem?_cons_succ] at z0 zz1 zz2 m0 m1 m2
 have hle:w.heap.size≤w.heap.size+1:=by omega
 have hlt9:w.heap.size+1<w.heap.size+2:=by omega
 have bz:=((bw.setCell (p:=⟨w.heap.size+1,0,none⟩) hle (.string ek)).setCell (p:=⟨w.heap.size+1,1,none⟩) hle (.slice va5 eb.length vc5)).setCell (p:=⟨w.heap.size+1,2,none⟩) hle (.slice va8 ez.length vc8)
 replace q5:=ownsRow_setCell_below (ownsRow_setCell_below (ownsRow_setCell_below q5 (a:=⟨w.heap.size+1,0,none⟩) hlt9 (.string ek)) (a:=⟨w.heap.size+1,1,none⟩) hlt9 (.slice va5 eb.length vc5)) (a:=⟨w.heap.size+1,2,none⟩) hlt9 (.slice va8 ez.length vc8)
 replace q8:=ownsRow_setCell_below (ownsRow_setCell_below (ownsRow_setCell_below q8 (a:=⟨w.heap.size+1,0,none⟩) hlt9 (.string ek)) (a:=⟨w.heap.size+1,1,none⟩) hlt9 (.slice va5 eb.length vc5)) (a:=⟨w.heap.size+1,2,none⟩) hlt9 (.slice va8 ez.length vc8)
 have qB9:=lower8 q5 (show w.heap.size≤w.heap.size+2 by omega)
 have qF9:=lower8 q8 (show w.heap.size≤w.heap.size+2 by omega)
 clear pR pZ pX pX2 bw q5 q8
 refine tkz 10 (fun K hK=>?_)
 go_simp
 refine hK.out _ _ ?_ (fun hS10=>?_)
 ·exact ⟨m0,m1,m2⟩
 clear hK
 try simp only [Act.put,tka,tkb,tkc]
 refine wpAnyH_done (by kernel_rfl) ?_ _
 go_wp2
 refine bodyPost_ret (by simp [results,Tryz.results75,go_sem,z0,zz1,zz2];try rfl) rfl ?_
 exact ⟨EntGot.mk9 (e:=(ek,eb,ez)) ((va5,eb.length,vc5),(va8,ez.length,vc8)) ⟨qB9,qF9⟩,bz⟩


def MemGot (x:Ending) (w':World) (B:Nat) (es:List E3):Prop:=∃ v,x=.returned (.agg #[v])∧OwnM w' B v es
theorem MemGot.mk9 {w':World} {B:Nat} {v:Value} {es:List E3} (h:OwnM w' B v es):MemGot (.returned (.agg #[v])) w' B es:=⟨v,rfl,h⟩
theorem EntGot.lower {x:Ending} {w':World} {B B':Nat} {e:E3} (h:EntGot x w' B e) (hB:B'≤B):EntGot x w' B' e:=by
 obtain ⟨s,h1,h2⟩:=h
 exact ⟨s,h1,h2.lower hB⟩
theorem news_new9 (w:World) (cs:List Value) (t:TypeId):∀ ad,some (⟨w.heap.size,0,none⟩:Addr)=some ad→∀ j u,cs[j]?=some u→(w.alloc (.cells cs.toArray t)).cell? (ad.add j)=some u:=by
 intro ad ha j u hj
 cases ha
 have e:(⟨w.heap.size,0,none⟩:Addr).add j=⟨w.heap.size,0+j,none⟩:=by unfold Addr.add;split<;>simp_all
 rw [e,Nat.zero_add]
 have p:Blk (w.alloc (.cells cs.toArray t)) w.heap.size t cs:=blkAt _ _ _ rfl
 rw [p.cell j]
 exact hj
theorem entC_one (k:ByteArray) (s:Sl2):∀ u ∈ entC k s,u.oneCell'=true:=by
 intro u hu
 simp [entC] at hu
 rcases hu with rfl | rfl | rfl<;>rfl
theorem take_snoc9 {es:List E3} {k:Nat} (h:k<es.length):es.take k++[es.getD k e3d]=es.take (k+1):=by
 rw [List.take_add_one,List.getElem?_eq_getElem h,getD9 h]
 rfl
theorem l10Own_is (a:Option Addr) (n cap:Nat) (es:List E3) (w:World) (h:Ents w a n cap es) (hok:memOk es=true) :
  Calls Tryz.prog 64 #[.agg #[.slice a n cap]] w fun e w'=>MemGot e w' w.heap.size (es)∧Below w.heap.size w w':=by
 obtain ⟨i0,hi0,hz0,hz1,hz2⟩:=info_parts info_entry
 have hl:=h.1
 have hn:n≤2000:=by have:=memOk_len hok;omega
 have bu:Below w.heap.size w ((w.alloc (.cells #[.slice a n cap] 33)).alloc (.cells #[.slice none 0 0] 33)):=by go_grown
 have pM:Blk ((w.alloc (.cells #[.slice a n cap] 33)).alloc (.cells #[.slice none 0 0] 33)) w.heap.size 33 [.slice a n cap]:=blkOld _ (blkAt _ _ _ rfl)
 have pR:Blk ((w.alloc (.cells #[.slice a n cap] 33)).alloc (.cells #[.slice none 0 0] 33)) (w.heap.size+1) 33 [.slice none 0 0]:=blkAt _ _ _ (by simp)
 have g0:=pM.cell 0
 simp only [List.getElem?_cons_zero] at g0
 go_enter Tryz.func64,Tryz.ntmps64
 go_wp2_with fail
 have bE:Below ((w.alloc (.cells #[.slice a n cap] 33)).alloc (.cells #[.slice none 0 0] 33)).heap.size ((w.alloc (.cells #[.slice a n cap] 33)).alloc (.cells #[.slice none 0 0] 33)) (((w.alloc (.cells #[.slice a n cap] 33)).alloc (.cells #[.slice none 0 0] 33)).alloc (.cells #[] 45)):=by go_grown
 have M0:OwnM (((w.alloc (.cells #[.slice a n cap] 33)).alloc (.cells #[.slice none 0 0] 33)).alloc (.cells #[] 45)) (w.heap.size+2) (.slice (some ⟨w.heap.size+1+1,0,none⟩) 0 0) []:=by
  have h9:=empty8 ((w.alloc (.cells #[.slice a n cap] 33)).alloc (.cells #[.slice none 0 0] 33)) 45 3 (w.heap.size+2) (by simp)
  exact ⟨[],by simpa using h9,fun t ht=>by simp at ht,fun t _ ht=>by simp at ht⟩
 have bU:=bel8 bu bE
 have gU:=cell8 bE g0
 have rU:=pR.below bE
 generalize (((w.alloc (.cells #[.slice a n cap] 33)).alloc (.cells #[.slice none 0 0] 33)).alloc (.cells #[] 45))=U at *
 have rUs:w.heap.size+2≤U.heap.size:=by have:=rU.lt;omega
 go_loopw [3,4] (fun so si wr=>∃ (k:Nat) (va:Option Addr) (vn vc:Nat),k≤n∧si=.int .i64 k∧so=.slice va vn vc∧OwnM wr (w.heap.size+2) (.slice va vn vc) (es.take k)∧Below w.heap.size w wr∧wr.cell? ⟨w.heap.size,0,none⟩=some (.slice a n cap)∧Blk wr (w.heap.size+1) 33 [.slice none 0 0]∧w.heap.size+2≤wr.heap.size) (fun _ si _=>n - (intOf si).toNat)
 case atStart=>exact ⟨0,_,_,_,by omega,rfl,rfl,by simpa using M0,bU,gU,rU,rUs⟩
 case round =>
  obtain ⟨k,xa,xn,xc,hk,rfl,rfl,hM,bw,gw,pW,hsW⟩:=hrel
  by_cases hlt:k<n
  ·obtain ⟨_,_,_,hcase⟩:=h.below bw
   rcases hcase with e0 | ⟨b,off,rfl,hb,hc⟩
   ·omega
   obtain ⟨s,x0,x1,x2,hm⟩:=hc k hlt
   clear hc hb
   have hek:=memOk_ent hok (i:=k) (by omega)
   have y1:=entOk_bugs hek
   have y2:=entOk_foot hek
   have y3:=entOk_key hek
   have kE:=fun W (hb:Below wr.heap.size wr W)=>(l10OwnEntry_is (es.getD k e3d) s W (hm.below hb) (by omega) (by omega)).mono (fun x w' h9=>(⟨h9.1.lower hb.size,bel8 hb h9.2⟩:EntGot x w' wr.heap.size (es.getD k e3d)∧Below wr.heap.size wr w'))
   have hsn:=take_snoc9 (es:=es) (k:=k) (by omega)
   clear hm hek y1 y2 y3
   generalize es.getD k e3d=x at *
   generalize hps:es.take k=ps at *
   have hpl:ps.length≤2000:=by rw [← hps];rw [List.length_take];omega
   clear hps
   obtain ⟨xk,xb,xz⟩:=x
   obtain ⟨⟨a1,n1,c1⟩,⟨a2,n2,c2⟩⟩:=s
   unfold entV at kE
   simp only at x0 x1 x2 kE
   have hlt':(k:Int)<(n:Int):=by omega
   have hk0:(0:Int)≤(k:Int):=by omega
   go_wp2_with fail
   refine (kE _ (Below.refl _ _)).mono ?_
   rintro e w1 ⟨⟨⟨⟨d1,p1,q1⟩,⟨d2,p2,q2⟩⟩,rfl,hO⟩,hbn⟩
   obtain ⟨cs,ho,hE⟩:=hM
   have hb2:Below w1.heap.size w1 (w1.alloc (.cells #[.string xk,.slice d1 p1 q1,.slice d2 p2 q2] 45)):=by go_grown
   have ho2:=owns8 (owns8 ho hbn) hb2
   have hs2:w.heap.size+2≤(w1.alloc (.cells #[.string xk,.slice d1 p1 q1,.slice d2 p2 q2] 45)).heap.size:=by have:=hb2.size;have:=hbn.size;omega
   clear x0 x1 x2 kE
   unfold entV
   simp only
   go_wp2_with (at_builtin;refine wpList_app9 rfl _ _ 31 rfl (w.heap.size+2) 45 i0 (.agg #[.string ⟨#[]⟩,.slice none 0 0,.slice none 0 0]) 3 64 Tryz.underlying31 hi0 hz0 hz1 hz2 rfl (by decide) _ _ _ rfl ho2 _ 1 1 rfl (fun h9=>by cases h9) (entC xk ((d1,p1,q1),(d2,p2,q2))) (by simp [entC]) (news_new9 w1 [.string xk,.slice d1 p1 q1,.slice d2 p2 q2] 45) (entC_one _ _) (by unfold maxLen;omega) (by omega) hs2 ?_)
   intro v3 w3 hown hgrow _
   obtain ⟨va9,vc9,rfl⟩:=slice8 hown
   have hM3:=OwnM.snoc9 (s:=((d1,p1,q1),(d2,p2,q2))) ho hE hbn hO hb2 hgrow hown (by omega)
   have hgB:∀ g,(Value.ownBlock (.slice xa xn xc))=some g→w.heap.size+2≤g:=fun g hg=>(ho2.lt g hg).1
   have b3:Below w.heap.size w w3:=(bel8 (bel8 bw hbn) hb2).grown hgrow (by omega) (fun g hg=>by have:=hgB g hg;omega)
   have g3:=(Blk.kept ((pW.below hbn).below hb2) hgrow (fun e9=>by have:=hgB _ e9;omega))
   have c3:w3.cell? ⟨w.heap.size,0,none⟩=some (.slice (some ⟨b,off,none⟩) n cap):=grown8 hgrow (cell8 hb2 (cell8 hbn gw)) (fun e9=>by have:=hgB _ e9.symm;simp at this;omega)
   have s3:w.heap.size+2≤w3.heap.size:=Nat.le_trans hs2 hgrow.size
   skip
   clear ho hE hbn hO hb2 ho2 hs2 hown hgrow hgB
   go_wp2
   go_roundw
   case rel=>exact ⟨k+1,_,_,_,by omega,by go_num,rfl,by rw [← hsn];exact hM3,b3,c3,g3,s3⟩
   case measure=>simp [intOf];omega
  ·obtain rfl:k=n:=by omega
   have e9:es.take k=es:=by rw [List.take_of_length_le (by omega)]
   rw [e9] at hM
   have r0:=pW.cell 0
   have fr0:=pW.frozen 0
   have pZ:=pW.set 0 (.slice xa xn xc)
   simp only [List.set_cons_zero] at pZ
   have z0:=pZ.cell 0
   simp only [List.getElem?_cons_zero] at z0 r0
   have hM9:=(hM.low (p:=⟨w.heap.size+1,0,none⟩) (show w.heap.size+1<w.heap.size+2 by omega) (.slice xa xn xc)).lower (show w.heap.size≤w.heap.size+2 by omega)
   have bz:=bw.setCell (p:=⟨w.heap.size+1,0,none⟩) (show w.heap.size≤w.heap.size+1 by omega) (.slice xa xn xc)
   clear hM pZ pW bw e9
   go_wp2
   refine bodyPost_ret (by simp [results,Tryz.results64,go_sem,z0];try rfl) rfl ?_
   exact ⟨MemGot.mk9 hM9,bz⟩

theorem memoCopied_is (a:Option Addr) (n cap:Nat) (es:List E3) (w:World) (h:Ents w a n cap es) (hok:memOk es=true) :
  Calls Tryz.prog 72 #[.agg #[.slice a n cap]] w fun e w'=>MemGot e w' w.heap.size (es)∧Below w.heap.size w w':=by
 obtain ⟨i0,hi0,hz0,hz1,hz2⟩:=info_parts info_entry
 have hl:=h.1
 have hn:n≤2000:=by have:=memOk_len hok;omega
 have bu:Below w.heap.size w ((w.alloc (.cells #[.slice a n cap] 33)).alloc (.cells #[.slice none 0 0] 33)):=by go_grown
 have pM:Blk ((w.alloc (.cells #[.slice a n cap] 33)).alloc (.cells #[.slice none 0 0] 33)) w.heap.size 33 [.slice a n cap]:=blkOld _ (blkAt _ _ _ rfl)
 have pR:Blk ((w.alloc (.cells #[.slice a n cap] 33)).alloc (.cells #[.slice none 0 0] 33)) (w.heap.size+1) 33 [.slice none 0 0]:=blkAt _ _ _ (by simp)
 have g0:=pM.cell 0
 simp only [List.getElem?_cons_zero] at g0
 go_enter Tryz.func72,Tryz.ntmps72
 go_wp2_with fail
 generalize ((w.alloc (.cells #[.slice a n cap] 33)).alloc (.cells #[.slice none 0 0] 33))=U at *
 have hRU:=pR.lt
 have rUs:w.heap.size+2≤U.heap.size:=by have:=pR.lt;omega
 go_loopw [3,9] (fun so si wr=>∃ (k:Nat) (va:Option Addr) (vn vc:Nat),k≤n∧si=.int .i64 k∧so=.slice va vn vc∧OwnM wr (w.heap.size+2) (.slice va vn vc) (es.take k)∧Below w.heap.size w wr∧wr.cell? ⟨w.heap.size,0,none⟩=some (.slice a n cap)∧Blk wr (w.heap.size+1) 33 [.slice none 0 0]∧w.heap.size+2≤wr.heap.size) (fun _ si _=>n - (intOf si).toNat)
 case atStart=>exact ⟨0,none,0,0,by omega,rfl,rfl,by simpa [keepE] using OwnM.nil9 _ _,bu,g0,pR,rUs⟩
 case round =>
  obtain ⟨k,xa,xn,xc,hk,rfl,rfl,hM,bw,gw,pW,hsW⟩:=hrel
  by_cases hlt:k<n
  ·obtain ⟨_,_,_,hcase⟩:=h.below bw
   rcases hcase with e0 | ⟨b,off,rfl,hb,hc⟩
   ·omega
   obtain ⟨s,x0,x1,x2,hm⟩:=hc k hlt
   clear hc hb
   have hek:=memOk_ent hok (i:=k) (by omega)
   have y1:=entOk_bugs hek
   have y2:=entOk_foot hek
   have y3:=entOk_key hek
   have kE:=fun W (hb:Below wr.heap.size wr W)=>(copied_is (es.getD k e3d) s W (hm.below hb) (by omega) (by omega) (by omega)).mono (fun x w' h9=>(⟨h9.1.lower hb.size,bel8 hb h9.2⟩:EntGot x w' wr.heap.size (es.getD k e3d)∧Below wr.heap.size wr w'))
   have hsn:=take_snoc9 (es:=es) (k:=k) (by omega)
   clear hm hek y1 y2 y3
   generalize es.getD k e3d=x at *
   generalize hps:es.take k=ps at *
   have hpl:ps.length≤2000:=by rw [← hps];rw [List.length_take];omega
   clear hps
   obtain ⟨xk,xb,xz⟩:=x
   obtain ⟨⟨a1,n1,c1⟩,⟨a2,n2,c2⟩⟩:=s
   unfold entV at kE
   simp only at x0 x1 x2 kE
   have hlt':(k:Int)<(n:Int):=by omega
   have hk0:(0:Int)≤(k:Int):=by omega
   go_wp2_with fail
   refine (kE _ (by go_grown)).mono ?_
   rintro e w1 ⟨⟨⟨⟨d1,p1,q1⟩,⟨d2,p2,q2⟩⟩,rfl,hO⟩,hbn⟩
   obtain ⟨cs,ho,hE⟩:=hM
   have hb2:Below w1.heap.size w1 (w1.alloc (.cells #[.string xk,.slice d1 p1 q1,.slice d2 p2 q2] 45)):=by go_grown
   have ho2:=owns8 (owns8 ho hbn) hb2
   have hs2:w.heap.size+2≤(w1.alloc (.cells #[.string xk,.slice d1 p1 q1,.slice d2 p2 q2] 45)).heap.size:=by have:=hb2.size;have:=hbn.size;omega
   clear x0 x1 x2 kE
   unfold entV
   simp only
   go_wp2_with (at_builtin;refine wpList_app9 rfl _ _ 31 rfl (w.heap.size+2) 45 i0 (.agg #[.string ⟨#[]⟩,.slice none 0 0,.slice none 0 0]) 3 64 Tryz.underlying31 hi0 hz0 hz1 hz2 rfl (by decide) _ _ _ rfl ho2 _ 1 1 rfl (fun h9=>by cases h9) (entC xk ((d1,p1,q1),(d2,p2,q2))) (by simp [entC]) (news_new9 w1 [.string xk,.slice d1 p1 q1,.slice d2 p2 q2] 45) (entC_one _ _) (by unfold maxLen;omega) (by omega) hs2 ?_)
   intro v3 w3 hown hgrow _
   obtain ⟨va9,vc9,rfl⟩:=slice8 hown
   have hM3:=OwnM.snoc9 (s:=((d1,p1,q1),(d2,p2,q2))) ho hE hbn hO hb2 hgrow hown (by omega)
   have hgB:∀ g,(Value.ownBlock (.slice xa xn xc))=some g→w.heap.size+2≤g:=fun g hg=>(ho2.lt g hg).1
   have b3:Below w.heap.size w w3:=(bel8 (bel8 bw hbn) hb2).grown hgrow (by omega) (fun g hg=>by have:=hgB g hg;omega)
   have g3:=(Blk.kept ((pW.below hbn).below hb2) hgrow (fun e9=>by have:=hgB _ e9;omega))
   have c3:w3.cell? ⟨w.heap.size,0,none⟩=some (.slice (some ⟨b,off,none⟩) n cap):=grown8 hgrow (cell8 hb2 (cell8 hbn gw)) (fun e9=>by have:=hgB _ e9.symm;simp at this;omega)
   have s3:w.heap.size+2≤w3.heap.size:=Nat.le_trans hs2 hgrow.size
   skip
   clear ho hE hbn hO hb2 ho2 hs2 hown hgrow hgB
   go_wp2
   go_roundw
   case rel=>exact ⟨k+1,_,_,_,by omega,by go_num,rfl,by rw [← hsn];exact hM3,b3,c3,g3,s3⟩
   case measure=>simp [intOf];omega
  ·obtain rfl:k=n:=by omega
   have e9:es.take k=es:=by rw [List.take_of_length_le (by omega)]
   rw [e9] at hM
   have r0:=pW.cell 0
   have fr0:=pW.frozen 0
   have pZ:=pW.set 0 (.slice xa xn xc)
   simp only [List.set_cons_zero] at pZ
   have z0:=pZ.cell 0
   simp only [List.getElem?_cons_zero] at z0 r0
   have hM9:=(hM.low (p:=⟨w.heap.size+1,0,none⟩) (show w.heap.size+1<w.heap.size+2 by omega) (.slice xa xn xc)).lower (show w.heap.size≤w.heap.size+2 by omega)
   have bz:=bw.setCell (p:=⟨w.heap.size+1,0,none⟩) (show w.heap.size≤w.heap.size+1 by omega) (.slice xa xn xc)
   clear hM pZ pW bw e9
   go_wp2
   refine bodyPost_ret (by simp [results,Tryz.results72,go_sem,z0];try rfl) rfl ?_
   exact ⟨MemGot.mk9 hM9,bz⟩
end Go.Proofs.YtbdfbdbpjijcdaaGreatDoor
