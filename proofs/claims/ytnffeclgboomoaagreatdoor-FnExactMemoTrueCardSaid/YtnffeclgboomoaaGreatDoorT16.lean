/-
  Joined: MgiI, EntX, MemI, CmpB.
-/
import Derived.Lib.Strings
import Derived.Lib.Walk
import Derived.Lib.BufferWrite
import Derived.Lib.UnsafeStr
import Derived.Laws.MakeOwn
import Derived.Shelf.SlSortCmp.Insertion
import Derived.Test.YtnffeclgboomoaaGreatDoorT15

namespace Go.Proofs.YtnffeclgboomoaaGreatDoor
set_option maxRecDepth 100000
set_option maxHeartbeats 16000000
open Go.RowKit
set_option linter.unusedVariables false
set_option linter.unusedSimpArgs false

def WA (xs:List Int):Bool:=xs.all Y7
def wfs (xs:List Int):Prop:=∀ x ∈ xs,(Lit.int .i64 x).wf=true
theorem Mw {xs:List Int} {k:Nat} (h:k<xs.length):WA (xs.drop k)=(Y7 (xs.getD k 0) && WA (xs.drop (k+1))):=by
 unfold WA
 rw [List.drop_eq_getElem_cons h,List.all_cons]
 simp [List.getD,List.getElem?_eq_getElem h]
theorem PG {x:Int} (h:Y7 x=true):(Lit.int .i64 x).wf=true:=by
 simp only [Y7,decide_eq_true_eq] at h
 exact Fa (by omega) (by omega)
theorem QG {xs acc:List Int} {k:Nat} (h:k<xs.length):(xs.take (k+1)).foldl Yd acc=Yd ((xs.take k).foldl Yd acc) (xs.getD k 0):=by
 rw [R1 h,List.foldl_append]
 rfl
theorem NF (a:Option Addr) (n cap:Nat) (xs:List Int) (a':Option Addr) (n' cap':Nat) (ys:List Int) (w:World) (h:Z2 .i64 w a n cap xs) (h':Z2 .i64 w a' n' cap' ys) (hn:n≤100000) (hn':n'≤100000) :
  Calls Tryz.prog 173 #[.slice a n cap,.slice a' n' cap'] w fun e w'=>TY e w' w.heap.size (Yh (xs++ys))∧Below w.heap.size w w':=by
 have hl:=h.1
 have hl':=h'.1
 have q0:=WB w 3 1 w.heap.size (Nat.le_refl _)
 have b0:Below w.heap.size w (w.alloc (.cells #[] 3)):=by go_grown
 obtain ⟨R,hR⟩:∃ R:World→Value→List Int→Prop,∀ W v zs,R W v zs↔(∃ g c,v=.slice (some ⟨g,0,none⟩) zs.length c∧W.ownsRow w.heap.size 3 1 v zs.length (zs.map (Value.int .i64)))∧Below w.heap.size w W:=⟨fun W v zs=>(∃ g c,v=.slice (some ⟨g,0,none⟩) zs.length c∧W.ownsRow w.heap.size 3 1 v zs.length (zs.map (Value.int .i64)))∧Below w.heap.size w W,fun _ _ _=>Iff.rfl⟩
 have hR0:R (w.alloc (.cells #[] 3)) (.slice (some ⟨w.heap.size,0,none⟩) 0 0) []:=(hR _ _ _).2 ⟨⟨_,_,rfl,q0⟩,b0⟩
 have hlx:∀ k,((xs.take k).foldl Yd []).length≤100000:=fun k=>by
  have:=XB (xs.take k) []
  simp at this
  omega
 have hly:∀ k,((ys.take k).foldl Yd (Yh xs)).length≤200000:=fun k=>by
  have h1:=XB (ys.take k) (Yh xs)
  have h2:=Ht xs
  simp at h1
  omega
 clear q0 b0
 go_enter Tryz.func173,Tryz.ntmps173
 go_wp2_with fail
 go_loopw [5,6] (fun so si wr=>∃ k:Nat,k≤n∧si=.int .i64 k∧R wr so ((xs.take k).foldl Yd [])) (fun _ si _=>n - (Go.RowKit.intOf si).toNat)
 case atStart=>exact ⟨0,by omega,rfl,hR0⟩
 case round =>
  obtain ⟨k,hk,rfl,hr⟩:=hrel
  obtain ⟨⟨g,c,hv,q⟩,hb⟩:=(hR _ _ _).1 hr
  subst hv
  by_cases hlt:k<n
  ·have hfo:=QG (xs:=xs) (acc:=[]) (k:=k) (by omega)
   obtain ⟨_,_,_,hcase⟩:=h.below hb
   rcases hcase with e0 | ⟨b,off,rfl,hb9,hc⟩
   ·omega
   have d0:=hc k hlt
   have hlz:=hlx k
   generalize xs.getD k 0=x at d0 hfo
   generalize hzs:(xs.take k).foldl Yd []=zs at *
   have kP:=QL g 0 zs.length c zs x wr (QI q) (by omega)
   have HFo:Hid ((xs.take (k+1)).foldl Yd []=Yd zs x):=hfo
   clear hfo hc hb9 hzs
   have hlt':(k:Int)<(n:Int):=by omega
   have hk0:(0:Int)≤(k:Int):=by omega
   have hs9:=hb.size
   go_wp2_with fail
   refine kP.mono ?_
   rintro e w1 ⟨⟨v1,rfl,q1⟩,hb1⟩
   obtain ⟨g1,c1,rfl⟩:=Uj q1 (by
    have hm:=(Vl zs x x).2 (.inl rfl)
    exact List.length_pos_of_mem hm)
   have hr1:R w1 (.slice (some ⟨g1,0,none⟩) (Yd zs x).length c1) ((xs.take (k+1)).foldl Yd []):=by
    rw [HFo.out]
    exact (hR _ _ _).2 ⟨⟨_,_,rfl,Yl q1 hs9⟩,Zh hb hb1⟩
   clear q1 hb1 kP
   go_wp2
   go_roundw
   case rel=>exact ⟨k+1,by omega,by go_num,hr1⟩
   case measure=>simp [Go.RowKit.intOf];omega
  obtain rfl:k=n:=by omega
  have e9:(xs.take k).foldl Yd []=Yh xs:=by rw [List.take_of_length_le (by omega)];rfl
  rw [e9] at hr q
  clear e9 hlt hR0
  rw [show ((xs.take k).foldl Yd []).length=(Yh xs).length by rw [List.take_of_length_le (by omega)];rfl] at *
  go_wp2_with fail
  go_loopw [5,7] (fun so si wr=>∃ k:Nat,k≤n'∧si=.int .i64 k∧R wr so ((ys.take k).foldl Yd (Yh xs))) (fun _ si _=>n' - (Go.RowKit.intOf si).toNat)
  case atStart=>exact ⟨0,by omega,rfl,hr⟩
  case round =>
   clear hr q hb
   obtain ⟨j,hj,rfl,hr⟩:=hrel
   obtain ⟨⟨g2,c2,hv,q⟩,hb⟩:=(hR _ _ _).1 hr
   subst hv
   by_cases hlt:j<n'
   ·have hfo:=QG (xs:=ys) (acc:=Yh xs) (k:=j) (by omega)
    obtain ⟨_,_,_,hcase⟩:=h'.below hb
    rcases hcase with e0 | ⟨b,off,rfl,hb9,hc⟩
    ·omega
    have d0:=hc j hlt
    have hlz:=hly j
    generalize ys.getD j 0=x at d0 hfo
    generalize hzs:(ys.take j).foldl Yd (Yh xs)=zs at *
    have kP:=QL g2 0 zs.length c2 zs x wr (QI q) (by omega)
    have HFo:Hid ((ys.take (j+1)).foldl Yd (Yh xs)=Yd zs x):=hfo
    clear hfo hc hb9 hzs
    have hlt':(j:Int)<(n':Int):=by omega
    have hk0:(0:Int)≤(j:Int):=by omega
    have hs9:=hb.size
    go_wp2_with fail
    refine kP.mono ?_
    rintro e w1 ⟨⟨v1,rfl,q1⟩,hb1⟩
    obtain ⟨g1,c1,rfl⟩:=Uj q1 (by
     have hm:=(Vl zs x x).2 (.inl rfl)
     exact List.length_pos_of_mem hm)
    have hr1:R w1 (.slice (some ⟨g1,0,none⟩) (Yd zs x).length c1) ((ys.take (j+1)).foldl Yd (Yh xs)):=by
     rw [HFo.out]
     exact (hR _ _ _).2 ⟨⟨_,_,rfl,Yl q1 hs9⟩,Zh hb hb1⟩
    clear q1 hb1 kP
    go_wp2
    go_roundw
    case rel=>exact ⟨j+1,by omega,by go_num,hr1⟩
    case measure=>simp [Go.RowKit.intOf];omega
   obtain rfl:j=n':=by omega
   have HE:Hid ((ys.take j).foldl Yd (Yh xs)=Yh (xs++ys)):=by
    rw [Hid,List.take_of_length_le (by omega)]
    unfold Yh
    rw [List.foldl_append]
   clear hr
   generalize (ys.take j).foldl Yd (Yh xs)=zs at *
   go_wp2
   go_ret
   exact ⟨⟨_,rfl,by rw [← HE.out];exact q⟩,hb⟩


theorem Y0 {es:List E3} {t:Nat} (h:t<es.length):es.getD t e3d=es[t]:=by simp [List.getD,List.getElem?_eq_getElem h]
theorem Vf {es:List E3}:Yu es=true↔(∀ e ∈ es,ZS e=true)∧es.Pairwise (fun a b=>ltS a.1 b.1=true)∧es.length≤2000:=by
 constructor
 ·intro h
  refine ⟨fun e he=>?_,?_,Xs h⟩
  ·obtain ⟨t,ht,rfl⟩:=List.getElem_of_mem he
   rw [← Y0 ht]
   exact QS h ht
  rw [List.pairwise_iff_getElem]
  intro i j hi hj hij
  rw [← Y0 hi,← Y0 hj]
  exact Ua h hij hj
 rintro ⟨h1,h2,h3⟩
 simp only [Yu,Bool.and_eq_true,decide_eq_true_eq]
 refine ⟨Xg fun k hk=>?_,h3⟩
 simp only [VB,Bool.and_eq_true,Bool.or_eq_true,decide_eq_true_eq]
 refine ⟨?_,?_⟩
 ·rw [Y0 hk]
  exact h1 _ (List.getElem_mem _)
 by_cases h0:k=0
 ·exact .inl h0
 right
 rw [Y0 hk,Y0 (show k - 1<es.length by omega)]
 exact List.pairwise_iff_getElem.1 h2 (k - 1) k (by omega) hk (by omega)
theorem Fv {es:List E3} (h:Yu es=true) {t:Nat} (ht:t<es.length):ZY es (es.getD t e3d).1=t∧isE es (es.getD t e3d).1=true:=by
 have hp:ZY es (es.getD t e3d).1=t:=S6 (fun i hi=>Ua h hi ht) (by omega) (fun _=>WF _)
 refine ⟨hp,?_⟩
 rw [isE,hp,decide_eq_true ht,decide_eq_true rfl]
 rfl
theorem SZ {es:List E3} (h:Yu es=true) {k:ByteArray}:isE es k=true↔∃ e ∈ es,e.1=k:=by
 constructor
 ·intro hi
  simp only [isE,Bool.and_eq_true,decide_eq_true_eq] at hi
  refine ⟨es.getD (ZY es k) e3d,?_,hi.2⟩
  rw [Y0 hi.1]
  exact List.getElem_mem _
 rintro ⟨e,he,rfl⟩
 obtain ⟨t,ht,rfl⟩:=List.getElem_of_mem he
 rw [← Y0 ht]
 exact (Fv h ht).2
theorem Vg {es:List E3} {n:Nat} {e:E3} (h:e ∈ es.take n):∃ t,t<n∧t<es.length∧e=es.getD t e3d:=by
 obtain ⟨t,ht,rfl⟩:=List.getElem_of_mem h
 rw [List.length_take] at ht
 refine ⟨t,by omega,by omega,?_⟩
 rw [Y0 (by omega)]
 simp
theorem Sc {es:List E3} {n:Nat} {e:E3} (h:e ∈ es.drop n):∃ t,n≤t∧t<es.length∧e=es.getD t e3d:=by
 obtain ⟨t,ht,rfl⟩:=List.getElem_of_mem h
 rw [List.length_drop] at ht
 refine ⟨n+t,by omega,by omega,?_⟩
 rw [Y0 (by omega)]
 simp
theorem TK {es:List E3} {e:E3}:(Xc es e).length=if isE es e.1 then es.length else es.length+1:=by
 have h1:=PT es e.1
 unfold Xc
 rw [List.length_append,List.length_append,List.length_take,List.length_singleton,List.length_drop]
 cases hc:isE es e.1
 ·simp
  omega
 have:ZY es e.1<es.length:=by
  simp only [isE,Bool.and_eq_true,decide_eq_true_eq] at hc
  exact hc.1
 simp
 omega
theorem NX {es:List E3} (h:Yu es=true) {k:ByteArray} {t:Nat} (h1:(if isE es k then ZY es k+1 else ZY es k)≤t) (ht:t<es.length):ltS k (es.getD t e3d).1=true:=by
 cases hc:isE es k
 ·rw [hc] at h1
  simp at h1
  cases hk:ltS k (es.getD t e3d).1
  ·have:=QQ (NW h h1 ht) hk
   have hi:=(SZ h (k:=k)).2 ⟨es.getD t e3d,by rw [Y0 ht];exact List.getElem_mem _,this⟩
   rw [hc] at hi
   cases hi
  rfl
 rw [hc] at h1
 simp at h1
 simp only [isE,Bool.and_eq_true,decide_eq_true_eq] at hc
 have:=Ua h (i:=ZY es k) (j:=t) (by omega) ht
 rw [hc.2] at this
 exact this
theorem GX {es:List E3} {e:E3} (h:Yu es=true) (he:ZS e=true) (hr:isE es e.1=true∨es.length<2000):Yu (Xc es e)=true:=by
 have h9:=Vf.1 h
 refine Vf.2 ⟨fun x hx=>?_,?_,?_⟩
 ·unfold Xc at hx
  simp only [List.mem_append,List.mem_singleton] at hx
  rcases hx with (hx | rfl) | hx
  ·exact h9.1 x (List.mem_of_mem_take hx)
  ·exact he
  exact h9.1 x (List.mem_of_mem_drop hx)
 ·unfold Xc
  rw [List.pairwise_append,List.pairwise_append]
  refine ⟨⟨h9.2.1.sublist (List.take_sublist _ _),by simp,?_⟩,h9.2.1.sublist (List.drop_sublist _ _),?_⟩
  ·intro a ha b hb
   simp only [List.mem_singleton] at hb
   subst hb
   obtain ⟨t,h1,h2,rfl⟩:=Vg ha
   exact XR h1
  intro a ha b hb
  obtain ⟨t,h1,h2,rfl⟩:=Sc hb
  have hk:=NX h h1 h2
  simp only [List.mem_append,List.mem_singleton] at ha
  rcases ha with ha | rfl
  ·obtain ⟨t',h3,h4,rfl⟩:=Vg ha
   exact XN (XR h3) hk
  exact hk
 rw [TK]
 have:=Xs h
 split
 ·exact this
 rename_i hn
 rcases hr with hr | hr
 ·exact absurd hr hn
 omega
theorem TN {zs:List Int} (h:Wm zs=true):∀ i,i<zs.length→(i:Int)≤zs.getD i 0∧Y7 (zs.getD i 0)=true
 | 0,hi=>by
  have:=Vp h hi
  simp only [UI,Bool.and_eq_true,Bool.or_eq_true,decide_eq_true_eq] at this
  refine ⟨?_,this.1⟩
  have h1:=this.1
  simp only [Y7,decide_eq_true_eq] at h1
  omega
 | i+1,hi=>by
  have h0:=TN h i (by omega)
  have:=Vp h hi
  simp only [UI,Bool.and_eq_true,Bool.or_eq_true,decide_eq_true_eq] at this
  refine ⟨?_,this.1⟩
  rcases this.2 with h1 | h1
  ·omega
  rw [Nat.add_sub_cancel] at h1
  omega
theorem Jw {zs:List Int} (h:Wm zs=true):zs.length≤23:=by
 by_cases h0:zs.length=0
 ·omega
 obtain ⟨h1,h2⟩:=TN h (zs.length - 1) (by omega)
 simp only [Y7,decide_eq_true_eq] at h2
 omega
theorem Ri {e:E3} (h:ZS e=true):e.2.1.length≤30:=by
 simp only [ZS,Bool.and_eq_true,decide_eq_true_eq] at h
 exact h.2.2.2
theorem Rj {e:E3} (h:ZS e=true):e.2.2.length≤23:=by
 simp only [ZS,Bool.and_eq_true,decide_eq_true_eq] at h
 exact Jw h.2.2.1
theorem T4 {e:E3} (h:ZS e=true):e.1.size=15:=by
 simp only [ZS,YP,Bool.and_eq_true,decide_eq_true_eq] at h
 exact h.1.1


theorem Ji (w:World) (cs:List Value) (t:TypeId):∀ ad,some (⟨w.heap.size,0,none⟩:Addr)=some ad→∀ j u,cs[j]?=some u→(w.alloc (.cells cs.toArray t)).cell? (ad.add j)=some u:=by
 intro ad ha j u hj
 cases ha
 have e:(⟨w.heap.size,0,none⟩:Addr).add j=⟨w.heap.size,0+j,none⟩:=by unfold Addr.add;split<;>simp_all
 rw [e,Nat.zero_add]
 have p:Blk (w.alloc (.cells cs.toArray t)) w.heap.size t cs:=Zi _ _ _ rfl
 rw [p.cell j]
 exact hj
theorem Vb (k:ByteArray) (s:Sl2):∀ u ∈ Ya k s,u.oneCell'=true:=by
 intro u hu
 simp [Ya] at hu
 rcases hu with rfl | rfl | rfl<;>rfl

open Go.RowKit Go.Sort

def T2 (a b:Int):Int:=if a<b then -1 else if b<a then 1 else 0
def orI (a b c:Int):Int:=if a≠0 then a else if b≠0 then b else c
def Tg (x y:I3):Int:=orI (T2 x.1 y.1) (T2 x.2.1 y.2.1) (T2 x.2.2 y.2.2)
theorem WK (x y:I3):ltOf Tg x y=ltB x y:=by
 unfold ltOf Tg orI T2 ltB
 by_cases a1:x.1<y.1
 ·simp [a1]
 by_cases a2:y.1<x.1
 ·have:¬ (x.1=y.1):=by omega
  simp [a1,a2,this]
 have a3:x.1=y.1:=by omega
 by_cases b1:x.2.1<y.2.1
 ·simp [a3,b1]
 by_cases b2:y.2.1<x.2.1
 ·have:¬ (x.2.1=y.2.1):=by omega
  simp [a3,b1,b2,this]
 have b3:x.2.1=y.2.1:=by omega
 by_cases c1:x.2.2<y.2.2
 ·simp [a3,b3,c1]
 by_cases c2:y.2.2<x.2.2
 ·simp [a3,b3,c1,c2]
 simp [a3,b3,c1,c2]
theorem J8:SWO (ltOf Tg) where
 irrefl x:=by rw [WK];exact WE x
 trans x y z h1 h2:=by rw [WK] at *;exact Ve h1 h2
 ntrans x y z h1 h2:=by
  rw [WK] at *
  cases h:ltB x z
  ·rfl
  cases k:ltB y x
  ·have:=Ww h1 k
   subst this
   rw [h] at h2
   cases h2
  have:=Ve k h
  rw [this] at h2
  cases h2
theorem MA (x y:I3) (h:ltOf Tg x y=false) (k:ltOf Tg y x=false):x=y:=by
 rw [WK] at h k
 exact Ww h k

theorem XU (a b:Int) (w:World):Calls Tryz.prog 115 #[.int .i64 a,.int .i64 b] w fun e w'=>e=.returned (.int .i64 (T2 a b))∧w=w':=by
 have ha:(a != a)=false:=by simp
 have hb:(b != b)=false:=by simp
 unfold T2
 by_cases h1:a<b
 ·rw [if_pos h1]
  go_enter Tryz.func115,Tryz.ntmps115
  go_wp2
  go_ret
  exact ⟨rfl,rfl⟩
 rw [if_neg h1]
 by_cases h2:b<a
 ·rw [if_pos h2]
  go_enter Tryz.func115,Tryz.ntmps115
  go_wp2
  go_ret
  exact ⟨rfl,rfl⟩
 rw [if_neg h2]
 go_enter Tryz.func115,Tryz.ntmps115
 go_wp2
 go_ret
 exact ⟨rfl,rfl⟩

theorem J9 (g:Nat) (a b c:Int) (w:World) (h0:w.cell? ⟨g,0,none⟩=some (.int .i64 a)) (h1:w.cell? ⟨g,1,none⟩=some (.int .i64 b)) (h2:w.cell? ⟨g,2,none⟩=some (.int .i64 c)) :
  Calls Tryz.prog 202 #[.slice (some ⟨g,0,none⟩) 3 3] w fun e w'=>e=.returned (.int .i64 (orI a b c))∧w=w':=by
 unfold orI
 by_cases ha:a=0
 ·subst ha
  simp only [ne_eq,not_true_eq_false,if_false]
  by_cases hb:b=0
  ·subst hb
   simp only [ne_eq,not_true_eq_false,if_false]
   by_cases hc:c=0
   ·subst hc
    go_enter Tryz.func202,Tryz.ntmps202
    go_wp2
    refine wp_loop_rounds 4 ?_
    rw [rounds_succ]
    go_wp2
    rw [rounds_succ]
    go_wp2
    rw [rounds_succ]
    go_wp2
    rw [rounds_succ]
    go_wp2
    go_ret
    exact ⟨rfl,rfl⟩
   go_enter Tryz.func202,Tryz.ntmps202
   go_wp2
   refine wp_loop_rounds 3 ?_
   rw [rounds_succ]
   go_wp2
   rw [rounds_succ]
   go_wp2
   rw [rounds_succ]
   go_wp2
   go_ret
   exact ⟨rfl,rfl⟩
  simp only [ne_eq,hb,not_false_eq_true,if_true]
  go_enter Tryz.func202,Tryz.ntmps202
  go_wp2
  refine wp_loop_rounds 2 ?_
  rw [rounds_succ]
  go_wp2
  rw [rounds_succ]
  go_wp2
  go_ret
  exact ⟨rfl,rfl⟩
 simp only [ne_eq,ha,not_false_eq_true,if_true]
 go_enter Tryz.func202,Tryz.ntmps202
 go_wp2
 refine wp_loop_rounds 1 ?_
 rw [rounds_succ]
 go_wp2
 go_ret
 exact ⟨rfl,rfl⟩

theorem VM (x y:I3) (w:World) :
  Calls Tryz.prog 164 #[.agg #[.int .i64 x.1,.int .i64 x.2.1,.int .i64 x.2.2],.agg #[.int .i64 y.1,.int .i64 y.2.1,.int .i64 y.2.2]] w fun e w'=>e=.returned (.int .i64 (Tg x y))∧∃ q os,w'=grow (w.drewN q) os:=by
 obtain ⟨x0,x1,x2⟩:=x
 obtain ⟨y0,y1,y2⟩:=y
 unfold Tg
 simp only
 have k0:=fun W=>XU x0 y0 W
 have k1:=fun W=>XU x1 y1 W
 have k2:=fun W=>XU x2 y2 W
 generalize T2 x0 y0=p0 at *
 generalize T2 x1 y1=p1 at *
 generalize T2 x2 y2=p2 at *
 have HW:Hid (∃ q os,((w.alloc (.cells #[.int .i64 x0,.int .i64 x1,.int .i64 x2] 127)).alloc (.cells #[.int .i64 y0,.int .i64 y1,.int .i64 y2] 127)).drew.alloc (.cells #[.int .i64 p0,.int .i64 p1,.int .i64 p2] 3)=grow (w.drewN q) os):=⟨1,#[.cells #[.int .i64 x0,.int .i64 x1,.int .i64 x2] 127]++#[.cells #[.int .i64 y0,.int .i64 y1,.int .i64 y2] 127]++#[.cells #[.int .i64 p0,.int .i64 p1,.int .i64 p2] 3],by
  rw [alloc_eq_grow,alloc_eq_grow,alloc_eq_grow]
  simp only [grow,World.drew,World.drewN,Array.append_assoc]⟩
 have c0:((w.alloc (.cells #[.int .i64 x0,.int .i64 x1,.int .i64 x2] 127)).alloc (.cells #[.int .i64 y0,.int .i64 y1,.int .i64 y2] 127)).cell? ⟨w.heap.size,0,none⟩=some (.int .i64 x0):=by simp [go_sem]
 have c1:((w.alloc (.cells #[.int .i64 x0,.int .i64 x1,.int .i64 x2] 127)).alloc (.cells #[.int .i64 y0,.int .i64 y1,.int .i64 y2] 127)).cell? ⟨w.heap.size,1,none⟩=some (.int .i64 x1):=by simp [go_sem]
 have c2:((w.alloc (.cells #[.int .i64 x0,.int .i64 x1,.int .i64 x2] 127)).alloc (.cells #[.int .i64 y0,.int .i64 y1,.int .i64 y2] 127)).cell? ⟨w.heap.size,2,none⟩=some (.int .i64 x2):=by simp [go_sem]
 have e0:((w.alloc (.cells #[.int .i64 x0,.int .i64 x1,.int .i64 x2] 127)).alloc (.cells #[.int .i64 y0,.int .i64 y1,.int .i64 y2] 127)).cell? ⟨w.heap.size+1,0,none⟩=some (.int .i64 y0):=by simp [go_sem]
 have e1:((w.alloc (.cells #[.int .i64 x0,.int .i64 x1,.int .i64 x2] 127)).alloc (.cells #[.int .i64 y0,.int .i64 y1,.int .i64 y2] 127)).cell? ⟨w.heap.size+1,1,none⟩=some (.int .i64 y1):=by simp [go_sem]
 have e2:((w.alloc (.cells #[.int .i64 x0,.int .i64 x1,.int .i64 x2] 127)).alloc (.cells #[.int .i64 y0,.int .i64 y1,.int .i64 y2] 127)).cell? ⟨w.heap.size+1,2,none⟩=some (.int .i64 y2):=by simp [go_sem]
 go_enter Tryz.func164,Tryz.ntmps164
 go_wp2_with fail
 generalize ((w.alloc (.cells #[.int .i64 x0,.int .i64 x1,.int .i64 x2] 127)).alloc (.cells #[.int .i64 y0,.int .i64 y1,.int .i64 y2] 127))=W at *
 refine wp_region_held_drew (S:=(fun w'=>w'.cell? ⟨w.heap.size,0,none⟩=some (.int .i64 x0)∧w'.cell? ⟨w.heap.size,1,none⟩=some (.int .i64 x1)∧w'.cell? ⟨w.heap.size,2,none⟩=some (.int .i64 x2)∧w'.cell? ⟨w.heap.size+1,0,none⟩=some (.int .i64 y0)∧w'.cell? ⟨w.heap.size+1,1,none⟩=some (.int .i64 y1)∧w'.cell? ⟨w.heap.size+1,2,none⟩=some (.int .i64 y2))) (by kernel_rfl) ⟨c0,c1,c2,e0,e1,e2⟩ (fun hS0=>?_)
 refine tkm 0 5 (.pointer (some ⟨w.heap.size,0,none⟩)) ?_
 refine tkm 1 6 (.int .i64 x0) ?_
 refine tkm 2 7 (.pointer (some ⟨w.heap.size+1,0,none⟩)) ?_
 refine tkm 3 8 (.int .i64 y0) ?_
 refine tkm 5 10 (.pointer (some ⟨w.heap.size,1,none⟩)) ?_
 refine tkm 6 11 (.int .i64 x1) ?_
 refine tkm 7 12 (.pointer (some ⟨w.heap.size+1,1,none⟩)) ?_
 refine tkm 8 13 (.int .i64 y1) ?_
 refine tkm 10 15 (.pointer (some ⟨w.heap.size,2,none⟩)) ?_
 refine tkm 11 16 (.int .i64 x2) ?_
 refine tkm 12 17 (.pointer (some ⟨w.heap.size+1,2,none⟩)) ?_
 refine tkm 13 18 (.int .i64 y2) ?_
 refine tkr 4 9 (fun K hK=>?_)
 go_simp
 refine (k0 _).mono ?_
 rintro e w5 ⟨rfl,rfl⟩
 go_wp2_with fail
 refine hK.out _ _ ⟨c0,c1,c2,e0,e1,e2⟩ (fun hS1=>?_)
 clear hK
 try simp only [Act.put,tka,tkb,tkc]
 refine tkr 9 14 (fun K hK=>?_)
 go_simp
 refine (k1 _).mono ?_
 rintro e w6 ⟨rfl,rfl⟩
 go_wp2_with fail
 refine hK.out _ _ ⟨c0,c1,c2,e0,e1,e2⟩ (fun hS2=>?_)
 clear hK
 try simp only [Act.put,tka,tkb,tkc]
 refine tkr 14 19 (fun K hK=>?_)
 go_simp
 refine (k2 _).mono ?_
 rintro e w7 ⟨rfl,rfl⟩
 go_wp2_with fail
 refine hK.out _ _ ⟨c0,c1,c2,e0,e1,e2⟩ (fun hS3=>?_)
 clear hK
 try simp only [Act.put,tka,tkb,tkc]
 have f0:(W.drew.alloc (.cells #[.int .i64 p0,.int .i64 p1,.int .i64 p2] 3)).cell? ⟨W.heap.size,0,none⟩=some (.int .i64 p0):=by simp [go_sem]
 have f1:(W.drew.alloc (.cells #[.int .i64 p0,.int .i64 p1,.int .i64 p2] 3)).cell? ⟨W.heap.size,1,none⟩=some (.int .i64 p1):=by simp [go_sem]
 have f2:(W.drew.alloc (.cells #[.int .i64 p0,.int .i64 p1,.int .i64 p2] 3)).cell? ⟨W.heap.size,2,none⟩=some (.int .i64 p2):=by simp [go_sem]
 have hal:Below W.heap.size W (W.drew.alloc (.cells #[.int .i64 p0,.int .i64 p1,.int .i64 p2] 3)):=by go_grown
 refine tkr 15 20 (fun K hK=>?_)
 go_simp
 refine hK.out _ _ ⟨Za hal _ _ c0,Za hal _ _ c1,Za hal _ _ c2,Za hal _ _ e0,Za hal _ _ e1,Za hal _ _ e2⟩ (fun hSa=>?_)
 clear hK
 try simp only [Act.put,tka,tkb,tkc]
 refine tkr 16 21 (fun K hK=>?_)
 go_simp
 refine (J9 W.heap.size p0 p1 p2 _ f0 f1 f2).mono ?_
 rintro e w9 ⟨rfl,rfl⟩
 go_wp2_with fail
 refine hK.out _ _ hSa (fun hSb=>?_)
 clear hK
 try simp only [Act.put,tka,tkb,tkc]
 refine tkm 17 4 (.int .i64 (orI p0 p1 p2)) ?_
 refine wpAnyH_done (by kernel_rfl) ?_ _
 clear hSa hSb c0 c1 c2 e0 e1 e2 f0 f1 f2 k0 k1 k2
 go_wp2
 go_ret
 exact ⟨rfl,HW.out⟩
end Go.Proofs.YtnffeclgboomoaaGreatDoor
