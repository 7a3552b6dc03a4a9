/-
  Joined: MgiI, EntX, Parse, CodeL, Prog5, ProgL, SlI.
-/
import Derived.Shelf.SlIterI.Nil
import Derived.Shelf.SortM.Plain
import Derived.Shelf.SortM.SortNone
import Derived.Test.YtdopgkbegjfhjaaGreatDoorL14

namespace Go.Proofs.YtdopgkbegjfhjaaGreatDoor
set_option maxRecDepth 100000
set_option maxHeartbeats 16000000
open Go.RowKit
set_option linter.unusedVariables false
set_option linter.unusedSimpArgs false

def allIt (xs:List Int):Bool:=xs.all itOk
def wfs (xs:List Int):Prop:=∀ x ∈ xs,(Lit.int .i64 x).wf=true
theorem allIt_drop {xs:List Int} {k:Nat} (h:k<xs.length):allIt (xs.drop k)=(itOk (xs.getD k 0) && allIt (xs.drop (k+1))):=by
 unfold allIt
 rw [List.drop_eq_getElem_cons h,List.all_cons]
 simp [List.getD,List.getElem?_eq_getElem h]
theorem itOk_wf {x:Int} (h:itOk x=true):(Lit.int .i64 x).wf=true:=by
 simp only [itOk,decide_eq_true_eq] at h
 exact fits8 (by omega) (by omega)
theorem fold_take {xs acc:List Int} {k:Nat} (h:k<xs.length):(xs.take (k+1)).foldl putI acc=putI ((xs.take k).foldl putI acc) (xs.getD k 0):=by
 rw [take_snoc8 h,List.foldl_append]
 rfl
theorem l08Merge_is (a:Option Addr) (n cap:Nat) (xs:List Int) (a':Option Addr) (n' cap':Nat) (ys:List Int) (w:World) (h:Ints .i64 w a n cap xs) (h':Ints .i64 w a' n' cap' ys) (hn:n≤100000) (hn':n'≤100000) :
  Calls Tryz.prog 90 #[.slice a n cap,.slice a' n' cap'] w fun e w'=>RowGot e w' w.heap.size (mrgI (xs++ys))∧Below w.heap.size w w':=by
 have hl:=h.1
 have hl':=h'.1
 have q0:=empty8 w 3 1 w.heap.size (Nat.le_refl _)
 have b0:Below w.heap.size w (w.alloc (.cells #[] 3)):=by go_grown
 obtain ⟨R,hR⟩:∃ R:World→Value→List Int→Prop,∀ W v zs,R W v zs↔(∃ g c,v=.slice (some ⟨g,0,none⟩) zs.length c∧W.ownsRow w.heap.size 3 1 v zs.length (zs.map (Value.int .i64)))∧Below w.heap.size w W:=⟨fun W v zs=>(∃ g c,v=.slice (some ⟨g,0,none⟩) zs.length c∧W.ownsRow w.heap.size 3 1 v zs.length (zs.map (Value.int .i64)))∧Below w.heap.size w W,fun _ _ _=>Iff.rfl⟩
 have hR0:R (w.alloc (.cells #[] 3)) (.slice (some ⟨w.heap.size,0,none⟩) 0 0) []:=(hR _ _ _).2 ⟨⟨_,_,rfl,q0⟩,b0⟩
 have hlx:∀ k,((xs.take k).foldl putI []).length≤100000:=fun k=>by
  have:=foldl_putI_len (xs.take k) []
  simp at this
  omega
 have hly:∀ k,((ys.take k).foldl putI (mrgI xs)).length≤200000:=fun k=>by
  have h1:=foldl_putI_len (ys.take k) (mrgI xs)
  have h2:=mrgI_len xs
  simp at h1
  omega
 clear q0 b0
 go_enter Tryz.func90,Tryz.ntmps90
 go_wp2_with fail
 go_loopw [5,6] (fun so si wr=>∃ k:Nat,k≤n∧si=.int .i64 k∧R wr so ((xs.take k).foldl putI [])) (fun _ si _=>n - (Go.RowKit.intOf si).toNat)
 case atStart=>exact ⟨0,by omega,rfl,hR0⟩
 case round =>
  obtain ⟨k,hk,rfl,hr⟩:=hrel
  obtain ⟨⟨g,c,hv,q⟩,hb⟩:=(hR _ _ _).1 hr
  subst hv
  by_cases hlt:k<n
  ·have hfo:=fold_take (xs:=xs) (acc:=[]) (k:=k) (by omega)
   obtain ⟨_,_,_,hcase⟩:=h.below hb
   rcases hcase with e0 | ⟨b,off,rfl,hb9,hc⟩
   ·omega
   have d0:=hc k hlt
   have hlz:=hlx k
   generalize xs.getD k 0=x at d0 hfo
   generalize hzs:(xs.take k).foldl putI []=zs at *
   have kP:=l08Put_is g 0 zs.length c zs x wr (ints8 q) (by omega)
   have HFo:Hid ((xs.take (k+1)).foldl putI []=putI zs x):=hfo
   clear hfo hc hb9 hzs
   have hlt':(k:Int)<(n:Int):=by omega
   have hk0:(0:Int)≤(k:Int):=by omega
   have hs9:=hb.size
   go_wp2_with fail
   refine kP.mono ?_
   rintro e w1 ⟨⟨v1,rfl,q1⟩,hb1⟩
   obtain ⟨g1,c1,rfl⟩:=some8 q1 (by
    have hm:=(putI_mem zs x x).2 (.inl rfl)
    exact List.length_pos_of_mem hm)
   have hr1:R w1 (.slice (some ⟨g1,0,none⟩) (putI zs x).length c1) ((xs.take (k+1)).foldl putI []):=by
    rw [HFo.out]
    exact (hR _ _ _).2 ⟨⟨_,_,rfl,lower8 q1 hs9⟩,bel8 hb hb1⟩
   clear q1 hb1 kP
   go_wp2
   go_roundw
   case rel=>exact ⟨k+1,by omega,by go_num,hr1⟩
   case measure=>simp [Go.RowKit.intOf];omega
  ·obtain rfl:k=n:=by omega
   have e9:(xs.take k).foldl putI []=mrgI xs:=by rw [List.take_of_length_le (by omega)];rfl
   rw [e9] at hr q
   clear e9 hlt hR0
   rw [show ((xs.take k).foldl putI []).length=(mrgI xs).length by rw [List.take_of_length_le (by omega)];rfl] at *
   go_wp2_with fail
   go_loopw [5,7] (fun so si wr=>∃ k:Nat,k≤n'∧si=.int .i64 k∧R wr so ((ys.take k).foldl putI (mrgI xs))) (fun _ si _=>n' - (Go.RowKit.intOf si).toNat)
   case atStart=>exact ⟨0,by omega,rfl,hr⟩
   case round =>
    clear hr q hb
    obtain ⟨j,hj,rfl,hr⟩:=hrel
    obtain ⟨⟨g2,c2,hv,q⟩,hb⟩:=(hR _ _ _).1 hr
    subst hv
    by_cases hlt:j<n'
    ·have hfo:=fold_take (xs:=ys) (acc:=mrgI xs) (k:=j) (by omega)
     obtain ⟨_,_,_,hcase⟩:=h'.below hb
     rcases hcase with e0 | ⟨b,off,rfl,hb9,hc⟩
     ·omega
     have d0:=hc j hlt
     have hlz:=hly j
     generalize ys.getD j 0=x at d0 hfo
     generalize hzs:(ys.take j).foldl putI (mrgI xs)=zs at *
     have kP:=l08Put_is g2 0 zs.length c2 zs x wr (ints8 q) (by omega)
     have HFo:Hid ((ys.take (j+1)).foldl putI (mrgI xs)=putI zs x):=hfo
     clear hfo hc hb9 hzs
     have hlt':(j:Int)<(n':Int):=by omega
     have hk0:(0:Int)≤(j:Int):=by omega
     have hs9:=hb.size
     go_wp2_with fail
     refine kP.mono ?_
     rintro e w1 ⟨⟨v1,rfl,q1⟩,hb1⟩
     obtain ⟨g1,c1,rfl⟩:=some8 q1 (by
      have hm:=(putI_mem zs x x).2 (.inl rfl)
      exact List.length_pos_of_mem hm)
     have hr1:R w1 (.slice (some ⟨g1,0,none⟩) (putI zs x).length c1) ((ys.take (j+1)).foldl putI (mrgI xs)):=by
      rw [HFo.out]
      exact (hR _ _ _).2 ⟨⟨_,_,rfl,lower8 q1 hs9⟩,bel8 hb hb1⟩
     clear q1 hb1 kP
     go_wp2
     go_roundw
     case rel=>exact ⟨j+1,by omega,by go_num,hr1⟩
     case measure=>simp [Go.RowKit.intOf];omega
    ·obtain rfl:j=n':=by omega
     have HE:Hid ((ys.take j).foldl putI (mrgI xs)=mrgI (xs++ys)):=by
      rw [Hid,List.take_of_length_le (by omega)]
      unfold mrgI
      rw [List.foldl_append]
     clear hr
     generalize (ys.take j).foldl putI (mrgI xs)=zs at *
     go_wp2
     go_ret
     exact ⟨⟨_,rfl,by rw [← HE.out];exact q⟩,hb⟩


theorem riseI_at {zs:List Int} (h:riseI zs=true):∀ i,i<zs.length→(i:Int)≤zs.getD i 0∧itOk (zs.getD i 0)=true
 | 0,hi=>by
  have:=allR_at h hi
  simp only [iStep,Bool.and_eq_true,Bool.or_eq_true,decide_eq_true_eq] at this
  refine ⟨?_,this.1⟩
  have h1:=this.1
  simp only [itOk,decide_eq_true_eq] at h1
  omega
 | i+1,hi=>by
  have h0:=riseI_at h i (by omega)
  have:=allR_at h hi
  simp only [iStep,Bool.and_eq_true,Bool.or_eq_true,decide_eq_true_eq] at this
  refine ⟨?_,this.1⟩
  rcases this.2 with h1 | h1
  ·omega
  ·rw [Nat.add_sub_cancel] at h1
   omega
theorem riseI_len {zs:List Int} (h:riseI zs=true):zs.length≤23:=by
 by_cases h0:zs.length=0
 ·omega
 ·obtain ⟨h1,h2⟩:=riseI_at h (zs.length - 1) (by omega)
  simp only [itOk,decide_eq_true_eq] at h2
  omega
theorem entOk_bugs {e:E3} (h:entOk e=true):e.2.1.length≤30:=by
 simp only [entOk,Bool.and_eq_true,decide_eq_true_eq] at h
 exact h.2.2.2
theorem entOk_foot {e:E3} (h:entOk e=true):e.2.2.length≤23:=by
 simp only [entOk,Bool.and_eq_true,decide_eq_true_eq] at h
 exact riseI_len h.2.2.1
theorem entOk_key {e:E3} (h:entOk e=true):e.1.size=15:=by
 simp only [entOk,keyOk9,Bool.and_eq_true,decide_eq_true_eq] at h
 exact h.1.1


def triples:List Int→List I3
 | a::b::c::r=>(a,b,c)::triples r
 | _=>[]

theorem triples_length:∀ (n:Nat) (zs:List Int),zs.length=3*n→(triples zs).length=n
 | 0,[],_=>rfl
 | 0,_::_,h=>by simp at h
 | n+1,[],h=>by simp at h
 | n+1,[_],h=>by simp at h;omega
 | n+1,[_,_],h=>by simp at h;omega
 | n+1,a::b::c::r,h=>by
  have:=triples_length n r (by simp at h;omega)
  simp [triples,this]
theorem triples_get:∀ (n:Nat) (zs:List Int) (i:Nat),zs.length=3*n→i<n→(triples zs).getD i (0,0,0)=(zs.getD (3*i) 0,zs.getD (3*i+1) 0,zs.getD (3*i+2) 0)
 | 0,_,i,_,h=>by omega
 | n+1,[],i,h,_=>by simp at h
 | n+1,[_],i,h,_=>by simp at h;omega
 | n+1,[_,_],i,h,_=>by simp at h;omega
 | n+1,a::b::c::r,0,_,_=>by simp [triples]
 | n+1,a::b::c::r,i+1,h,hi=>by
  have ih:=triples_get n r i (by simp at h;omega) (by omega)
  rw [triples,List.getD_cons_succ,ih]
  have e0:3*(i+1)=3*i+1+1+1:=by omega
  rw [e0]
  simp [List.getD]

def parse:Nat→List Int→Option (List (List I3))
 | 0,[]=>some []
 | 0,_::_=>none
 | _+1,[]=>none
 | k+1,n::zs=>if (zs.length:Int)<3*n then none else (parse k (zs.drop (3*n.toNat))).map (triples (zs.take (3*n.toNat))::·)

theorem parse_short {k:Nat} {n:Int} {zs:List Int} (h:(zs.length:Int)<3*n):parse (k+1) (n::zs)=none:=by simp [parse,h]
theorem parse_step {k:Nat} {n:Int} {zs:List Int} (h:¬ (zs.length:Int)<3*n):parse (k+1) (n::zs)=(parse k (zs.drop (3*n.toNat))).map (triples (zs.take (3*n.toNat))::·):=by simp [parse,h]
theorem parse_rest {zs:List Int} (h:zs≠[]):parse 0 zs=none:=by
 cases zs with
 | nil=>exact absurd rfl h
 | cons z zs=>rfl

def PState (zs:List Int) (k:Nat) (done:List (List I3)) (rest:List Int):Prop:=parse 3 zs=(parse (3 - k) rest).map (done++·)

theorem PState.start (zs:List Int):PState zs 0 [] zs:=by
 unfold PState
 simp
theorem PState.fail {zs:List Int} {k:Nat} {done:List (List I3)} {rest:List Int} (h:PState zs k done rest) (hn:parse (3 - k) rest=none):parse 3 zs=none:=by
 rw [h,hn];rfl
theorem PState.empty {zs:List Int} {k:Nat} {done:List (List I3)} (h:PState zs k done []) (hk:k<3):parse 3 zs=none:=by
 refine h.fail ?_
 obtain ⟨j,hj⟩:∃ j,3 - k=j+1:=⟨3 - k - 1,by omega⟩
 rw [hj];rfl
theorem PState.short {zs:List Int} {k:Nat} {done:List (List I3)} {n:Int} {ys:List Int} (h:PState zs k done (n::ys)) (hk:k<3) (hs:(ys.length:Int)<3*n):parse 3 zs=none:=by
 refine h.fail ?_
 obtain ⟨j,hj⟩:∃ j,3 - k=j+1:=⟨3 - k - 1,by omega⟩
 rw [hj];exact parse_short hs
theorem PState.step {zs:List Int} {k:Nat} {done:List (List I3)} {n:Int} {ys:List Int} (h:PState zs k done (n::ys)) (hk:k<3) (hs:¬ (ys.length:Int)<3*n):PState zs (k+1) (done++[triples (ys.take (3*n.toNat))]) (ys.drop (3*n.toNat)):=by
 unfold PState at h ⊢
 obtain ⟨j,hj⟩:∃ j,3 - k=j+1:=⟨3 - k - 1,by omega⟩
 rw [h,hj,parse_step hs,show 3 - (k+1)=j by omega,Option.map_map]
 congr 1
 funext r
 simp
theorem PState.done {zs:List Int} {done:List (List I3)} (h:PState zs 3 done []):parse 3 zs=some done:=by
 unfold PState at h
 rw [h];simp [parse]
theorem PState.more {zs:List Int} {done:List (List I3)} {rest:List Int} (h:PState zs 3 done rest) (hr:rest≠[]):parse 3 zs=none:=h.fail (parse_rest hr)
theorem PState.long {zs:List Int} {k:Nat} {done:List (List I3)} {n:Nat} {ys:List Int} (h:PState zs k done ((n:Int)::ys)) (hk:k<3):∀ rows,parse 3 zs=some rows→∃ r ∈ rows,r.length=n:=by
 intro rows hr
 unfold PState at h
 obtain ⟨j,hj⟩:∃ j,3 - k=j+1:=⟨3 - k - 1,by omega⟩
 rw [h,hj] at hr
 by_cases hs:(ys.length:Int)<3*(n:Int)
 ·rw [parse_short hs] at hr;cases hr
 ·rw [parse_step hs,Option.map_map] at hr
  cases hp:parse j (ys.drop (3*((n:Int)).toNat)) with
  | none=>rw [hp] at hr;cases hr
  | some R =>
   rw [hp] at hr
   simp at hr
   refine ⟨triples (ys.take (3*n)),by rw [← hr];simp,triples_length n _ ?_⟩
   rw [List.length_take]
   omega


theorem codeOfList_ok (a:Option Addr) (n cap:Nat) (ys:List Int) (w:World) (h:Ints .i64 w a (3*n) cap ys) (hn:n≤6) :
  Calls Tryz.prog 138 #[.slice a (3*n:Nat) cap] w fun e w'=>e=.returned (.slice (some ⟨w.heap.size,0,none⟩) n n) ∧
   w'.ownsRow w.heap.size 109 3 (.slice (some ⟨w.heap.size,0,none⟩) n n) n (flat (triples ys))∧Below w.heap.size w w':=by
 obtain ⟨i0,hi,hz0,hz1,hz2⟩:=info_parts info_instr
 obtain ⟨hl,hlc,hcm,hcase⟩:=h
 unfold maxLen at hcm
 have hxl:=triples_length n ys hl
 have hget:=fun i=>triples_get n ys i hl
 generalize triples ys=xs at hxl hget
 obtain ⟨m,hm⟩:∃ m,m=3*n:=⟨_,rfl⟩
 rw [← hm] at hl hlc hcase ⊢
 have HM:Hid (m=3*n):=hm
 have hdiv:(m:Int).tdiv 3=(n:Int):=by rw [Int.tdiv_eq_ediv_of_nonneg (by omega)];omega
 have hm18:m≤18:=by omega
 clear hm
 go_enter Tryz.func138,Tryz.ntmps138
 go_wp2_with (at_make;refine wpList_make_full _ rfl _ _ 107 rfl w.heap.size 109 i0 (.agg #[.int .i64 0,.int .i64 0,.int .i64 0]) 3 Tryz.underlying107 hi hz0 hz1 _ _ _ _ n rfl rfl (by omega) (by omega) ?b2 ?b3 (Nat.le_refl _) ?_)
 case b2=>rw [hz2];omega
 case b3=>unfold maxLen;omega
 intro w0 hown0 hgrow0
 have hb0:Below w.heap.size w w0:=(Below.refl _ _).grown hgrow0 (Nat.le_refl _) (fun k h=>by cases h)
 obtain ⟨cs0,hcs0⟩:∃ cs0,cs0=(madeCells #[Value.int .i64 0,.int .i64 0,.int .i64 0] (n*3)).toList:=⟨_,rfl⟩
 rw [← hcs0] at hown0
 clear hgrow0 hcs0
 go_wp2
 go_loopw [12] (fun si wr=>∃ (k:Nat) (cs:List Value),k≤n∧si=.int .i64 k∧Hid (cs.take (k*3)=flat (xs.take k))∧wr.ownsRow w.heap.size 109 3 (.slice (some ⟨w.heap.size,0,none⟩) n n) n cs∧Below w.heap.size w wr) (fun si _=>n - (intOf si).toNat)
 case atStart=>exact ⟨0,cs0,by omega,rfl,by simp [Hid,flat],hown0,hb0⟩
 case round =>
  obtain ⟨k,cs,hk,rfl,hH,ho,hbel⟩:=hrel
  by_cases hlt:k<n
  ·rcases hcase with h0 | ⟨b,off,rfl,hblt,hcell⟩
   ·have:=HM.out;omega
   have hlt2:(k:Int)<(n:Int):=by omega
   have hk3:3*k+3≤m:=by have:=HM.out;omega
   have g0:=hget k hlt
   have c0:=hcell (3*k) (by omega)
   have c1:=hcell (3*k+1) (by omega)
   have c2:=hcell (3*k+2) (by omega)
   have hstep':Hid (flat (xs.take (k+1))=flat (xs.take k)++(xs.getD k (0,0,0)).cells):=flat_take_succ (by omega)
   rw [g0] at hstep'
   clear hget g0 hcell
   rw [← hbel.cell (p:=⟨b,_,none⟩) hblt] at c0 c1 c2
   generalize ys.getD (3*k) 0=x0 at c0 hstep'
   generalize ys.getD (3*k+1) 0=x1 at c1 hstep'
   generalize ys.getD (3*k+2) 0=x2 at c2 hstep'
   have hr3:3≤m - 3*k:=by omega
   go_wp2_with fail
   have e1:off+(3*k+1)=off+3*k+1:=by omega
   have e2:off+(3*k+2)=off+3*k+2:=by omega
   rw [e1] at c1
   rw [e2] at c2
   clear e1 e2
   generalize m - 3*k=r at hr3
   generalize cap - 3*k=cp
   generalize off+3*k=o at c0 c1 c2
   have hr0:(0:Int)<(r:Int):=by omega
   have hr1:(1:Int)<(r:Int):=by omega
   have hr2:(2:Int)<(r:Int):=by omega
   have hlen:=ho.1
   have f0:=ho.frozenAt (k*3)
   have f1:=ho.frozenAt (k*3+1)
   have f2:=ho.frozenAt (k*3+2)
   obtain ⟨u0,hu0⟩:∃ u,wr.cell? ⟨w.heap.size,k*3,none⟩=some u:=⟨_,by rw [ho.cellAt _ (by omega)];exact List.getElem?_eq_getElem (by omega)⟩
   obtain ⟨u1,hu1⟩:∃ u,wr.cell? ⟨w.heap.size,k*3+1,none⟩=some u:=⟨_,by rw [ho.cellAt _ (by omega)];exact List.getElem?_eq_getElem (by omega)⟩
   obtain ⟨u2,hu2⟩:∃ u,wr.cell? ⟨w.heap.size,k*3+2,none⟩=some u:=⟨_,by rw [ho.cellAt _ (by omega)];exact List.getElem?_eq_getElem (by omega)⟩
   have R:=(((ho.stored (k*3) (.int .i64 x0)).1.stored (k*3+1) (.int .i64 x1)).1.stored (k*3+2) (.int .i64 x2)).1
   have hT:Hid ((((cs.set (k*3) (.int .i64 x0)).set (k*3+1) (.int .i64 x1)).set (k*3+2) (.int .i64 x2)).take ((k+1)*3)=flat (xs.take (k+1))):=by
    rw [Hid,hstep'.out]
    exact set3_take _ _ _ (by omega) hH.out
   have hb3:Below w.heap.size w (((wr.setCell ⟨w.heap.size,k*3,none⟩ (.int .i64 x0)).setCell ⟨w.heap.size,k*3+1,none⟩ (.int .i64 x1)).setCell ⟨w.heap.size,k*3+2,none⟩ (.int .i64 x2)):=
    ((hbel.setCell (Nat.le_refl _) _).setCell (Nat.le_refl _) _).setCell (Nat.le_refl _) _
   clear hH hstep' ho hbel hlen
   generalize ((cs.set (k*3) (.int .i64 x0)).set (k*3+1) (.int .i64 x1)).set (k*3+2) (.int .i64 x2)=cs' at R hT
   go_region
   go_wp2
   go_roundw
   case rel=>exact ⟨k+1,cs',by omega,by go_num,hT,R.drew,hb3.drew⟩
   case measure=>simp [intOf];omega
  ·obtain rfl:k=n:=by omega
   clear hcase
   go_wp2
   go_ret
   have e:cs=flat xs:=by
    have h1:=hH.out
    have h2:=ho.1
    rwa [List.take_of_length_le (by omega),List.take_of_length_le (by omega)] at h1
   exact ⟨rfl,by rw [← e];exact ho,hbel⟩


def RowsOwn (w:World) (B k:Nat) (vs:List Value) (rows:List (List I3)):Prop:=
 (∀ t,t<k→w.ownsRow B 109 3 (vs.getD t undef) (rows.getD t []).length (flat (rows.getD t []))) ∧
 ∀ t t',t<k→t'<k→t≠t'→(vs.getD t undef).ownBlock=none∨(vs.getD t undef).ownBlock≠(vs.getD t' undef).ownBlock

theorem RowsOwn.below {w w':World} {B k:Nat} {vs:List Value} {rows:List (List I3)} (h:RowsOwn w B k vs rows) (hb:Below w.heap.size w w'):RowsOwn w' B k vs rows:=⟨fun t ht=>owns_below (h.1 t ht) hb,h.2⟩

theorem RowsOwn.put {w w':World} {B P k G len:Nat} {vs:List Value} {rows:List (List I3)} (h:RowsOwn w B k vs rows) (hb:Below w.heap.size w w') (hk:k<vs.length) (hG:w.heap.size≤G)
  (hn:w'.ownsRow B 109 3 (.slice (some ⟨G,0,none⟩) len len) (rows.getD k []).length (flat (rows.getD k []))) (hP:P<w.heap.size) (hPn:∀ t,t<k→(vs.getD t undef).ownBlock≠some P) :
  RowsOwn (w'.setCell ⟨P,k,none⟩ (.slice (some ⟨G,0,none⟩) len len)) B (k+1) (vs.set k (.slice (some ⟨G,0,none⟩) len len)) rows:=by
 have hold:∀ t,t≠k→(vs.set k (.slice (some ⟨G,0,none⟩) len len)).getD t undef=vs.getD t undef:=fun t ht=>by simp [List.getD,List.getElem?_set_ne (Ne.symm ht)]
 have hnew:(vs.set k (.slice (some ⟨G,0,none⟩) len len)).getD k undef=.slice (some ⟨G,0,none⟩) len len:=by simp [List.getD,hk]
 refine ⟨fun t ht=>?_,fun t t' ht ht' hne=>?_⟩
 ·by_cases e:t=k
  ·subst e
   rw [hnew]
   exact ownsRow_setCell_other hn (by simp [Value.ownBlock];omega) _
  ·rw [hold t e]
   exact ownsRow_setCell_other (owns_below (h.1 t (by omega)) hb) (hPn t (by omega)) _
 ·by_cases e:t=k
  ·subst e
   rw [hnew,hold t' (Ne.symm hne)]
   refine .inr ?_
   simp only [Value.ownBlock,ne_eq]
   intro h'
   have:=((h.1 t' (by omega)).lt G h'.symm).2
   omega
  ·rw [hold t e]
   by_cases e':t'=k
   ·subst e'
    rw [hnew]
    rcases hbk:(vs.getD t undef).ownBlock with _ | x
    ·exact .inl rfl
    ·refine .inr ?_
     simp only [Value.ownBlock,ne_eq,Option.some.injEq]
     have:=((h.1 t (by omega)).lt x hbk).2
     omega
   ·rw [hold t' e']
    exact h.2 t t' (by omega) (by omega) hne

theorem OwnProg.low {w:World} {B:Nat} {v:Value} {rows:List (List I3)} (h:OwnProg w B v rows) {p:Addr} (hp:p.block<B) (u:Value):OwnProg (w.setCell p u) B v rows:=by
 obtain ⟨vs,h1,h2,h3,h4⟩:=h
 exact ⟨vs,ownsRow_setCell_below h1 hp _,h2,fun t ht=>ownsRow_setCell_below (h3 t ht) hp _,h4⟩


theorem owns_lower {w:World} {B B' e s n:Nat} {v:Value} {cs:List Value} (h:w.ownsRow B e s v n cs) (hB:B'≤B):w.ownsRow B' e s v n cs:=by
 refine ⟨h.1,?_⟩
 rcases h.2 with h0 | ⟨g,cap,cur,hv,hg,r⟩
 ·exact .inl h0
 ·exact .inr ⟨g,cap,cur,hv,by omega,r⟩

theorem emptyProgram_is (w:World):Calls Tryz.prog 137 #[] w fun e w'=>e=.returned (.agg #[.slice (some ⟨w.heap.size+1,0,none⟩) 3 3]) ∧
  (∃ vs,w'.ownsRow w.heap.size 107 1 (.slice (some ⟨w.heap.size+1,0,none⟩) 3 3) 3 vs)∧Below w.heap.size w w':=by
 obtain ⟨i0,hi,hz0,hz1,hz2⟩:=info_parts info_instrs
 go_enter Tryz.func137,Tryz.ntmps137
 go_wp2_with (at_make;refine wpList_make_full _ rfl _ _ 67 rfl w.heap.size 107 i0 (.slice none 0 0) 1 Tryz.underlying67 hi hz0 hz1 _ _ _ _ 3 rfl rfl (by omega) (by omega) ?b2 ?b3 ?b4 ?_)
 case b2=>rw [hz2];omega
 case b3=>unfold maxLen;omega
 case b4=>simp
 intro w0 hown0 hgrow0
 have hk:w0.cell? ⟨w.heap.size,0,none⟩=some (.slice none 0 0):=hgrow0.cell (by simp [go_sem]) (by simp)
 have hf:w0.frozen? ⟨w.heap.size,0,none⟩=false:=by
  rw [World.frozen?_of_block (hgrow0.block w.heap.size (by simp) (by simp))]
  first | (simp [go_sem];done) | (simp [World.frozen?];done)
 have hb0:Below w.heap.size w w0:=((Below.refl w.heap.size w).alloc (Nat.le_refl _) _).grown hgrow0 (by simp) (fun k h=>by cases h)
 try simp only [World.size_alloc] at hown0
 generalize (madeCells #[Value.slice none 0 0] (3*1)).toList=vs at hown0
 clear hgrow0
 have R:(w0.setCell ⟨w.heap.size,0,none⟩ (.slice (some ⟨w.heap.size+1,0,none⟩) 3 3)).ownsRow w.heap.size 107 1 (.slice (some ⟨w.heap.size+1,0,none⟩) 3 3) 3 vs:=ownsRow_setCell_other hown0 (by simp [Value.ownBlock]) _
 have hb1:Below w.heap.size w (w0.setCell ⟨w.heap.size,0,none⟩ (.slice (some ⟨w.heap.size+1,0,none⟩) 3 3)):=hb0.setCell (Nat.le_refl _) _
 have k3:(w0.setCell ⟨w.heap.size,0,none⟩ (.slice (some ⟨w.heap.size+1,0,none⟩) 3 3)).cell? ⟨w.heap.size,0,none⟩=some (.slice (some ⟨w.heap.size+1,0,none⟩) 3 3):=World.cell?_setCell_same' _ _ _ (by rw [hk];rfl)
 try simp only [World.size_alloc]
 go_wp2
 clear hown0 hb0 hk hf
 generalize w0.setCell ⟨w.heap.size,0,none⟩ (.slice (some ⟨w.heap.size+1,0,none⟩) 3 3)=w2 at R hb1 k3
 refine bodyPost_ret (by simp [results,Tryz.results137,go_sem,k3];try rfl) rfl ?_
 exact ⟨rfl,⟨vs,R⟩,hb1⟩


theorem slice_lh {w:World} {b off len cap lo hi:Nat} {xs:List Int} (h:Ints .i64 w (some ⟨b,off,none⟩) len cap xs) (h1:lo≤hi) (h2:hi≤len) :
  ∃ a,(∀ W,(Instr.slice 40 (.slice (some ⟨b,off,none⟩) len cap) (some (.int .i64 (lo:Int))) (some (.int .i64 (hi:Int))) none).run Tryz.prog W=.ok (.slice a (hi - lo) (cap - lo)) W)∧Ints .i64 w a (hi - lo) (cap - lo) ((xs.drop lo).take (hi - lo)):=by
 obtain ⟨hl,hlc,hcm,hcase⟩:=h
 have hhc:(hi:Int)≤(cap:Int):=by omega
 have hlh:(lo:Int)≤(hi:Int):=by omega
 by_cases hz:cap - lo=0
 ·refine ⟨some ⟨b,off,none⟩,fun W=>?_,by rw [List.length_take,List.length_drop];omega,by omega,by omega,.inl (by omega)⟩
  go_simp
  omega
 ·refine ⟨some ⟨b,off+lo,none⟩,fun W=>?_,by rw [List.length_take,List.length_drop];omega,by omega,by omega,?_⟩
  ·go_simp
   omega
  ·rcases hcase with h0 | ⟨b',off',he,hb,hc⟩
   ·exact .inl (by omega)
   ·cases he
    refine .inr ⟨b,off+lo,rfl,hb,fun t ht=>?_⟩
    have:=hc (lo+t) (by omega)
    rw [show off+lo+t=off+(lo+t) by omega,this]
    simp [List.getD,ht]
theorem slice_l {w:World} {b off len cap lo:Nat} {xs:List Int} (h:Ints .i64 w (some ⟨b,off,none⟩) len cap xs) (h1:lo≤len) :
  ∃ a,(∀ W,(Instr.slice 40 (.slice (some ⟨b,off,none⟩) len cap) (some (.int .i64 (lo:Int))) none none).run Tryz.prog W=.ok (.slice a (len - lo) (cap - lo)) W)∧Ints .i64 w a (len - lo) (cap - lo) (xs.drop lo):=by
 obtain ⟨hl,hlc,hcm,hcase⟩:=h
 have hlh:(lo:Int)≤(len:Int):=by omega
 by_cases hz:cap - lo=0
 ·refine ⟨some ⟨b,off,none⟩,fun W=>?_,by rw [List.length_drop];omega,by omega,by omega,.inl (by omega)⟩
  go_simp
  omega
 ·refine ⟨some ⟨b,off+lo,none⟩,fun W=>?_,by rw [List.length_drop];omega,by omega,by omega,?_⟩
  ·go_simp
   omega
  ·rcases hcase with h0 | ⟨b',off',he,hb,hc⟩
   ·exact .inl (by omega)
   ·cases he
    refine .inr ⟨b,off+lo,rfl,hb,fun t ht=>?_⟩
    have:=hc (lo+t) (by omega)
    rw [show off+lo+t=off+(lo+t) by omega,this]
    simp [List.getD]
end Go.Proofs.YtdopgkbegjfhjaaGreatDoor
