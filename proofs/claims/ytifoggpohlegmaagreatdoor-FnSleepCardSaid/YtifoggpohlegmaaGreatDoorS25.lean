/-
  Joined: CptB, SrtB.
-/
import Derived.Lib.SliceRun
import Derived.Test.YtifoggpohlegmaaGreatDoorS18
import Derived.Test.YtifoggpohlegmaaGreatDoorS23
import Derived.Test.YtifoggpohlegmaaGreatDoorS24

namespace Go.Proofs.YtifoggpohlegmaaGreatDoor
set_option maxRecDepth 100000
set_option maxHeartbeats 16000000
open Go.RowKit
set_option linter.unusedVariables false
set_option linter.unusedSimpArgs false

theorem zero_bug:∀ w,(zeroValue 64).run Tryz.prog w=.ok (.agg #[.int .i64 0,.int .i64 0,.int .i64 0]) w:=Tryz.zeroValue64
theorem clear_bugs (w:World) (ty:TypeId) (b o n c:Nat) (hn:0<n)
  (hc:∀ j,j<n*3→(w.cell? ⟨b,o+j,none⟩).isSome=true) (hf:∀ j,j<n*3→w.frozen? ⟨b,o+j,none⟩=false) :
  ∃ vs,(Builtin.clear_ #[34] ty #[.slice (some ⟨b,o,none⟩) n c]).run Tryz.prog w=.ok (.tuple #[]) (w.setCells b o vs):=by
 have hlen:(Builtin.zeroCells (Value.agg #[.int .i64 0,.int .i64 0,.int .i64 0]).cells n).toList.length=n*3:=by rw [Array.length_toList,size_zeroCells];rfl
 have hone:∀ v ∈ (Builtin.zeroCells (Value.agg #[.int .i64 0,.int .i64 0,.int .i64 0]).cells n).toList,v.oneCell'=true:=by
  intro v hv
  obtain ⟨i,hi,rfl⟩:=List.getElem_of_mem hv
  rw [hlen] at hi
  simp [Builtin.zeroCells]
  have h3:i % 3=0∨i % 3=1∨i % 3=2:=by omega
  rcases h3 with h3 | h3 | h3<;>simp [Value.cells,h3,Value.oneCell']
 have hst:=run_storeCells_cells (P:=Tryz.prog) b o _ 0 w (by rw [hlen];exact hc) (by rw [hlen];exact hf) hone
 simp only [Nat.add_zero] at hst
 obtain ⟨m,rfl⟩:∃ m,n=m+1:=⟨n - 1,by omega⟩
 refine ⟨(Builtin.zeroCells (Value.agg #[.int .i64 0,.int .i64 0,.int .i64 0]).cells (m+1)).toList,?_⟩
 simp [Builtin.clear_,run_underlying Tryz.underlying34,zero_bug,hst]

theorem own_shrink {w:World} {B e s g n m cap:Nat} {cs:List Value} (h:w.ownsRow B e s (.slice (some ⟨g,0,none⟩) n cap) n cs) (hm:m≤n):w.ownsRow B e s (.slice (some ⟨g,0,none⟩) m cap) m (cs.take (m*s)):=by
 have hl:=h.1
 have hms:m*s≤n*s:=Nat.mul_le_mul_right _ hm
 refine ⟨by rw [List.length_take];omega,?_⟩
 rcases h.2 with ⟨hv,_⟩ | ⟨g',cap',cur,hv,hB,hg,hn,hc,hsz,ht⟩
 ·cases hv
 ·cases hv
  refine .inr ⟨g,cap,cur,rfl,hB,hg,by omega,hc,hsz,?_⟩
  rw [← ht,List.take_take,Nat.min_eq_left hms]
theorem own_far {w:World} {B e s g m cap:Nat} {cs:List Value} (h:w.ownsRow B e s (.slice (some ⟨g,0,none⟩) m cap) m cs) {o:Nat} (ho:m*s≤o) (v:Value):(w.setCell ⟨g,o,none⟩ v).ownsRow B e s (.slice (some ⟨g,0,none⟩) m cap) m cs:=by
 refine ⟨h.1,?_⟩
 rcases h.2 with ⟨hv,_⟩ | ⟨g',cap',cur,hv,hB,hg,hn,hc,hsz,ht⟩
 ·cases hv
 ·cases hv
  refine .inr ⟨g,cap,cur.setIfInBounds o v,rfl,hB,?_,hn,hc,by simpa using hsz,?_⟩
  ·simp [World.setCell,Array.getElem?_modify,hg]
  ·rw [← ht,Array.toList_setIfInBounds,List.take_set_of_le ho]
theorem own_fars {B e s g m cap:Nat} {cs:List Value}:∀ (vs:List Value) (o:Nat) (w:World),w.ownsRow B e s (.slice (some ⟨g,0,none⟩) m cap) m cs→m*s≤o→(w.setCells g o vs).ownsRow B e s (.slice (some ⟨g,0,none⟩) m cap) m cs
 | [],_,_,h,_=>h
 | v::r,o,w,h,ho=>own_fars r (o+1) _ (own_far h ho v) (by omega)
theorem grown_sets (g:Nat):∀ (vs:List Value) (o:Nat) (w:World),w.grownBy (w.setCells g o vs) (some g)
 | [],_,w=>World.grownBy.refl _ _
 | v::r,o,w=>grownBy_tr (grownBy_set w g o v) (grown_sets g r (o+1) _)
theorem flat_set3:∀ (ys:List I3) (m:Nat) (q:I3),m<ys.length→(((flat ys).set (m*3) (.int .i64 q.1)).set (m*3+1) (.int .i64 q.2.1)).set (m*3+2) (.int .i64 q.2.2)=flat (ys.set m q)
 | [],m,q,h=>by simp at h
 | y::ys,0,q,h=>by simp [flat,I3.cells]
 | y::ys,m+1,q,h=>by
  have ih:=flat_set3 ys m q (by simpa using h)
  have e:flat (y::ys)=[.int .i64 y.1,.int .i64 y.2.1,.int .i64 y.2.2]++flat ys:=by simp [flat,I3.cells]
  rw [e,show (m+1)*3=3+m*3 by omega,List.set_append_right _ _ (by simp only [List.length_cons,List.length_nil];omega),List.set_append_right _ _ (by simp only [List.length_cons,List.length_nil];omega),List.set_append_right _ _ (by simp only [List.length_cons,List.length_nil];omega)]
  simp only [List.length_cons,List.length_nil,Nat.zero_add,Nat.reduceAdd,show 3+m*3 - 3=m*3 by omega,show 3+m*3+1 - 3=m*3+1 by omega,show 3+m*3+2 - 3=m*3+2 by omega]
  rw [ih]
  simp [flat,I3.cells]
theorem drop_two {xs:List I3} {j:Nat} (h:j+1<xs.length):∃ r,xs.drop j=xs.getD j (0,0,0)::xs.getD (j+1) (0,0,0)::r∧xs.drop (j+1)=xs.getD (j+1) (0,0,0)::r:=by
 have h1:=List.drop_eq_getElem_cons h
 have h0:=List.drop_eq_getElem_cons (show j<xs.length by omega)
 refine ⟨xs.drop (j+1+1),?_,?_⟩
 ·rw [h0,h1]
  simp [List.getD,List.getElem?_eq_getElem h,List.getElem?_eq_getElem (show j<xs.length by omega)]
 ·rw [h1]
  simp [List.getD,List.getElem?_eq_getElem h]
theorem once_eq {xs:List I3} {j:Nat} (h:j+1<xs.length) (he:xs.getD (j+1) (0,0,0)=xs.getD j (0,0,0)):onceB (xs.drop j)=onceB (xs.drop (j+1)):=by
 obtain ⟨r,h1,h2⟩:=drop_two h
 rw [h1,h2,he]
 show onceB (_::_::r)=_
 rw [onceB,if_pos rfl]
theorem once_ne {xs:List I3} {j:Nat} (h:j+1<xs.length) (he:xs.getD (j+1) (0,0,0)≠xs.getD j (0,0,0)):onceB (xs.drop j)=xs.getD j (0,0,0)::onceB (xs.drop (j+1)):=by
 obtain ⟨r,h1,h2⟩:=drop_two h
 rw [h1,h2]
 show onceB (_::_::r)=_
 rw [onceB,if_neg (fun e=>he e.symm)]
theorem take_snocB {xs:List I3} {j:Nat} (h:j<xs.length):xs.take (j+1)=xs.take j++[xs.getD j (0,0,0)]:=by
 rw [List.take_add_one,List.getElem?_eq_getElem h]
 simp [List.getD,List.getElem?_eq_getElem h]
theorem once_tail {xs:List I3} {j:Nat} (h:j<xs.length):onceB (xs.drop j)=xs.getD j (0,0,0)::(onceB (xs.drop j)).tail:=by
 have h0:=List.drop_eq_getElem_cons h
 obtain ⟨t,ht⟩:=onceB_head xs[j] (xs.drop (j+1))
 rw [h0,ht]
 simp [List.getD,List.getElem?_eq_getElem h]
theorem ne_three {x y:I3} (h:x≠y):x.1≠y.1∨(x.1=y.1∧x.2.1≠y.2.1)∨(x.1=y.1∧x.2.1=y.2.1∧x.2.2≠y.2.2):=by
 obtain ⟨x0,x1,x2⟩:=x
 obtain ⟨y0,y1,y2⟩:=y
 by_cases q0:x0=y0
 ·by_cases q1:x1=y1
  ·refine .inr (.inr ⟨q0,q1,fun q2=>h ?_⟩)
   simp only at q2
   rw [q0,q1,q2]
  ·exact .inr (.inl ⟨q0,q1⟩)
 ·exact .inl q0
theorem own_at3 {w:World} {B g n cap:Nat} {ys:List I3} (h:w.ownsRow B 64 3 (.slice (some ⟨g,0,none⟩) n cap) n (flat ys)) (hl:ys.length=n) {t:Nat} (ht:t<n) :
  w.cell? ⟨g,t*3,none⟩=some (.int .i64 (ys.getD t (0,0,0)).1)∧w.cell? ⟨g,t*3+1,none⟩=some (.int .i64 (ys.getD t (0,0,0)).2.1)∧w.cell? ⟨g,t*3+2,none⟩=some (.int .i64 (ys.getD t (0,0,0)).2.2):=by
 obtain ⟨f0,f1,f2⟩:=flat_at (xs:=ys) (t:=t) (by omega)
 exact ⟨by rw [h.cellAt (t*3) (by omega)];exact f0,by rw [h.cellAt (t*3+1) (by omega)];exact f1,by rw [h.cellAt (t*3+2) (by omega)];exact f2⟩

theorem compact_few (a:Option Addr) (n cap:Nat) (w:World) (hn:n<2):Calls Tryz.prog 152 #[.slice a n cap] w fun e w'=>e=.returned (.slice a n cap)∧w=w':=by
 have h:(n:Int)<2:=by omega
 go_enter Tryz.func152,Tryz.ntmps152
 go_wp2
 go_ret
 exact ⟨rfl,rfl⟩

def Compacted (e:Ending) (w w':World) (B g cap:Nat) (zs:List I3):Prop:=∃ m,e=.returned (.slice (some ⟨g,0,none⟩) m cap)∧w'.ownsRow B 64 3 (.slice (some ⟨g,0,none⟩) m cap) zs.length (flat zs)∧w.grownBy w' (some g)
theorem compact_is (B g n cap:Nat) (xs:List I3) (w:World) (hq:w.ownsRow B 64 3 (.slice (some ⟨g,0,none⟩) n cap) n (flat xs)) (hl:xs.length=n) (hn:n≤1000000) (h2:2≤n) :
  Calls Tryz.prog 152 #[.slice (some ⟨g,0,none⟩) n cap] w fun e w'=>Compacted e w w' B g cap (onceB xs):=by
 have hcap:n≤cap∧cap≤maxLen:=by
  rcases hq.2 with ⟨hv,_⟩ | ⟨g',cap',cur,hv,hB,hg,hn,hc,hsz,ht⟩
  ·cases hv
  ·cases hv
   exact ⟨hn,hc⟩
 unfold maxLen at hcap
 have h2i:¬ ((n:Int)<2):=by omega
 have HO0:Hid (onceB xs=xs.take 0++onceB (xs.drop 0)):=by rw [Hid];simp
 go_enter Tryz.func152,Tryz.ntmps152
 go_wp2_with fail
 go_loopw [3] (fun si wr=>∃ j d:Nat,j+1≤n∧si=.int .i64 ((j:Int)+1)∧Hid (onceB xs=xs.take j++onceB (xs.drop j))∧wr=w.drewN d) (fun si _=>n - (intOf si).toNat)
 case atStart=>exact ⟨0,0,by omega,rfl,HO0,rfl⟩
 case round =>
  clear HO0
  obtain ⟨j,d,hj,rfl,HO,rfl⟩:=hrel
  have hqd:(w.drewN d).ownsRow B 64 3 (.slice (some ⟨g,0,none⟩) n cap) n (flat xs):=hq
  have gwd:w.grownBy (w.drewN d) (some g):=⟨rfl,rfl,rfl,Nat.le_refl _,fun _ _ _=>rfl⟩
  by_cases hlt:j+1<n
  ·have hlti:(j:Int)+1<(n:Int):=by omega
   have hj1:(0:Int)≤(j:Int)+1:=by omega
   have hj0:(0:Int)≤(j:Int):=by omega
   have hji:(j:Int)<(n:Int):=by omega
   have hwj:IntKind.i64.wrap ((j:Int)+1 - 1)=(j:Int):=by rw [IntWalk.i64_in _ ⟨by omega,by omega⟩];omega
   have hwj2:IntKind.i64.wrap (j:Int)=(j:Int):=IntWalk.i64_in _ ⟨by omega,by omega⟩
   obtain ⟨d0,d1,d2⟩:=own_at3 hq hl (show j+1<n by omega)
   obtain ⟨e0,e1,e2⟩:=own_at3 hq hl (show j<n by omega)
   by_cases hE:xs.getD (j+1) (0,0,0)=xs.getD j (0,0,0)
   ·have HI:Hid (onceB xs=xs.take (j+1)++(onceB (xs.drop (j+1+0))).tail):=by
     rw [Hid,HO.out,once_eq (by omega) hE,Nat.add_zero]
     have h9:=once_tail (xs:=xs) (j:=j+1) (by omega)
     rw [take_snocB (by omega),List.append_assoc,← hE]
     exact congrArg (xs.take j++·) h9
    have hql:(xs.take (j+1)++xs.drop (j+1))=xs:=List.take_append_drop _ _
    rw [hE] at d0 d1 d2
    clear HO hE
    generalize xs.getD j (0,0,0)=y at *
    obtain ⟨y0,y1,y2⟩:=y
    simp only at d0 d1 d2 e0 e1 e2
    have hy0:(y0 == y0)=true:=by simp
    have hy1:(y1 == y1)=true:=by simp
    have hy2:(y2 == y2)=true:=by simp
    have rS:∀ W,(Instr.slice 34 (.slice (some ⟨g,0,none⟩) n cap) (some (.int .i64 ((j:Int)+1))) none none).run Tryz.prog W=.ok (.slice (some ⟨g,(j+1)*3,none⟩) (n - (j+1)) (cap - (j+1))) W:=by
     intro W
     have h8:(j:Int)+1≤(n:Int):=by omega
     have h7:¬ (cap - (j+1)=0):=by omega
     have h6:((j:Int)+1).toNat=j+1:=by omega
     go_simp
     omega
    have QD:(w.drewN d).ownsRow B 64 3 (.slice (some ⟨g,0,none⟩) n cap) n (flat (xs.take (j+1)++xs.drop (j+1))):=by rw [hql];exact hqd
    go_wp2_with fail
    go_quiet (fail)
    go_wp2_with fail
    clear hqd d0 d1 d2 e0 e1 e2 hy0 hy1 hy2 rS
    go_loopw [3,5] (fun sk si wr=>∃ (i m:Nat) (done:List I3),i+1≤n - (j+1)∧si=.int .i64 ((i:Int)+1)∧sk=.int .i64 (m:Int)∧done.length=m∧m≤j+1+i∧Hid (onceB xs=done++(onceB (xs.drop (j+1+i))).tail)∧wr.ownsRow B 64 3 (.slice (some ⟨g,0,none⟩) n cap) n (flat (done++xs.drop m))∧w.grownBy wr (some g)) (fun _ si _=>n - (intOf si).toNat)
    case atStart=>exact ⟨0,j+1,xs.take (j+1),by omega,rfl,rfl,by rw [List.length_take];omega,by omega,HI,QD,⟨gwd.os,gwd.tape,gwd.output,gwd.size,gwd.block⟩⟩
    case round =>
     clear QD gwd HI hq
     obtain ⟨i,m,done,hi,rfl,rfl,hdl,hmi,HO,hq,gw⟩:=hrel
     have hlen:(done++xs.drop m).length=n:=by rw [List.length_append,List.length_drop];omega
     have hat:∀ t,m≤t→(done++xs.drop m).getD t (0,0,0)=xs.getD t (0,0,0):=fun t ht=>by
      simp only [List.getD,List.getElem?_append_right (show done.length≤t by omega),List.getElem?_drop]
      rw [show m+(t - done.length)=t by omega]
     by_cases hin:i+1<n - (j+1)
     ·obtain ⟨d0,d1,d2⟩:=own_at3 hq hlen (show j+1+i+1<n by omega)
      obtain ⟨e0,e1,e2⟩:=own_at3 hq hlen (show j+1+i<n by omega)
      obtain ⟨f0,f1,f2⟩:=own_at3 hq hlen (show m<n by omega)
      have z0:=hq.frozenAt (m*3)
      have z1:=hq.frozenAt (m*3+1)
      have z2:=hq.frozenAt (m*3+2)
      rw [hat _ (by omega),show (j+1+i+1)*3=(j+1)*3+(i+1)*3 by omega] at d0 d1 d2
      rw [hat _ (by omega),show (j+1+i)*3=(j+1)*3+i*3 by omega] at e0 e1 e2
      have hini:(i:Int)+1<((n - (j+1):Nat):Int):=by omega
      have hi1:(0:Int)≤(i:Int)+1:=by omega
      have hi0:(0:Int)≤(i:Int):=by omega
      have hii:(i:Int)<((n - (j+1):Nat):Int):=by omega
      have hwi:IntKind.i64.wrap (i:Int)=(i:Int):=IntWalk.i64_in _ ⟨by omega,by omega⟩
      have hmn:(m:Int)<(n:Int):=by omega
      have hm0:(0:Int)≤(m:Int):=by omega
      by_cases hE:xs.getD (j+1+i+1) (0,0,0)=xs.getD (j+1+i) (0,0,0)
      ·have HI:Hid (onceB xs=done++(onceB (xs.drop (j+1+(i+1)))).tail):=by
        rw [Hid,HO.out,once_eq (by omega) hE]
        rfl
       rw [hE] at d0 d1 d2
       clear HO hE hat
       generalize xs.getD (j+1+i) (0,0,0)=y at *
       generalize (done++xs.drop m).getD m (0,0,0)=z at *
       obtain ⟨y0,y1,y2⟩:=y
       simp only at d0 d1 d2 e0 e1 e2
       have hy0:(y0 == y0)=true:=by simp
       have hy1:(y1 == y1)=true:=by simp
       have hy2:(y2 == y2)=true:=by simp
       have hnn:n - (j+1)≤n:=by omega
       have hjn:i+1+1≤n - (j+1):=by omega
       generalize n - (j+1)=nn at *
       go_wp2_with fail
       go_quiet (fail)
       go_wp2
       go_roundw
       case rel=>exact ⟨i+1,m,done,by omega,by go_num,rfl,hdl,by omega,HI,hq,⟨gw.os,gw.tape,gw.output,gw.size,gw.block⟩⟩
       case measure=>simp [intOf];omega
      ·have HI:Hid (onceB xs=(done++[xs.getD (j+1+i+1) (0,0,0)])++(onceB (xs.drop (j+1+(i+1)))).tail):=by
        rw [Hid,HO.out,once_ne (by omega) hE,List.tail_cons,List.append_assoc]
        exact congrArg (done++·) (once_tail (xs:=xs) (j:=j+1+i+1) (by omega))
       have HL:Hid (∀ (W:World),W.ownsRow B 64 3 (.slice (some ⟨g,0,none⟩) n cap) n ((((flat (done++xs.drop m)).set (m*3) (.int .i64 (xs.getD (j+1+i+1) (0,0,0)).1)).set (m*3+1) (.int .i64 (xs.getD (j+1+i+1) (0,0,0)).2.1)).set (m*3+2) (.int .i64 (xs.getD (j+1+i+1) (0,0,0)).2.2))→W.ownsRow B 64 3 (.slice (some ⟨g,0,none⟩) n cap) n (flat ((done++[xs.getD (j+1+i+1) (0,0,0)])++xs.drop (m+1)))):=fun W h=>by
        rw [flat_set3 _ _ _ (by omega)] at h
        have h0:=List.drop_eq_getElem_cons (show m<xs.length by omega)
        have h8:(done++xs.drop m).set m (xs.getD (j+1+i+1) (0,0,0))=(done++[xs.getD (j+1+i+1) (0,0,0)])++xs.drop (m+1):=by
         rw [List.set_append_right _ _ (by omega),show m - done.length=0 by omega,h0,List.set_cons_zero,List.append_assoc]
         rfl
        rw [h8] at h
        exact h
       have h3:=ne_three hE
       clear HO hE hat
       generalize xs.getD (j+1+i+1) (0,0,0)=x at *
       generalize xs.getD (j+1+i) (0,0,0)=y at *
       generalize (done++xs.drop m).getD m (0,0,0)=z at *
       obtain ⟨x0,x1,x2⟩:=x
       obtain ⟨y0,y1,y2⟩:=y
       obtain ⟨u0,u1,u2⟩:=z
       simp only at d0 d1 d2 e0 e1 e2 f0 f1 f2 h3 HL
       have hnn:n - (j+1)≤n:=by omega
       have hjn:i+1+1≤n - (j+1):=by omega
       generalize n - (j+1)=nn at *
       rcases h3 with t0 | ⟨rfl,t1⟩ | ⟨rfl,rfl,t2⟩
       ·have t0':(x0 == y0)=false:=by simp [t0]
        have Q9:=HL.out _ ((((hq.stored (m*3) (.int .i64 x0)).1).stored (m*3+1) (.int .i64 x1)).1.stored (m*3+2) (.int .i64 x2)).1
        have G9:=grownBy_tr (grownBy_tr (grownBy_tr gw (grownBy_set wr g (m*3) (.int .i64 x0))) (grownBy_set _ g (m*3+1) (.int .i64 x1))) (grownBy_set _ g (m*3+2) (.int .i64 x2))
        clear HL hq gw
        go_wp2_with fail
        go_quiet (fail)
        go_wp2
        go_roundw
        case rel=>exact ⟨i+1,m+1,done++[(x0,x1,x2)],by omega,by go_num,by go_num,by simp [hdl],by omega,HI,Q9,⟨G9.os,G9.tape,G9.output,G9.size,G9.block⟩⟩
        case measure=>simp [intOf];omega
       ·have t0':(x0 == x0)=true:=by simp
        have t1':(x1 == y1)=false:=by simp [t1]
        have Q9:=HL.out _ ((((hq.stored (m*3) (.int .i64 x0)).1).stored (m*3+1) (.int .i64 x1)).1.stored (m*3+2) (.int .i64 x2)).1
        have G9:=grownBy_tr (grownBy_tr (grownBy_tr gw (grownBy_set wr g (m*3) (.int .i64 x0))) (grownBy_set _ g (m*3+1) (.int .i64 x1))) (grownBy_set _ g (m*3+2) (.int .i64 x2))
        clear HL hq gw
        go_wp2_with fail
        go_quiet (fail)
        go_wp2
        go_roundw
        case rel=>exact ⟨i+1,m+1,done++[(x0,x1,x2)],by omega,by go_num,by go_num,by simp [hdl],by omega,HI,Q9,⟨G9.os,G9.tape,G9.output,G9.size,G9.block⟩⟩
        case measure=>simp [intOf];omega
       ·have t0':(x0 == x0)=true:=by simp
        have t1':(x1 == x1)=true:=by simp
        have t2':(x2 == y2)=false:=by simp [t2]
        have Q9:=HL.out _ ((((hq.stored (m*3) (.int .i64 x0)).1).stored (m*3+1) (.int .i64 x1)).1.stored (m*3+2) (.int .i64 x2)).1
        have G9:=grownBy_tr (grownBy_tr (grownBy_tr gw (grownBy_set wr g (m*3) (.int .i64 x0))) (grownBy_set _ g (m*3+1) (.int .i64 x1))) (grownBy_set _ g (m*3+2) (.int .i64 x2))
        clear HL hq gw
        go_wp2_with fail
        go_quiet (fail)
        go_wp2
        go_roundw
        case rel=>exact ⟨i+1,m+1,done++[(x0,x1,x2)],by omega,by go_num,by go_num,by simp [hdl],by omega,HI,Q9,⟨G9.os,G9.tape,G9.output,G9.size,G9.block⟩⟩
        case measure=>simp [intOf];omega
     ·have HX:Hid (onceB xs=done):=by
       have h0:=List.drop_eq_getElem_cons (show j+1+i<xs.length by omega)
       have h9:xs.drop (j+1+i+1)=[]:=List.drop_of_length_le (by omega)
       rw [h9] at h0
       rw [Hid,HO.out,h0]
       simp [onceB]
      clear HO hat
      have hnot:¬ ((i:Int)+1<((n - (j+1):Nat):Int)):=by omega
      have hmn:m<n:=by omega
      have rC:∀ W,(Instr.slice 34 (.slice (some ⟨g,0,none⟩) n cap) (some (.int .i64 (m:Int))) none none).run Tryz.prog W=.ok (.slice (some ⟨g,m*3,none⟩) (n - m) (cap - m)) W:=by
       intro W
       have h8:(m:Int)≤(n:Int):=by omega
       have h7:¬ (cap - m=0):=by omega
       go_simp
       omega
      have rH:∀ W,(Instr.slice 34 (.slice (some ⟨g,0,none⟩) n cap) none (some (.int .i64 (m:Int))) none).run Tryz.prog W=.ok (.slice (some ⟨g,0,none⟩) m cap) W:=by
       intro W
       have h8:(m:Int)≤(cap:Int):=by omega
       go_simp
      have hex:∀ k,k<(n - m)*3→(wr.cell? ⟨g,m*3+k,none⟩).isSome=true:=fun k hk=>by
       rw [hq.cellAt (m*3+k) (by omega)]
       have:=hq.1
       rw [List.getElem?_eq_getElem (by omega)]
       rfl
      obtain ⟨vs,hcl⟩:∃ vs,∀ ty,(Builtin.clear_ #[34] ty #[.slice (some ⟨g,m*3,none⟩) (n - m) (cap - m)]).run Tryz.prog wr=.ok (.tuple #[]) (wr.setCells g (m*3) vs):=by
       obtain ⟨vs,h9⟩:=clear_bugs wr 0 g (m*3) (n - m) (cap - m) (by omega) hex (fun k _=>hq.frozenAt _)
       exact ⟨vs,fun ty=>by simpa [Builtin.clear_] using h9⟩
      have hS:=own_shrink hq (show m≤n by omega)
      have hfl:(flat (done++xs.drop m)).take (m*3)=flat done:=by
       rw [flat_append,List.take_append_of_le_length (by rw [flat_length];omega),List.take_of_length_le (by rw [flat_length];omega)]
      rw [hfl] at hS
      have hS2:=own_fars vs (m*3) wr hS (Nat.le_refl _)
      have gw2:=grownBy_tr gw (grown_sets g vs (m*3) wr)
      have HR:Hid (∀ e,e=.returned (.slice (some ⟨g,0,none⟩) m cap)→Compacted e w (wr.setCells g (m*3) vs) B g cap (onceB xs)):=fun e he=>by
       rw [HX.out]
       exact ⟨m,he,by rw [hdl];exact hS2,gw2⟩
      clear hS hS2 hfl hex hq HX gw gw2
      generalize wr.setCells g (m*3) vs=w9 at *
      go_wp2
      go_ret
      exact HR.out _ rfl
   ·have HI:Hid (onceB xs=xs.take (j+1)++onceB (xs.drop (j+1))):=by
     rw [Hid,HO.out,once_ne (by omega) hE,take_snocB (by omega)]
     simp
    have h3:=ne_three hE
    clear HO hE
    generalize xs.getD (j+1) (0,0,0)=x at *
    generalize xs.getD j (0,0,0)=y at *
    obtain ⟨x0,x1,x2⟩:=x
    obtain ⟨y0,y1,y2⟩:=y
    simp only at d0 d1 d2 e0 e1 e2 h3
    rcases h3 with t0 | ⟨rfl,t1⟩ | ⟨rfl,rfl,t2⟩
    ·have t0':(x0 == y0)=false:=by simp [t0]
     go_wp2_with fail
     go_quiet (fail)
     go_wp2
     go_roundw
     case rel=>exact ⟨j+1,d+nq,by omega,by go_num,HI,rfl⟩
     case measure=>simp [intOf];omega
    ·have t0':(x0 == x0)=true:=by simp
     have t1':(x1 == y1)=false:=by simp [t1]
     go_wp2_with fail
     go_quiet (fail)
     go_wp2
     go_roundw
     case rel=>exact ⟨j+1,d+nq,by omega,by go_num,HI,rfl⟩
     case measure=>simp [intOf];omega
    ·have t0':(x0 == x0)=true:=by simp
     have t1':(x1 == x1)=true:=by simp
     have t2':(x2 == y2)=false:=by simp [t2]
     go_wp2_with fail
     go_quiet (fail)
     go_wp2
     go_roundw
     case rel=>exact ⟨j+1,d+nq,by omega,by go_num,HI,rfl⟩
     case measure=>simp [intOf];omega
  ·obtain rfl:n=j+1:=by omega
   have HR:Hid (∀ e,e=.returned (.slice (some ⟨g,0,none⟩) (j+1) cap)→Compacted e w (w.drewN d) B g cap (onceB xs)):=fun e he=>by
    have hx:onceB xs=xs:=by
     rw [HO.out]
     have h0:=List.drop_eq_getElem_cons (show j<xs.length by omega)
     have h9:xs.drop (j+1)=[]:=List.drop_of_length_le (by omega)
     rw [h9] at h0
     have h8:onceB (xs.drop j)=xs.drop j:=by rw [h0];rfl
     rw [h8,List.take_append_drop]
    rw [hx]
    exact ⟨_,he,by rw [hl];exact hqd,gwd⟩
   clear HO hqd
   go_wp2
   go_ret
   exact HR.out _ rfl

open Go.RowKit Go.Sort Go.Shelf

theorem flatK_flat (xs:List I3):(flatK I3.cells 3 xs.toArray).toList=flat xs:=by
 apply List.ext_getElem?
 intro t
 by_cases h:t<xs.length*3
 ·have hq:t / 3<xs.length:=by omega
  have hl:t<(flatK I3.cells 3 xs.toArray).toList.length:=by simp;omega
  have e1:(flatK I3.cells 3 xs.toArray).toList[t]?=some ((I3.cells xs.toArray[t / 3]!)[t % 3]!):=by
   rw [List.getElem?_eq_getElem hl,Array.getElem_toList,← getElem!_pos (flatK I3.cells 3 xs.toArray) t (by simpa using h),get_flatK _ _ _ _ (by simpa using h)]
  rw [e1]
  obtain ⟨f0,f1,f2⟩:=flat_at hq
  have ex:xs.toArray[t / 3]! = xs.getD (t / 3) (0,0,0):=by
   rw [getElem!_pos _ _ (by simpa using hq)]
   simp [List.getD,List.getElem?_eq_getElem hq]
  rw [ex]
  generalize xs.getD (t / 3) (0,0,0)=x at *
  have hr:t % 3=0∨t % 3=1∨t % 3=2:=by omega
  rcases hr with hr | hr | hr
  ·have e:t / 3*3=t:=by omega
   rw [e] at f0
   rw [f0,hr]
   rfl
  ·have e:t / 3*3+1=t:=by omega
   rw [e] at f1
   rw [f1,hr]
   rfl
  ·have e:t / 3*3+2=t:=by omega
   rw [e] at f2
   rw [f2,hr]
   rfl
 ·rw [List.getElem?_eq_none (by simp;omega),List.getElem?_eq_none (by rw [flat_length];omega)]
theorem holds_own {w:World} {B g n cap:Nat} {xs:List I3} (h:w.ownsRow B 64 3 (.slice (some ⟨g,0,none⟩) n cap) n (flat xs)) (hl:xs.length=n):HoldsK I3.cells 3 w g 0 xs.toArray:=by
 intro t ht
 rw [size_flatK] at ht
 have ht':t<n*3:=by simpa [hl] using ht
 refine ⟨?_,by rw [Nat.zero_add];exact h.frozenAt t⟩
 rw [Nat.zero_add,h.cellAt t ht',← flatK_flat,getElem!_pos _ _ (by rw [size_flatK];exact ht)]
 simp [ht]
theorem sort_owns {w:World} {B g n cap m:Nat} {xs ys:List I3} {os:Array Obj} (h:w.ownsRow B 64 3 (.slice (some ⟨g,0,none⟩) n cap) n (flat xs)) (hx:xs.length=n) (hy:ys.length=n) :
  (sortWorldK I3.cells 3 w g 0 m ys.toArray os).ownsRow B 64 3 (.slice (some ⟨g,0,none⟩) n cap) n (flat ys)∧w.grownBy (sortWorldK I3.cells 3 w g 0 m ys.toArray os) (some g):=by
 rcases h.2 with ⟨hv,_⟩ | ⟨g',cap',cur,hv,hB,hg,hn,hc,hsz,ht⟩
 ·cases hv
 cases hv
 have hgl:g<w.heap.size:=(Array.getElem?_eq_some_iff.1 hg).1
 refine ⟨⟨by rw [flat_length];omega,.inr ⟨g,cap,putCells id 0 (flatK I3.cells 3 ys.toArray) cur,rfl,hB,?_,hn,hc,?_,?_⟩⟩,⟨rfl,rfl,rfl,?_,?_⟩⟩
 ·show (((Sort.ahead w m).heap.modify g _)++os)[g]?=_
  rw [Array.getElem?_append_left (by simpa [Sort.ahead] using hgl),Array.getElem?_modify]
  simp [Sort.ahead,hg,onCells]
 ·simpa [putCells] using hsz
 ·have hfk:=flatK_flat ys
  have hfs:(flatK I3.cells 3 ys.toArray).size=n*3:=by simp [hy]
  apply List.ext_getElem?
  intro t
  by_cases h3:t<n*3
  ·rw [List.getElem?_take_of_lt h3,← hfk]
   have hcz:t<cur.size:=by rw [hsz];have:=Nat.mul_le_mul_right 3 hn;omega
   simp only [putCells,Array.getElem?_toList,Array.getElem?_mapIdx,Array.getElem?_eq_getElem hcz,Option.map_some]
   rw [if_pos ⟨Nat.zero_le _,by omega⟩,getElem!_pos _ _ (by omega),Array.getElem?_eq_getElem (by omega)]
   simp
  ·rw [List.getElem?_eq_none (by rw [List.length_take];omega),List.getElem?_eq_none (by rw [flat_length];omega)]
 ·show w.heap.size≤(((Sort.ahead w m).heap.modify g _)++os).size
  simp [Sort.ahead]
 ·intro k hk hne
  show (((Sort.ahead w m).heap.modify g _)++os)[k]?=_
  rw [Array.getElem?_append_left (by simpa [Sort.ahead] using hk),Array.getElem?_modify]
  have:g≠k:=fun e=>hne (by rw [e])
  simp [Sort.ahead,this]

def srtB (l:List I3):List I3:=l.mergeSort fun x y=>!(ltOf cmpB) y x
theorem srtB_len (l:List I3):(srtB l).length=l.length:=by unfold srtB;simp
theorem srtB_mem {l:List I3} {x:I3}:x ∈ srtB l↔x ∈ l:=by unfold srtB;exact (List.mergeSort_perm l _).mem_iff
theorem srtB_pair (l:List I3):(srtB l).Pairwise fun a b=>ltB b a=false:=by
 have h:=List.pairwise_mergeSort (le:=fun x y=>!(ltOf cmpB) y x) (fun a b c h1 h2=>by
  simp only [Bool.not_eq_true',cmpB_lt] at *
  cases k:ltB c a
  ·rfl
  ·cases k2:ltB c b
   ·cases k3:ltB b c
    ·have:=ltB_total k2 k3
     subst this
     rw [h1] at k
     cases k
    ·have:=ltB_trans k3 k
     rw [this] at h1
     cases h1
   ·rw [k2] at h2
    cases h2) (fun a b=>by
  simp only [cmpB_lt,Bool.or_eq_true,Bool.not_eq_true']
  cases k:ltB b a
  ·exact .inl rfl
  ·exact .inr (ltB_asymm k)) l
 exact h.imp fun {a b} h=>by simpa [cmpB_lt] using h
theorem srtB_once (xs ys:List I3):onceB (srtB (xs++ys))=mergeB xs ys:=once_merge (srtB_pair _) fun x=>by rw [srtB_mem,List.mem_append]
theorem once_short:∀ {l:List I3},l.length<2→onceB l=l
 | [],_=>rfl
 | [x],_=>rfl
 | x::y::l,h=>by simp at h;omega

theorem isAggB:∀ w,(isAgg 64).run Tryz.prog w=.ok true w:=Tryz.isAgg64
theorem sizeOfB:∀ w,(Go.sizeOf 64).run Tryz.prog w=.ok 3 w:=Tryz.sizeOf64
theorem compare_lays (blk off size:Nat) (w:World):CmpLays Tryz.prog 151 #[] I3.cells 3 cmpB blk off size w:=fun _ _ _ _ x y=>compareBugs_is x y _
theorem sortFunc_is (B g n cap:Nat) (xs:List I3) (w:World) (h:w.ownsRow B 64 3 (.slice (some ⟨g,0,none⟩) n cap) n (flat xs)) (hl:xs.length=n) (hn:n≤1000000) :
  Calls Tryz.prog 150 #[.slice (some ⟨g,0,none⟩) n cap,.func (.func 151) #[] #[]] w fun e w'=>e=.returned (.tuple #[])∧w'.ownsRow B 64 3 (.slice (some ⟨g,0,none⟩) n cap) n (flat (srtB xs))∧w.grownBy w' (some g):=by
 have eg:∀ args w,(callFunc 151 args).run Tryz.prog w=.ok (.enter 151 args) w:=enters_of Tryz.func151 (by kernel_rfl) rfl
 have k:=AnyQ.slices_SortFunc_total sortBug 3 isAggB sizeOfB I3.cells (fun _=>rfl) (fun x v hv=>by unfold I3.cells at hv;simp at hv;rcases hv with rfl | rfl | rfl<;>rfl) cmpB cmpB_swo 151 #[] g 0 cap xs.toArray w eg (compare_lays g 0 _ w) (holds_own h hl) ((h.lt g rfl).2) (by simp;omega) cmpB_total
 have e:xs.toArray.size=n:=by simpa using hl
 rw [e] at k
 refine Calls.mono k ?_
 rintro e' w' ⟨rfl,m,os,rfl⟩
 exact ⟨rfl,sort_owns (ys:=srtB xs) h hl (by rw [srtB_len];exact hl)⟩
theorem sortFunc_none (a:Option Addr) (cap:Nat) (w:World) :
  Calls Tryz.prog 150 #[.slice a 0 cap,.func (.func 151) #[] #[]] w fun e w'=>e=.returned (.tuple #[])∧w=w':=by
 have k:=AnyF.slices_SortFunc_none sortBug a cap (.func (.func 151) #[] #[]) w
 refine Calls.mono k ?_
 rintro e' w' ⟨rfl,rfl⟩
 exact ⟨rfl,rfl⟩

def GoodS (a:Option Addr) (c:Nat):Prop:=(a=none→c=0)∧∀ x,a=some x→x.spot=none
theorem mergedBugs_is (a0:Option Addr) (n0 c0:Nat) (xs:List I3) (a1:Option Addr) (n1 c1:Nat) (ys:List I3) (w:World) (h0:Instrs w a0 n0 c0 xs) (h1:Instrs w a1 n1 c1 ys) (m0:n0≤400000) (m1:n1≤400000) (z0:GoodS a0 c0) (z1:GoodS a1 c1) :
  Calls Tryz.prog 95 #[.slice a0 n0 c0,.slice a1 n1 c1] w fun e w'=>BugsOne e w' w.heap.size (mergeB xs ys)∧Below w.heap.size w w':=by
 have l0:=h0.1
 have l1:=h1.1
 have bw:Below w.heap.size w (w.alloc (.cells #[.slice a0 n0 c0,.slice a1 n1 c1] 34)):=by go_grown
 have d0:(w.alloc (.cells #[.slice a0 n0 c0,.slice a1 n1 c1] 34)).cell? ⟨w.heap.size,0,none⟩=some (.slice a0 n0 c0):=by simp [go_sem]
 have d1:(w.alloc (.cells #[.slice a0 n0 c0,.slice a1 n1 c1] 34)).cell? ⟨w.heap.size,1,none⟩=some (.slice a1 n1 c1):=by simp [go_sem]
 go_enter Tryz.func95,Tryz.ntmps95
 go_wp2_with fail
 generalize w.alloc (.cells #[.slice a0 n0 c0,.slice a1 n1 c1] 34)=W at *
 refine (concat_is w.heap.size a0 n0 c0 xs a1 n1 c1 ys W (h0.below bw) (h1.below bw) m0 m1 z0.1 z1.1 z0.2 z1.2 d0 d1).mono ?_
 rintro e w1 ⟨⟨v,rfl,_,hq⟩,hb1⟩
 have hB:w.heap.size≤W.heap.size:=bw.size
 replace bw:=bel_trans bw hb1
 have hln:(xs++ys).length=n0+n1:=by rw [List.length_append];omega
 have HM:Hid (onceB (srtB (xs++ys))=mergeB xs ys):=srtB_once xs ys
 clear d0 d1 h0 h1 z0 z1 hb1
 generalize xs++ys=zs at *
 by_cases hz:n0+n1=0
 ·obtain ⟨a,c,rfl⟩:∃ a c,v=.slice a 0 c:=by
   rcases hq.2 with ⟨rfl,h9⟩ | ⟨g,cap,cur,hv,_⟩
   ·exact ⟨_,_,rfl⟩
   ·exact ⟨_,_,by rw [hv,hz]⟩
  have hzs:zs=[]:=List.length_eq_zero_iff.1 (by omega)
  have HR:Hid (∀ e,e=.returned (.slice a 0 c)→BugsOne e w1 w.heap.size (mergeB xs ys)):=fun e he=>by
   rw [← HM.out,hzs]
   refine ⟨_,he,?_⟩
   have e9:onceB (srtB [])=[]:=by simp [srtB,onceB]
   rw [e9]
   rw [hz,hzs] at hq
   exact own_lowerB hq hB
  clear hq HM
  go_wp2_with fail
  refine (sortFunc_none a c _).mono ?_
  rintro e w2 ⟨rfl,rfl⟩
  go_wp2_with fail
  refine (compact_few a 0 c _ (by omega)).mono ?_
  rintro e w2 ⟨rfl,rfl⟩
  go_wp2
  go_ret
  exact ⟨HR.out _ rfl,bw⟩
 ·obtain ⟨g,c,rfl⟩:=own_someB hq (by omega)
  have kS:=sortFunc_is _ g (n0+n1) c zs w1 hq hln (by omega)
  have hsl:(srtB zs).length=n0+n1:=by rw [srtB_len];exact hln
  have hnb:n0+n1≤1000000:=by omega
  generalize n0+n1=n at *
  go_wp2_with fail
  refine kS.mono ?_
  rintro e w2 ⟨rfl,hq2,g2⟩
  have hg:=(hq.lt g rfl).1
  replace bw:=bw.grown g2 bw.size (fun k hk=>by cases hk;omega)
  clear kS hq
  by_cases hn2:n<2
  ·have HR:Hid (∀ e,e=.returned (.slice (some ⟨g,0,none⟩) n c)→BugsOne e w2 w.heap.size (mergeB xs ys)):=fun e he=>by
    rw [← HM.out,once_short (by omega)]
    exact ⟨_,he,by rw [hsl];exact own_lowerB hq2 hB⟩
   clear hq2 HM g2
   go_wp2_with fail
   refine (compact_few _ n c _ (by omega)).mono ?_
   rintro e w3 ⟨rfl,rfl⟩
   go_wp2
   go_ret
   exact ⟨HR.out _ rfl,bw⟩
  ·have kC:=compact_is _ g n c (srtB zs) w2 hq2 hsl (by omega) (by omega)
   clear hq2 g2
   go_wp2_with fail
   refine kC.mono ?_
   rintro e w3 ⟨m,rfl,hq3,g3⟩
   clear kC
   have bw3:=bw.grown g3 bw.size (fun k hk=>by cases hk;omega)
   have HR:Hid (∀ e,e=.returned (.slice (some ⟨g,0,none⟩) m c)→BugsOne e w3 w.heap.size (mergeB xs ys)):=fun e he=>by
    rw [← HM.out]
    exact ⟨_,he,own_lowerB hq3 hB⟩
   clear hq3 g3 HM bw
   go_wp2
   go_ret
   exact ⟨HR.out _ rfl,bw3⟩

end Go.Proofs.YtifoggpohlegmaaGreatDoor
