/-
  Joined: CptB.
-/
import Derived.Shelf.Abstract
import Derived.Deep.RegionLaw
import Derived.Laws.OwnMore
import Derived.Maps.AppendAt
import Derived.Deep.Cut
import Derived.Lib.SliceRun
import Derived.Test.YtgmhhegckcionaaGreatDoorF19

namespace Go.Proofs.YtgmhhegckcionaaGreatDoor
set_option maxRecDepth 100000
set_option maxHeartbeats 16000000
open Go.RowKit
set_option linter.unusedVariables false
set_option linter.unusedSimpArgs false

theorem Dy:∀ w,(zeroValue 103).run Tryz.prog w=.ok (.agg #[.int .i64 0,.int .i64 0,.int .i64 0]) w:=Tryz.zeroValue103
theorem L6 (w:World) (ty:TypeId) (b o n c:Nat) (hn:0<n)
  (hc:∀ j,j<n*3→(w.cell? ⟨b,o+j,none⟩).isSome=true) (hf:∀ j,j<n*3→w.frozen? ⟨b,o+j,none⟩=false) :
  ∃ vs,(Builtin.clear_ #[28] ty #[.slice (some ⟨b,o,none⟩) n c]).run Tryz.prog w=.ok (.tuple #[]) (w.setCells b o vs):=by
 have hlen:(Builtin.zeroCells (Value.agg #[.int .i64 0,.int .i64 0,.int .i64 0]).cells n).toList.length=n*3:=by rw [Array.length_toList,size_zeroCells];rfl
 have hone:∀ v ∈ (Builtin.zeroCells (Value.agg #[.int .i64 0,.int .i64 0,.int .i64 0]).cells n).toList,v.oneCell'=true:=by
  intro v hv
  obtain ⟨i,hi,rfl⟩:=List.getElem_of_mem hv
  rw [hlen] at hi
  simp [Builtin.zeroCells]
  have h3:i % 3=0∨i % 3=1∨i % 3=2:=by omega
  rcases h3 with h3 | h3 | h3<;>simp [Value.cells,h3,Value.oneCell']
 have hst:=run_storeCells_cells (P:=Tryz.prog) b o _ 0 w (by rw [hlen];exact hc) (by rw [hlen];exact hf) hone
 simp only [Nat.add_zero] at hst
 obtain ⟨m,rfl⟩:∃ m,n=m+1:=⟨n - 1,by omega⟩
 refine ⟨(Builtin.zeroCells (Value.agg #[.int .i64 0,.int .i64 0,.int .i64 0]).cells (m+1)).toList,?_⟩
 simp [Builtin.clear_,run_underlying Tryz.underlying28,Dy,hst]

theorem KF {w:World} {B e s g n m cap:Nat} {cs:List Value} (h:w.ownsRow B e s (.slice (some ⟨g,0,none⟩) n cap) n cs) (hm:m≤n):w.ownsRow B e s (.slice (some ⟨g,0,none⟩) m cap) m (cs.take (m*s)):=by
 have hl:=h.1
 have hms:m*s≤n*s:=Nat.mul_le_mul_right _ hm
 refine ⟨by rw [List.length_take];omega,?_⟩
 rcases h.2 with ⟨hv,_⟩ | ⟨g',cap',cur,hv,hB,hg,hn,hc,hsz,ht⟩
 ·cases hv
 cases hv
 refine .inr ⟨g,cap,cur,rfl,hB,hg,by omega,hc,hsz,?_⟩
 rw [← ht,List.take_take,Nat.min_eq_left hms]
theorem D7 {w:World} {B e s g m cap:Nat} {cs:List Value} (h:w.ownsRow B e s (.slice (some ⟨g,0,none⟩) m cap) m cs) {o:Nat} (ho:m*s≤o) (v:Value):(w.setCell ⟨g,o,none⟩ v).ownsRow B e s (.slice (some ⟨g,0,none⟩) m cap) m cs:=by
 refine ⟨h.1,?_⟩
 rcases h.2 with ⟨hv,_⟩ | ⟨g',cap',cur,hv,hB,hg,hn,hc,hsz,ht⟩
 ·cases hv
 cases hv
 refine .inr ⟨g,cap,cur.setIfInBounds o v,rfl,hB,?_,hn,hc,by simpa using hsz,?_⟩
 ·simp [World.setCell,Array.getElem?_modify,hg]
 rw [← ht,Array.toList_setIfInBounds,List.take_set_of_le ho]
theorem Lj {B e s g m cap:Nat} {cs:List Value}:∀ (vs:List Value) (o:Nat) (w:World),w.ownsRow B e s (.slice (some ⟨g,0,none⟩) m cap) m cs→m*s≤o→(w.setCells g o vs).ownsRow B e s (.slice (some ⟨g,0,none⟩) m cap) m cs
 | [],_,_,h,_=>h
 | v::r,o,w,h,ho=>Lj r (o+1) _ (D7 h ho v) (by omega)
theorem Qx (g:Nat):∀ (vs:List Value) (o:Nat) (w:World),w.grownBy (w.setCells g o vs) (some g)
 | [],_,w=>World.grownBy.refl _ _
 | v::r,o,w=>ZE (Zh w g o v) (Qx g r (o+1) _)
theorem PP:∀ (ys:List I3) (m:Nat) (q:I3),m<ys.length→(((Zn ys).set (m*3) (.int .i64 q.1)).set (m*3+1) (.int .i64 q.2.1)).set (m*3+2) (.int .i64 q.2.2)=Zn (ys.set m q)
 | [],m,q,h=>by simp at h
 | y::ys,0,q,h=>by simp [Zn,I3.cells]
 | y::ys,m+1,q,h=>by
  have ih:=PP ys m q (by simpa using h)
  have e:Zn (y::ys)=[.int .i64 y.1,.int .i64 y.2.1,.int .i64 y.2.2]++Zn ys:=by simp [Zn,I3.cells]
  rw [e,show (m+1)*3=3+m*3 by omega,List.set_append_right _ _ (by simp only [List.length_cons,List.length_nil];omega),List.set_append_right _ _ (by simp only [List.length_cons,List.length_nil];omega),List.set_append_right _ _ (by simp only [List.length_cons,List.length_nil];omega)]
  simp only [List.length_cons,List.length_nil,Nat.zero_add,Nat.reduceAdd,show 3+m*3 - 3=m*3 by omega,show 3+m*3+1 - 3=m*3+1 by omega,show 3+m*3+2 - 3=m*3+2 by omega]
  rw [ih]
  simp [Zn,I3.cells]
theorem MD {xs:List I3} {j:Nat} (h:j+1<xs.length):∃ r,xs.drop j=xs.getD j (0,0,0)::xs.getD (j+1) (0,0,0)::r∧xs.drop (j+1)=xs.getD (j+1) (0,0,0)::r:=by
 have h1:=List.drop_eq_getElem_cons h
 have h0:=List.drop_eq_getElem_cons (show j<xs.length by omega)
 refine ⟨xs.drop (j+1+1),?_,?_⟩
 ·rw [h0,h1]
  simp [List.getD,List.getElem?_eq_getElem h,List.getElem?_eq_getElem (show j<xs.length by omega)]
 rw [h1]
 simp [List.getD,List.getElem?_eq_getElem h]
theorem Jn {xs:List I3} {j:Nat} (h:j+1<xs.length) (he:xs.getD (j+1) (0,0,0)=xs.getD j (0,0,0)):ZZ (xs.drop j)=ZZ (xs.drop (j+1)):=by
 obtain ⟨r,h1,h2⟩:=MD h
 rw [h1,h2,he]
 show ZZ (_::_::r)=_
 rw [ZZ,if_pos rfl]
theorem Jo {xs:List I3} {j:Nat} (h:j+1<xs.length) (he:xs.getD (j+1) (0,0,0)≠xs.getD j (0,0,0)):ZZ (xs.drop j)=xs.getD j (0,0,0)::ZZ (xs.drop (j+1)):=by
 obtain ⟨r,h1,h2⟩:=MD h
 rw [h1,h2]
 show ZZ (_::_::r)=_
 rw [ZZ,if_neg (fun e=>he e.symm)]
theorem Pc {xs:List I3} {j:Nat} (h:j<xs.length):xs.take (j+1)=xs.take j++[xs.getD j (0,0,0)]:=by
 rw [List.take_add_one,List.getElem?_eq_getElem h]
 simp [List.getD,List.getElem?_eq_getElem h]
theorem Nn {xs:List I3} {j:Nat} (h:j<xs.length):ZZ (xs.drop j)=xs.getD j (0,0,0)::(ZZ (xs.drop j)).tail:=by
 have h0:=List.drop_eq_getElem_cons h
 obtain ⟨t,ht⟩:=QR xs[j] (xs.drop (j+1))
 rw [h0,ht]
 simp [List.getD,List.getElem?_eq_getElem h]
theorem Lf {x y:I3} (h:x≠y):x.1≠y.1∨(x.1=y.1∧x.2.1≠y.2.1)∨(x.1=y.1∧x.2.1=y.2.1∧x.2.2≠y.2.2):=by
 obtain ⟨x0,x1,x2⟩:=x
 obtain ⟨y0,y1,y2⟩:=y
 by_cases q0:x0=y0
 ·by_cases q1:x1=y1
  ·refine .inr (.inr ⟨q0,q1,fun q2=>h ?_⟩)
   simp only at q2
   rw [q0,q1,q2]
  exact .inr (.inl ⟨q0,q1⟩)
 exact .inl q0
theorem SP {w:World} {B g n cap:Nat} {ys:List I3} (h:w.ownsRow B 103 3 (.slice (some ⟨g,0,none⟩) n cap) n (Zn ys)) (hl:ys.length=n) {t:Nat} (ht:t<n) :
  w.cell? ⟨g,t*3,none⟩=some (.int .i64 (ys.getD t (0,0,0)).1)∧w.cell? ⟨g,t*3+1,none⟩=some (.int .i64 (ys.getD t (0,0,0)).2.1)∧w.cell? ⟨g,t*3+2,none⟩=some (.int .i64 (ys.getD t (0,0,0)).2.2):=by
 obtain ⟨f0,f1,f2⟩:=NZ (xs:=ys) (t:=t) (by omega)
 exact ⟨by rw [h.cellAt (t*3) (by omega)];exact f0,by rw [h.cellAt (t*3+1) (by omega)];exact f1,by rw [h.cellAt (t*3+2) (by omega)];exact f2⟩

theorem RA (a:Option Addr) (n cap:Nat) (w:World) (hn:n<2):Calls Tryz.prog 129 #[.slice a n cap] w fun e w'=>e=.returned (.slice a n cap)∧w=w':=by
 have h:(n:Int)<2:=by omega
 go_enter Tryz.func129,Tryz.ntmps129
 go_wp2
 go_ret
 exact ⟨rfl,rfl⟩

def S7 (e:Ending) (w w':World) (B g cap:Nat) (zs:List I3):Prop:=∃ m,e=.returned (.slice (some ⟨g,0,none⟩) m cap)∧w'.ownsRow B 103 3 (.slice (some ⟨g,0,none⟩) m cap) zs.length (Zn zs)∧w.grownBy w' (some g)
theorem Kb (B g n cap:Nat) (xs:List I3) (w:World) (hq:w.ownsRow B 103 3 (.slice (some ⟨g,0,none⟩) n cap) n (Zn xs)) (hl:xs.length=n) (hn:n≤1000000) (h2:2≤n) :
  Calls Tryz.prog 129 #[.slice (some ⟨g,0,none⟩) n cap] w fun e w'=>S7 e w w' B g cap (ZZ xs):=by
 have hcap:n≤cap∧cap≤maxLen:=by
  rcases hq.2 with ⟨hv,_⟩ | ⟨g',cap',cur,hv,hB,hg,hn,hc,hsz,ht⟩
  ·cases hv
  cases hv
  exact ⟨hn,hc⟩
 unfold maxLen at hcap
 have h2i:¬ ((n:Int)<2):=by omega
 have HO0:Hid (ZZ xs=xs.take 0++ZZ (xs.drop 0)):=by rw [Hid];simp
 go_enter Tryz.func129,Tryz.ntmps129
 go_wp2_with fail
 go_loopw [3] (fun si wr=>∃ j d:Nat,j+1≤n∧si=.int .i64 ((j:Int)+1)∧Hid (ZZ xs=xs.take j++ZZ (xs.drop j))∧wr=w.drewN d) (fun si _=>n - (intOf si).toNat)
 case atStart=>exact ⟨0,0,by omega,rfl,HO0,rfl⟩
 case round =>
  clear HO0
  obtain ⟨j,d,hj,rfl,HO,rfl⟩:=hrel
  have hqd:(w.drewN d).ownsRow B 103 3 (.slice (some ⟨g,0,none⟩) n cap) n (Zn xs):=hq
  have gwd:w.grownBy (w.drewN d) (some g):=⟨rfl,rfl,rfl,Nat.le_refl _,fun _ _ _=>rfl⟩
  by_cases hlt:j+1<n
  ·have hlti:(j:Int)+1<(n:Int):=by omega
   have hj1:(0:Int)≤(j:Int)+1:=by omega
   have hj0:(0:Int)≤(j:Int):=by omega
   have hji:(j:Int)<(n:Int):=by omega
   have hwj:IntKind.i64.wrap ((j:Int)+1 - 1)=(j:Int):=by rw [IntWalk.i64_in _ ⟨by omega,by omega⟩];omega
   have hwj2:IntKind.i64.wrap (j:Int)=(j:Int):=IntWalk.i64_in _ ⟨by omega,by omega⟩
   obtain ⟨d0,d1,d2⟩:=SP hq hl (show j+1<n by omega)
   obtain ⟨e0,e1,e2⟩:=SP hq hl (show j<n by omega)
   by_cases hE:xs.getD (j+1) (0,0,0)=xs.getD j (0,0,0)
   ·have HI:Hid (ZZ xs=xs.take (j+1)++(ZZ (xs.drop (j+1+0))).tail):=by
     rw [Hid,HO.out,Jn (by omega) hE,Nat.add_zero]
     have h9:=Nn (xs:=xs) (j:=j+1) (by omega)
     rw [Pc (by omega),List.append_assoc,← hE]
     exact congrArg (xs.take j++·) h9
    have hql:(xs.take (j+1)++xs.drop (j+1))=xs:=List.take_append_drop _ _
    rw [hE] at d0 d1 d2
    clear HO hE
    generalize xs.getD j (0,0,0)=y at *
    obtain ⟨y0,y1,y2⟩:=y
    simp only at d0 d1 d2 e0 e1 e2
    have hy0:(y0 == y0)=true:=by simp
    have hy1:(y1 == y1)=true:=by simp
    have hy2:(y2 == y2)=true:=by simp
    have rS:∀ W,(Instr.slice 28 (.slice (some ⟨g,0,none⟩) n cap) (some (.int .i64 ((j:Int)+1))) none none).run Tryz.prog W=.ok (.slice (some ⟨g,(j+1)*3,none⟩) (n - (j+1)) (cap - (j+1))) W:=by
     intro W
     have h8:(j:Int)+1≤(n:Int):=by omega
     have h7:¬ (cap - (j+1)=0):=by omega
     have h6:((j:Int)+1).toNat=j+1:=by omega
     go_simp
     omega
    have QD:(w.drewN d).ownsRow B 103 3 (.slice (some ⟨g,0,none⟩) n cap) n (Zn (xs.take (j+1)++xs.drop (j+1))):=by rw [hql];exact hqd
    go_wp2_with fail
    go_quiet (fail)
    go_wp2_with fail
    clear hqd d0 d1 d2 e0 e1 e2 hy0 hy1 hy2 rS
    go_loopw [3,5] (fun sk si wr=>∃ (i m:Nat) (done:List I3),i+1≤n - (j+1)∧si=.int .i64 ((i:Int)+1)∧sk=.int .i64 (m:Int)∧done.length=m∧m≤j+1+i∧Hid (ZZ xs=done++(ZZ (xs.drop (j+1+i))).tail)∧wr.ownsRow B 103 3 (.slice (some ⟨g,0,none⟩) n cap) n (Zn (done++xs.drop m))∧w.grownBy wr (some g)) (fun _ si _=>n - (intOf si).toNat)
    case atStart=>exact ⟨0,j+1,xs.take (j+1),by omega,rfl,rfl,by rw [List.length_take];omega,by omega,HI,QD,⟨gwd.os,gwd.tape,gwd.output,gwd.size,gwd.block⟩⟩
    case round =>
     clear QD gwd HI hq
     obtain ⟨i,m,done,hi,rfl,rfl,hdl,hmi,HO,hq,gw⟩:=hrel
     have hlen:(done++xs.drop m).length=n:=by rw [List.length_append,List.length_drop];omega
     have hat:∀ t,m≤t→(done++xs.drop m).getD t (0,0,0)=xs.getD t (0,0,0):=fun t ht=>by
      simp only [List.getD,List.getElem?_append_right (show done.length≤t by omega),List.getElem?_drop]
      rw [show m+(t - done.length)=t by omega]
     by_cases hin:i+1<n - (j+1)
     ·obtain ⟨d0,d1,d2⟩:=SP hq hlen (show j+1+i+1<n by omega)
      obtain ⟨e0,e1,e2⟩:=SP hq hlen (show j+1+i<n by omega)
      obtain ⟨f0,f1,f2⟩:=SP hq hlen (show m<n by omega)
      have z0:=hq.frozenAt (m*3)
      have z1:=hq.frozenAt (m*3+1)
      have z2:=hq.frozenAt (m*3+2)
      rw [hat _ (by omega),show (j+1+i+1)*3=(j+1)*3+(i+1)*3 by omega] at d0 d1 d2
      rw [hat _ (by omega),show (j+1+i)*3=(j+1)*3+i*3 by omega] at e0 e1 e2
      have hini:(i:Int)+1<((n - (j+1):Nat):Int):=by omega
      have hi1:(0:Int)≤(i:Int)+1:=by omega
      have hi0:(0:Int)≤(i:Int):=by omega
      have hii:(i:Int)<((n - (j+1):Nat):Int):=by omega
      have hwi:IntKind.i64.wrap (i:Int)=(i:Int):=IntWalk.i64_in _ ⟨by omega,by omega⟩
      have hmn:(m:Int)<(n:Int):=by omega
      have hm0:(0:Int)≤(m:Int):=by omega
      by_cases hE:xs.getD (j+1+i+1) (0,0,0)=xs.getD (j+1+i) (0,0,0)
      ·have HI:Hid (ZZ xs=done++(ZZ (xs.drop (j+1+(i+1)))).tail):=by
        rw [Hid,HO.out,Jn (by omega) hE]
        rfl
       rw [hE] at d0 d1 d2
       clear HO hE hat
       generalize xs.getD (j+1+i) (0,0,0)=y at *
       generalize (done++xs.drop m).getD m (0,0,0)=z at *
       obtain ⟨y0,y1,y2⟩:=y
       simp only at d0 d1 d2 e0 e1 e2
       have hy0:(y0 == y0)=true:=by simp
       have hy1:(y1 == y1)=true:=by simp
       have hy2:(y2 == y2)=true:=by simp
       have hnn:n - (j+1)≤n:=by omega
       have hjn:i+1+1≤n - (j+1):=by omega
       generalize n - (j+1)=nn at *
       go_wp2_with fail
       go_quiet (fail)
       go_wp2
       go_roundw
       case rel=>exact ⟨i+1,m,done,by omega,by go_num,rfl,hdl,by omega,HI,hq,⟨gw.os,gw.tape,gw.output,gw.size,gw.block⟩⟩
       case measure=>simp [intOf];omega
      have HI:Hid (ZZ xs=(done++[xs.getD (j+1+i+1) (0,0,0)])++(ZZ (xs.drop (j+1+(i+1)))).tail):=by
       rw [Hid,HO.out,Jo (by omega) hE,List.tail_cons,List.append_assoc]
       exact congrArg (done++·) (Nn (xs:=xs) (j:=j+1+i+1) (by omega))
      have HL:Hid (∀ (W:World),W.ownsRow B 103 3 (.slice (some ⟨g,0,none⟩) n cap) n ((((Zn (done++xs.drop m)).set (m*3) (.int .i64 (xs.getD (j+1+i+1) (0,0,0)).1)).set (m*3+1) (.int .i64 (xs.getD (j+1+i+1) (0,0,0)).2.1)).set (m*3+2) (.int .i64 (xs.getD (j+1+i+1) (0,0,0)).2.2))→W.ownsRow B 103 3 (.slice (some ⟨g,0,none⟩) n cap) n (Zn ((done++[xs.getD (j+1+i+1) (0,0,0)])++xs.drop (m+1)))):=fun W h=>by
       rw [PP _ _ _ (by omega)] at h
       have h0:=List.drop_eq_getElem_cons (show m<xs.length by omega)
       have h8:(done++xs.drop m).set m (xs.getD (j+1+i+1) (0,0,0))=(done++[xs.getD (j+1+i+1) (0,0,0)])++xs.drop (m+1):=by
        rw [List.set_append_right _ _ (by omega),show m - done.length=0 by omega,h0,List.set_cons_zero,List.append_assoc]
        rfl
       rw [h8] at h
       exact h
      have h3:=Lf hE
      clear HO hE hat
      generalize xs.getD (j+1+i+1) (0,0,0)=x at *
      generalize xs.getD (j+1+i) (0,0,0)=y at *
      generalize (done++xs.drop m).getD m (0,0,0)=z at *
      obtain ⟨x0,x1,x2⟩:=x
      obtain ⟨y0,y1,y2⟩:=y
      obtain ⟨u0,u1,u2⟩:=z
      simp only at d0 d1 d2 e0 e1 e2 f0 f1 f2 h3 HL
      have hnn:n - (j+1)≤n:=by omega
      have hjn:i+1+1≤n - (j+1):=by omega
      generalize n - (j+1)=nn at *
      rcases h3 with t0 | ⟨rfl,t1⟩ | ⟨rfl,rfl,t2⟩
      ·have t0':(x0 == y0)=false:=by simp [t0]
       have Q9:=HL.out _ ((((hq.stored (m*3) (.int .i64 x0)).1).stored (m*3+1) (.int .i64 x1)).1.stored (m*3+2) (.int .i64 x2)).1
       have G9:=ZE (ZE (ZE gw (Zh wr g (m*3) (.int .i64 x0))) (Zh _ g (m*3+1) (.int .i64 x1))) (Zh _ g (m*3+2) (.int .i64 x2))
       clear HL hq gw
       go_wp2_with fail
       go_quiet (fail)
       go_wp2
       go_roundw
       case rel=>exact ⟨i+1,m+1,done++[(x0,x1,x2)],by omega,by go_num,by go_num,by simp [hdl],by omega,HI,Q9,⟨G9.os,G9.tape,G9.output,G9.size,G9.block⟩⟩
       case measure=>simp [intOf];omega
      ·have t0':(x0 == x0)=true:=by simp
       have t1':(x1 == y1)=false:=by simp [t1]
       have Q9:=HL.out _ ((((hq.stored (m*3) (.int .i64 x0)).1).stored (m*3+1) (.int .i64 x1)).1.stored (m*3+2) (.int .i64 x2)).1
       have G9:=ZE (ZE (ZE gw (Zh wr g (m*3) (.int .i64 x0))) (Zh _ g (m*3+1) (.int .i64 x1))) (Zh _ g (m*3+2) (.int .i64 x2))
       clear HL hq gw
       go_wp2_with fail
       go_quiet (fail)
       go_wp2
       go_roundw
       case rel=>exact ⟨i+1,m+1,done++[(x0,x1,x2)],by omega,by go_num,by go_num,by simp [hdl],by omega,HI,Q9,⟨G9.os,G9.tape,G9.output,G9.size,G9.block⟩⟩
       case measure=>simp [intOf];omega
      have t0':(x0 == x0)=true:=by simp
      have t1':(x1 == x1)=true:=by simp
      have t2':(x2 == y2)=false:=by simp [t2]
      have Q9:=HL.out _ ((((hq.stored (m*3) (.int .i64 x0)).1).stored (m*3+1) (.int .i64 x1)).1.stored (m*3+2) (.int .i64 x2)).1
      have G9:=ZE (ZE (ZE gw (Zh wr g (m*3) (.int .i64 x0))) (Zh _ g (m*3+1) (.int .i64 x1))) (Zh _ g (m*3+2) (.int .i64 x2))
      clear HL hq gw
      go_wp2_with fail
      go_quiet (fail)
      go_wp2
      go_roundw
      case rel=>exact ⟨i+1,m+1,done++[(x0,x1,x2)],by omega,by go_num,by go_num,by simp [hdl],by omega,HI,Q9,⟨G9.os,G9.tape,G9.output,G9.size,G9.block⟩⟩
      case measure=>simp [intOf];omega
     have HX:Hid (ZZ xs=done):=by
      have h0:=List.drop_eq_getElem_cons (show j+1+i<xs.length by omega)
      have h9:xs.drop (j+1+i+1)=[]:=List.drop_of_length_le (by omega)
      rw [h9] at h0
      rw [Hid,HO.out,h0]
      simp [ZZ]
     clear HO hat
     have hnot:¬ ((i:Int)+1<((n - (j+1):Nat):Int)):=by omega
     have hmn:m<n:=by omega
     have rC:∀ W,(Instr.slice 28 (.slice (some ⟨g,0,none⟩) n cap) (some (.int .i64 (m:Int))) none none).run Tryz.prog W=.ok (.slice (some ⟨g,m*3,none⟩) (n - m) (cap - m)) W:=by
      intro W
      have h8:(m:Int)≤(n:Int):=by omega
      have h7:¬ (cap - m=0):=by omega
      go_simp
      omega
     have rH:∀ W,(Instr.slice 28 (.slice (some ⟨g,0,none⟩) n cap) none (some (.int .i64 (m:Int))) none).run Tryz.prog W=.ok (.slice (some ⟨g,0,none⟩) m cap) W:=by
      intro W
      have h8:(m:Int)≤(cap:Int):=by omega
      go_simp
     have hex:∀ k,k<(n - m)*3→(wr.cell? ⟨g,m*3+k,none⟩).isSome=true:=fun k hk=>by
      rw [hq.cellAt (m*3+k) (by omega)]
      have:=hq.1
      rw [List.getElem?_eq_getElem (by omega)]
      rfl
     obtain ⟨vs,hcl⟩:∃ vs,∀ ty,(Builtin.clear_ #[28] ty #[.slice (some ⟨g,m*3,none⟩) (n - m) (cap - m)]).run Tryz.prog wr=.ok (.tuple #[]) (wr.setCells g (m*3) vs):=by
      obtain ⟨vs,h9⟩:=L6 wr 0 g (m*3) (n - m) (cap - m) (by omega) hex (fun k _=>hq.frozenAt _)
      exact ⟨vs,fun ty=>by simpa [Builtin.clear_] using h9⟩
     have hS:=KF hq (show m≤n by omega)
     have hfl:(Zn (done++xs.drop m)).take (m*3)=Zn done:=by
      rw [Yp,List.take_append_of_le_length (by rw [Zw];omega),List.take_of_length_le (by rw [Zw];omega)]
     rw [hfl] at hS
     have hS2:=Lj vs (m*3) wr hS (Nat.le_refl _)
     have gw2:=ZE gw (Qx g vs (m*3) wr)
     have HR:Hid (∀ e,e=.returned (.slice (some ⟨g,0,none⟩) m cap)→S7 e w (wr.setCells g (m*3) vs) B g cap (ZZ xs)):=fun e he=>by
      rw [HX.out]
      exact ⟨m,he,by rw [hdl];exact hS2,gw2⟩
     clear hS hS2 hfl hex hq HX gw gw2
     generalize wr.setCells g (m*3) vs=w9 at *
     go_wp2
     go_ret
     exact HR.out _ rfl
   have HI:Hid (ZZ xs=xs.take (j+1)++ZZ (xs.drop (j+1))):=by
    rw [Hid,HO.out,Jo (by omega) hE,Pc (by omega)]
    simp
   have h3:=Lf hE
   clear HO hE
   generalize xs.getD (j+1) (0,0,0)=x at *
   generalize xs.getD j (0,0,0)=y at *
   obtain ⟨x0,x1,x2⟩:=x
   obtain ⟨y0,y1,y2⟩:=y
   simp only at d0 d1 d2 e0 e1 e2 h3
   rcases h3 with t0 | ⟨rfl,t1⟩ | ⟨rfl,rfl,t2⟩
   ·have t0':(x0 == y0)=false:=by simp [t0]
    go_wp2_with fail
    go_quiet (fail)
    go_wp2
    go_roundw
    case rel=>exact ⟨j+1,d+nq,by omega,by go_num,HI,rfl⟩
    case measure=>simp [intOf];omega
   ·have t0':(x0 == x0)=true:=by simp
    have t1':(x1 == y1)=false:=by simp [t1]
    go_wp2_with fail
    go_quiet (fail)
    go_wp2
    go_roundw
    case rel=>exact ⟨j+1,d+nq,by omega,by go_num,HI,rfl⟩
    case measure=>simp [intOf];omega
   have t0':(x0 == x0)=true:=by simp
   have t1':(x1 == x1)=true:=by simp
   have t2':(x2 == y2)=false:=by simp [t2]
   go_wp2_with fail
   go_quiet (fail)
   go_wp2
   go_roundw
   case rel=>exact ⟨j+1,d+nq,by omega,by go_num,HI,rfl⟩
   case measure=>simp [intOf];omega
  obtain rfl:n=j+1:=by omega
  have HR:Hid (∀ e,e=.returned (.slice (some ⟨g,0,none⟩) (j+1) cap)→S7 e w (w.drewN d) B g cap (ZZ xs)):=fun e he=>by
   have hx:ZZ xs=xs:=by
    rw [HO.out]
    have h0:=List.drop_eq_getElem_cons (show j<xs.length by omega)
    have h9:xs.drop (j+1)=[]:=List.drop_of_length_le (by omega)
    rw [h9] at h0
    have h8:ZZ (xs.drop j)=xs.drop j:=by rw [h0];rfl
    rw [h8,List.take_append_drop]
   rw [hx]
   exact ⟨_,he,by rw [hl];exact hqd,gwd⟩
  clear HO hqd
  go_wp2
  go_ret
  exact HR.out _ rfl
end Go.Proofs.YtgmhhegckcionaaGreatDoor
