/-
  Joined: CptB, SrtB, DedI, RpG, CmtQ, FulQ, Rw3, RsuE, Ent0.
-/
import Derived.Lib.SliceRun
import Derived.Deep.MidRow
import Derived.Test.YtmhlokahmblboaaGreatDoorQ24

namespace Go.Proofs.YtmhlokahmblboaaGreatDoor
set_option maxRecDepth 100000
set_option maxHeartbeats 16000000
open Go.RowKit
set_option linter.unusedVariables false
set_option linter.unusedSimpArgs false

theorem Gl:∀ w,(zeroValue 90).run Tryz.prog w=.ok (.agg #[.int .i64 0,.int .i64 0,.int .i64 0]) w:=Tryz.zeroValue90
theorem ME (w:World) (ty:TypeId) (b o n c:Nat) (hn:0<n)
  (hc:∀ j,j<n*3→(w.cell? ⟨b,o+j,none⟩).isSome=true) (hf:∀ j,j<n*3→w.frozen? ⟨b,o+j,none⟩=false) :
  ∃ vs,(Builtin.clear_ #[29] ty #[.slice (some ⟨b,o,none⟩) n c]).run Tryz.prog w=.ok (.tuple #[]) (w.setCells b o vs):=by
 have hlen:(Builtin.zeroCells (Value.agg #[.int .i64 0,.int .i64 0,.int .i64 0]).cells n).toList.length=n*3:=by rw [Array.length_toList,size_zeroCells];rfl
 have hone:∀ v ∈ (Builtin.zeroCells (Value.agg #[.int .i64 0,.int .i64 0,.int .i64 0]).cells n).toList,v.oneCell'=true:=by
  intro v hv
  obtain ⟨i,hi,rfl⟩:=List.getElem_of_mem hv
  rw [hlen] at hi
  simp [Builtin.zeroCells]
  have h3:i % 3=0∨i % 3=1∨i % 3=2:=by omega
  rcases h3 with h3 | h3 | h3<;>simp [Value.cells,h3,Value.oneCell']
 have hst:=run_storeCells_cells (P:=Tryz.prog) b o _ 0 w (by rw [hlen];exact hc) (by rw [hlen];exact hf) hone
 simp only [Nat.add_zero] at hst
 obtain ⟨m,rfl⟩:∃ m,n=m+1:=⟨n - 1,by omega⟩
 refine ⟨(Builtin.zeroCells (Value.agg #[.int .i64 0,.int .i64 0,.int .i64 0]).cells (m+1)).toList,?_⟩
 simp [Builtin.clear_,run_underlying Tryz.underlying29,Gl,hst]
theorem Lc {w:World} {B e s g n m cap:Nat} {cs:List Value} (h:w.ownsRow B e s (.slice (some ⟨g,0,none⟩) n cap) n cs) (hm:m≤n):w.ownsRow B e s (.slice (some ⟨g,0,none⟩) m cap) m (cs.take (m*s)):=by
 have hl:=h.1
 have hms:m*s≤n*s:=Nat.mul_le_mul_right _ hm
 refine ⟨by rw [List.length_take];omega,?_⟩
 rcases h.2 with ⟨hv,_⟩ | ⟨g',cap',cur,hv,hB,hg,hn,hc,hsz,ht⟩
 ·cases hv
 cases hv
 refine .inr ⟨g,cap,cur,rfl,hB,hg,by omega,hc,hsz,?_⟩
 rw [← ht,List.take_take,Nat.min_eq_left hms]
theorem GL {w:World} {B e s g m cap:Nat} {cs:List Value} (h:w.ownsRow B e s (.slice (some ⟨g,0,none⟩) m cap) m cs) {o:Nat} (ho:m*s≤o) (v:Value):(w.setCell ⟨g,o,none⟩ v).ownsRow B e s (.slice (some ⟨g,0,none⟩) m cap) m cs:=by
 refine ⟨h.1,?_⟩
 rcases h.2 with ⟨hv,_⟩ | ⟨g',cap',cur,hv,hB,hg,hn,hc,hsz,ht⟩
 ·cases hv
 cases hv
 refine .inr ⟨g,cap,cur.setIfInBounds o v,rfl,hB,?_,hn,hc,by simpa using hsz,?_⟩
 ·simp [World.setCell,Array.getElem?_modify,hg]
 rw [← ht,Array.toList_setIfInBounds,List.take_set_of_le ho]
theorem N3 {B e s g m cap:Nat} {cs:List Value}:∀ (vs:List Value) (o:Nat) (w:World),w.ownsRow B e s (.slice (some ⟨g,0,none⟩) m cap) m cs→m*s≤o→(w.setCells g o vs).ownsRow B e s (.slice (some ⟨g,0,none⟩) m cap) m cs
 | [],_,_,h,_=>h
 | v::r,o,w,h,ho=>N3 r (o+1) _ (GL h ho v) (by omega)
theorem Rt (g:Nat):∀ (vs:List Value) (o:Nat) (w:World),w.grownBy (w.setCells g o vs) (some g)
 | [],_,w=>World.grownBy.refl _ _
 | v::r,o,w=>Yi (Yc w g o v) (Rt g r (o+1) _)
theorem QP:∀ (ys:List I3) (m:Nat) (q:I3),m<ys.length→(((Zk ys).set (m*3) (.int .i64 q.1)).set (m*3+1) (.int .i64 q.2.1)).set (m*3+2) (.int .i64 q.2.2)=Zk (ys.set m q)
 | [],m,q,h=>by simp at h
 | y::ys,0,q,h=>by simp [Zk,I3.cells]
 | y::ys,m+1,q,h=>by
  have ih:=QP ys m q (by simpa using h)
  have e:Zk (y::ys)=[.int .i64 y.1,.int .i64 y.2.1,.int .i64 y.2.2]++Zk ys:=by simp [Zk,I3.cells]
  rw [e,show (m+1)*3=3+m*3 by omega,List.set_append_right _ _ (by simp only [List.length_cons,List.length_nil];omega),List.set_append_right _ _ (by simp only [List.length_cons,List.length_nil];omega),List.set_append_right _ _ (by simp only [List.length_cons,List.length_nil];omega)]
  simp only [List.length_cons,List.length_nil,Nat.zero_add,Nat.reduceAdd,show 3+m*3 - 3=m*3 by omega,show 3+m*3+1 - 3=m*3+1 by omega,show 3+m*3+2 - 3=m*3+2 by omega]
  rw [ih]
  simp [Zk,I3.cells]
theorem Nq {xs:List I3} {j:Nat} (h:j+1<xs.length):∃ r,xs.drop j=xs.getD j (0,0,0)::xs.getD (j+1) (0,0,0)::r∧xs.drop (j+1)=xs.getD (j+1) (0,0,0)::r:=by
 have h1:=List.drop_eq_getElem_cons h
 have h0:=List.drop_eq_getElem_cons (show j<xs.length by omega)
 refine ⟨xs.drop (j+1+1),?_,?_⟩
 ·rw [h0,h1]
  simp [List.getD,List.getElem?_eq_getElem h,List.getElem?_eq_getElem (show j<xs.length by omega)]
 rw [h1]
 simp [List.getD,List.getElem?_eq_getElem h]
theorem LR {xs:List I3} {j:Nat} (h:j+1<xs.length) (he:xs.getD (j+1) (0,0,0)=xs.getD j (0,0,0)):ZK (xs.drop j)=ZK (xs.drop (j+1)):=by
 obtain ⟨r,h1,h2⟩:=Nq h
 rw [h1,h2,he]
 show ZK (_::_::r)=_
 rw [ZK,if_pos rfl]
theorem LS {xs:List I3} {j:Nat} (h:j+1<xs.length) (he:xs.getD (j+1) (0,0,0)≠xs.getD j (0,0,0)):ZK (xs.drop j)=xs.getD j (0,0,0)::ZK (xs.drop (j+1)):=by
 obtain ⟨r,h1,h2⟩:=Nq h
 rw [h1,h2]
 show ZK (_::_::r)=_
 rw [ZK,if_neg (fun e=>he e.symm)]
theorem Qa {xs:List I3} {j:Nat} (h:j<xs.length):xs.take (j+1)=xs.take j++[xs.getD j (0,0,0)]:=by
 rw [List.take_add_one,List.getElem?_eq_getElem h]
 simp [List.getD,List.getElem?_eq_getElem h]
theorem Pe {xs:List I3} {j:Nat} (h:j<xs.length):ZK (xs.drop j)=xs.getD j (0,0,0)::(ZK (xs.drop j)).tail:=by
 have h0:=List.drop_eq_getElem_cons h
 obtain ⟨t,ht⟩:=RM xs[j] (xs.drop (j+1))
 rw [h0,ht]
 simp [List.getD,List.getElem?_eq_getElem h]
theorem N1 {x y:I3} (h:x≠y):x.1≠y.1∨(x.1=y.1∧x.2.1≠y.2.1)∨(x.1=y.1∧x.2.1=y.2.1∧x.2.2≠y.2.2):=by
 obtain ⟨x0,x1,x2⟩:=x
 obtain ⟨y0,y1,y2⟩:=y
 by_cases q0:x0=y0
 ·by_cases q1:x1=y1
  ·refine .inr (.inr ⟨q0,q1,fun q2=>h ?_⟩)
   simp only at q2
   rw [q0,q1,q2]
  exact .inr (.inl ⟨q0,q1⟩)
 exact .inl q0
theorem Tr {w:World} {B g n cap:Nat} {ys:List I3} (h:w.ownsRow B 90 3 (.slice (some ⟨g,0,none⟩) n cap) n (Zk ys)) (hl:ys.length=n) {t:Nat} (ht:t<n) :
  w.cell? ⟨g,t*3,none⟩=some (.int .i64 (ys.getD t (0,0,0)).1)∧w.cell? ⟨g,t*3+1,none⟩=some (.int .i64 (ys.getD t (0,0,0)).2.1)∧w.cell? ⟨g,t*3+2,none⟩=some (.int .i64 (ys.getD t (0,0,0)).2.2):=by
 obtain ⟨f0,f1,f2⟩:=SY (xs:=ys) (t:=t) (by omega)
 exact ⟨by rw [h.cellAt (t*3) (by omega)];exact f0,by rw [h.cellAt (t*3+1) (by omega)];exact f1,by rw [h.cellAt (t*3+2) (by omega)];exact f2⟩
theorem T8 (a:Option Addr) (n cap:Nat) (w:World) (hn:n<2):Calls Tryz.prog 94 #[.slice a n cap] w fun e w'=>e=.returned (.slice a n cap)∧w=w':=by
 have h:(n:Int)<2:=by omega
 go_enter Tryz.func94,Tryz.ntmps94
 go_wp2
 go_ret
 exact ⟨rfl,rfl⟩
def TI (e:Ending) (w w':World) (B g cap:Nat) (zs:List I3):Prop:=∃ m,e=.returned (.slice (some ⟨g,0,none⟩) m cap)∧w'.ownsRow B 90 3 (.slice (some ⟨g,0,none⟩) m cap) zs.length (Zk zs)∧w.grownBy w' (some g)
theorem MJ (B g n cap:Nat) (xs:List I3) (w:World) (hq:w.ownsRow B 90 3 (.slice (some ⟨g,0,none⟩) n cap) n (Zk xs)) (hl:xs.length=n) (hn:n≤1000000) (h2:2≤n) :
  Calls Tryz.prog 94 #[.slice (some ⟨g,0,none⟩) n cap] w fun e w'=>TI e w w' B g cap (ZK xs):=by
 have hcap:n≤cap∧cap≤maxLen:=by
  rcases hq.2 with ⟨hv,_⟩ | ⟨g',cap',cur,hv,hB,hg,hn,hc,hsz,ht⟩
  ·cases hv
  cases hv
  exact ⟨hn,hc⟩
 unfold maxLen at hcap
 have h2i:¬ ((n:Int)<2):=by omega
 have HO0:Hid (ZK xs=xs.take 0++ZK (xs.drop 0)):=by rw [Hid];simp
 go_enter Tryz.func94,Tryz.ntmps94
 go_wp2_with fail
 go_loopw [3] (fun si wr=>∃ j d:Nat,j+1≤n∧si=.int .i64 ((j:Int)+1)∧Hid (ZK xs=xs.take j++ZK (xs.drop j))∧wr=w.drewN d) (fun si _=>n - (intOf si).toNat)
 case atStart=>exact ⟨0,0,by omega,rfl,HO0,rfl⟩
 case round =>
  clear HO0
  obtain ⟨j,d,hj,rfl,HO,rfl⟩:=hrel
  have hqd:(w.drewN d).ownsRow B 90 3 (.slice (some ⟨g,0,none⟩) n cap) n (Zk xs):=hq
  have gwd:w.grownBy (w.drewN d) (some g):=⟨rfl,rfl,rfl,Nat.le_refl _,fun _ _ _=>rfl⟩
  by_cases hlt:j+1<n
  ·have hlti:(j:Int)+1<(n:Int):=by omega
   have hj1:(0:Int)≤(j:Int)+1:=by omega
   have hj0:(0:Int)≤(j:Int):=by omega
   have hji:(j:Int)<(n:Int):=by omega
   have hwj:IntKind.i64.wrap ((j:Int)+1 - 1)=(j:Int):=by rw [IntWalk.i64_in _ ⟨by omega,by omega⟩];omega
   have hwj2:IntKind.i64.wrap (j:Int)=(j:Int):=IntWalk.i64_in _ ⟨by omega,by omega⟩
   obtain ⟨d0,d1,d2⟩:=Tr hq hl (show j+1<n by omega)
   obtain ⟨e0,e1,e2⟩:=Tr hq hl (show j<n by omega)
   by_cases hE:xs.getD (j+1) (0,0,0)=xs.getD j (0,0,0)
   ·have HI:Hid (ZK xs=xs.take (j+1)++(ZK (xs.drop (j+1+0))).tail):=by
     rw [Hid,HO.out,LR (by omega) hE,Nat.add_zero]
     have h9:=Pe (xs:=xs) (j:=j+1) (by omega)
     rw [Qa (by omega),List.append_assoc,← hE]
     exact congrArg (xs.take j++·) h9
    have hql:(xs.take (j+1)++xs.drop (j+1))=xs:=List.take_append_drop _ _
    rw [hE] at d0 d1 d2
    clear HO hE
    generalize xs.getD j (0,0,0)=y at *
    obtain ⟨y0,y1,y2⟩:=y
    simp only at d0 d1 d2 e0 e1 e2
    have hy0:(y0 == y0)=true:=by simp
    have hy1:(y1 == y1)=true:=by simp
    have hy2:(y2 == y2)=true:=by simp
    have rS:∀ W,(Instr.slice 29 (.slice (some ⟨g,0,none⟩) n cap) (some (.int .i64 ((j:Int)+1))) none none).run Tryz.prog W=.ok (.slice (some ⟨g,(j+1)*3,none⟩) (n - (j+1)) (cap - (j+1))) W:=by
     intro W
     have h8:(j:Int)+1≤(n:Int):=by omega
     have h7:¬ (cap - (j+1)=0):=by omega
     have h6:((j:Int)+1).toNat=j+1:=by omega
     go_simp
     omega
    have QD:(w.drewN d).ownsRow B 90 3 (.slice (some ⟨g,0,none⟩) n cap) n (Zk (xs.take (j+1)++xs.drop (j+1))):=by rw [hql];exact hqd
    go_wp2_with fail
    go_quiet (fail)
    go_wp2_with fail
    clear hqd d0 d1 d2 e0 e1 e2 hy0 hy1 hy2 rS
    go_loopw [3,5] (fun sk si wr=>∃ (i m:Nat) (done:List I3),i+1≤n - (j+1)∧si=.int .i64 ((i:Int)+1)∧sk=.int .i64 (m:Int)∧done.length=m∧m≤j+1+i∧Hid (ZK xs=done++(ZK (xs.drop (j+1+i))).tail)∧wr.ownsRow B 90 3 (.slice (some ⟨g,0,none⟩) n cap) n (Zk (done++xs.drop m))∧w.grownBy wr (some g)) (fun _ si _=>n - (intOf si).toNat)
    case atStart=>exact ⟨0,j+1,xs.take (j+1),by omega,rfl,rfl,by rw [List.length_take];omega,by omega,HI,QD,⟨gwd.os,gwd.tape,gwd.output,gwd.size,gwd.block⟩⟩
    case round =>
     clear QD gwd HI hq
     obtain ⟨i,m,done,hi,rfl,rfl,hdl,hmi,HO,hq,gw⟩:=hrel
     have hlen:(done++xs.drop m).length=n:=by rw [List.length_append,List.length_drop];omega
     have hat:∀ t,m≤t→(done++xs.drop m).getD t (0,0,0)=xs.getD t (0,0,0):=fun t ht=>by
      simp only [List.getD,List.getElem?_append_right (show done.length≤t by omega),List.getElem?_drop]
      rw [show m+(t - done.length)=t by omega]
     by_cases hin:i+1<n - (j+1)
     ·obtain ⟨d0,d1,d2⟩:=Tr hq hlen (show j+1+i+1<n by omega)
      obtain ⟨e0,e1,e2⟩:=Tr hq hlen (show j+1+i<n by omega)
      obtain ⟨f0,f1,f2⟩:=Tr hq hlen (show m<n by omega)
      have z0:=hq.frozenAt (m*3)
      have z1:=hq.frozenAt (m*3+1)
      have z2:=hq.frozenAt (m*3+2)
      rw [hat _ (by omega),show (j+1+i+1)*3=(j+1)*3+(i+1)*3 by omega] at d0 d1 d2
      rw [hat _ (by omega),show (j+1+i)*3=(j+1)*3+i*3 by omega] at e0 e1 e2
      have hini:(i:Int)+1<((n - (j+1):Nat):Int):=by omega
      have hi1:(0:Int)≤(i:Int)+1:=by omega
      have hi0:(0:Int)≤(i:Int):=by omega
      have hii:(i:Int)<((n - (j+1):Nat):Int):=by omega
      have hwi:IntKind.i64.wrap (i:Int)=(i:Int):=IntWalk.i64_in _ ⟨by omega,by omega⟩
      have hmn:(m:Int)<(n:Int):=by omega
      have hm0:(0:Int)≤(m:Int):=by omega
      by_cases hE:xs.getD (j+1+i+1) (0,0,0)=xs.getD (j+1+i) (0,0,0)
      ·have HI:Hid (ZK xs=done++(ZK (xs.drop (j+1+(i+1)))).tail):=by
        rw [Hid,HO.out,LR (by omega) hE]
        rfl
       rw [hE] at d0 d1 d2
       clear HO hE hat
       generalize xs.getD (j+1+i) (0,0,0)=y at *
       generalize (done++xs.drop m).getD m (0,0,0)=z at *
       obtain ⟨y0,y1,y2⟩:=y
       simp only at d0 d1 d2 e0 e1 e2
       have hy0:(y0 == y0)=true:=by simp
       have hy1:(y1 == y1)=true:=by simp
       have hy2:(y2 == y2)=true:=by simp
       have hnn:n - (j+1)≤n:=by omega
       have hjn:i+1+1≤n - (j+1):=by omega
       generalize n - (j+1)=nn at *
       go_wp2_with fail
       go_quiet (fail)
       go_wp2
       go_roundw
       case rel=>exact ⟨i+1,m,done,by omega,by go_num,rfl,hdl,by omega,HI,hq,⟨gw.os,gw.tape,gw.output,gw.size,gw.block⟩⟩
       case measure=>simp [intOf];omega
      have HI:Hid (ZK xs=(done++[xs.getD (j+1+i+1) (0,0,0)])++(ZK (xs.drop (j+1+(i+1)))).tail):=by
       rw [Hid,HO.out,LS (by omega) hE,List.tail_cons,List.append_assoc]
       exact congrArg (done++·) (Pe (xs:=xs) (j:=j+1+i+1) (by omega))
      have HL:Hid (∀ (W:World),W.ownsRow B 90 3 (.slice (some ⟨g,0,none⟩) n cap) n ((((Zk (done++xs.drop m)).set (m*3) (.int .i64 (xs.getD (j+1+i+1) (0,0,0)).1)).set (m*3+1) (.int .i64 (xs.getD (j+1+i+1) (0,0,0)).2.1)).set (m*3+2) (.int .i64 (xs.getD (j+1+i+1) (0,0,0)).2.2))→W.ownsRow B 90 3 (.slice (some ⟨g,0,none⟩) n cap) n (Zk ((done++[xs.getD (j+1+i+1) (0,0,0)])++xs.drop (m+1)))):=fun W h=>by
       rw [QP _ _ _ (by omega)] at h
       have h0:=List.drop_eq_getElem_cons (show m<xs.length by omega)
       have h8:(done++xs.drop m).set m (xs.getD (j+1+i+1) (0,0,0))=(done++[xs.getD (j+1+i+1) (0,0,0)])++xs.drop (m+1):=by
        rw [List.set_append_right _ _ (by omega),show m - done.length=0 by omega,h0,List.set_cons_zero,List.append_assoc]
        rfl
       rw [h8] at h
       exact h
      have h3:=N1 hE
      clear HO hE hat
      generalize xs.getD (j+1+i+1) (0,0,0)=x at *
      generalize xs.getD (j+1+i) (0,0,0)=y at *
      generalize (done++xs.drop m).getD m (0,0,0)=z at *
      obtain ⟨x0,x1,x2⟩:=x
      obtain ⟨y0,y1,y2⟩:=y
      obtain ⟨u0,u1,u2⟩:=z
      simp only at d0 d1 d2 e0 e1 e2 f0 f1 f2 h3 HL
      have hnn:n - (j+1)≤n:=by omega
      have hjn:i+1+1≤n - (j+1):=by omega
      generalize n - (j+1)=nn at *
      rcases h3 with t0 | ⟨rfl,t1⟩ | ⟨rfl,rfl,t2⟩
      focus
       have t0':(x0 == y0)=false:=by simp [t0]
      rotate_left
      focus
       have t0':(x0 == x0)=true:=by simp
       have t1':(x1 == y1)=false:=by simp [t1]
      rotate_left
      focus
       have t0':(x0 == x0)=true:=by simp
       have t1':(x1 == x1)=true:=by simp
       have t2':(x2 == y2)=false:=by simp [t2]
      all_goals
       have Q9:=HL.out _ ((((hq.stored (m*3) (.int .i64 x0)).1).stored (m*3+1) (.int .i64 x1)).1.stored (m*3+2) (.int .i64 x2)).1
       have G9:=Yi (Yi (Yi gw (Yc wr g (m*3) (.int .i64 x0))) (Yc _ g (m*3+1) (.int .i64 x1))) (Yc _ g (m*3+2) (.int .i64 x2))
       clear HL hq gw
       go_wp2_with fail
       go_quiet (fail)
       go_wp2
       go_roundw
       case rel=>exact ⟨i+1,m+1,done++[(x0,x1,x2)],by omega,by go_num,by go_num,by simp [hdl],by omega,HI,Q9,⟨G9.os,G9.tape,G9.output,G9.size,G9.block⟩⟩
       case measure=>simp [intOf];omega
     have HX:Hid (ZK xs=done):=by
      have h0:=List.drop_eq_getElem_cons (show j+1+i<xs.length by omega)
      have h9:xs.drop (j+1+i+1)=[]:=List.drop_of_length_le (by omega)
      rw [h9] at h0
      rw [Hid,HO.out,h0]
      simp [ZK]
     clear HO hat
     have hnot:¬ ((i:Int)+1<((n - (j+1):Nat):Int)):=by omega
     have hmn:m<n:=by omega
     have rC:∀ W,(Instr.slice 29 (.slice (some ⟨g,0,none⟩) n cap) (some (.int .i64 (m:Int))) none none).run Tryz.prog W=.ok (.slice (some ⟨g,m*3,none⟩) (n - m) (cap - m)) W:=by
      intro W
      have h8:(m:Int)≤(n:Int):=by omega
      have h7:¬ (cap - m=0):=by omega
      go_simp
      omega
     have rH:∀ W,(Instr.slice 29 (.slice (some ⟨g,0,none⟩) n cap) none (some (.int .i64 (m:Int))) none).run Tryz.prog W=.ok (.slice (some ⟨g,0,none⟩) m cap) W:=by
      intro W
      have h8:(m:Int)≤(cap:Int):=by omega
      go_simp
     have hex:∀ k,k<(n - m)*3→(wr.cell? ⟨g,m*3+k,none⟩).isSome=true:=fun k hk=>by
      rw [hq.cellAt (m*3+k) (by omega)]
      have:=hq.1
      rw [List.getElem?_eq_getElem (by omega)]
      rfl
     obtain ⟨vs,hcl⟩:∃ vs,∀ ty,(Builtin.clear_ #[29] ty #[.slice (some ⟨g,m*3,none⟩) (n - m) (cap - m)]).run Tryz.prog wr=.ok (.tuple #[]) (wr.setCells g (m*3) vs):=by
      obtain ⟨vs,h9⟩:=ME wr 0 g (m*3) (n - m) (cap - m) (by omega) hex (fun k _=>hq.frozenAt _)
      exact ⟨vs,fun ty=>by simpa [Builtin.clear_] using h9⟩
     have hS:=Lc hq (show m≤n by omega)
     have hfl:(Zk (done++xs.drop m)).take (m*3)=Zk done:=by
      rw [Z2,List.take_append_of_le_length (by rw [Zr];omega),List.take_of_length_le (by rw [Zr];omega)]
     rw [hfl] at hS
     have hS2:=N3 vs (m*3) wr hS (Nat.le_refl _)
     have gw2:=Yi gw (Rt g vs (m*3) wr)
     have HR:Hid (∀ e,e=.returned (.slice (some ⟨g,0,none⟩) m cap)→TI e w (wr.setCells g (m*3) vs) B g cap (ZK xs)):=fun e he=>by
      rw [HX.out]
      exact ⟨m,he,by rw [hdl];exact hS2,gw2⟩
     clear hS hS2 hfl hex hq HX gw gw2
     generalize wr.setCells g (m*3) vs=w9 at *
     go_wp2
     go_ret
     exact HR.out _ rfl
   have HI:Hid (ZK xs=xs.take (j+1)++ZK (xs.drop (j+1))):=by
    rw [Hid,HO.out,LS (by omega) hE,Qa (by omega)]
    simp
   have h3:=N1 hE
   clear HO hE
   generalize xs.getD (j+1) (0,0,0)=x at *
   generalize xs.getD j (0,0,0)=y at *
   obtain ⟨x0,x1,x2⟩:=x
   obtain ⟨y0,y1,y2⟩:=y
   simp only at d0 d1 d2 e0 e1 e2 h3
   rcases h3 with t0 | ⟨rfl,t1⟩ | ⟨rfl,rfl,t2⟩
   ·have t0':(x0 == y0)=false:=by simp [t0]
    go_wp2_with fail
    go_quiet (fail)
    go_wp2
    go_roundw
    case rel=>exact ⟨j+1,d+nq,by omega,by go_num,HI,rfl⟩
    case measure=>simp [intOf];omega
   ·have t0':(x0 == x0)=true:=by simp
    have t1':(x1 == y1)=false:=by simp [t1]
    go_wp2_with fail
    go_quiet (fail)
    go_wp2
    go_roundw
    case rel=>exact ⟨j+1,d+nq,by omega,by go_num,HI,rfl⟩
    case measure=>simp [intOf];omega
   have t0':(x0 == x0)=true:=by simp
   have t1':(x1 == x1)=true:=by simp
   have t2':(x2 == y2)=false:=by simp [t2]
   go_wp2_with fail
   go_quiet (fail)
   go_wp2
   go_roundw
   case rel=>exact ⟨j+1,d+nq,by omega,by go_num,HI,rfl⟩
   case measure=>simp [intOf];omega
  obtain rfl:n=j+1:=by omega
  have HR:Hid (∀ e,e=.returned (.slice (some ⟨g,0,none⟩) (j+1) cap)→TI e w (w.drewN d) B g cap (ZK xs)):=fun e he=>by
   have hx:ZK xs=xs:=by
    rw [HO.out]
    have h0:=List.drop_eq_getElem_cons (show j<xs.length by omega)
    have h9:xs.drop (j+1)=[]:=List.drop_of_length_le (by omega)
    rw [h9] at h0
    have h8:ZK (xs.drop j)=xs.drop j:=by rw [h0];rfl
    rw [h8,List.take_append_drop]
   rw [hx]
   exact ⟨_,he,by rw [hl];exact hqd,gwd⟩
  clear HO hqd
  go_wp2
  go_ret
  exact HR.out _ rfl

open Go.RowKit Go.Sort Go.Shelf

theorem Rq (xs:List I3):(flatK I3.cells 3 xs.toArray).toList=Zk xs:=by
 apply List.ext_getElem?
 intro t
 by_cases h:t<xs.length*3
 ·have hq:t / 3<xs.length:=by omega
  have hl:t<(flatK I3.cells 3 xs.toArray).toList.length:=by simp;omega
  have e1:(flatK I3.cells 3 xs.toArray).toList[t]?=some ((I3.cells xs.toArray[t / 3]!)[t % 3]!):=by
   rw [List.getElem?_eq_getElem hl,Array.getElem_toList,← getElem!_pos (flatK I3.cells 3 xs.toArray) t (by simpa using h),get_flatK _ _ _ _ (by simpa using h)]
  rw [e1]
  obtain ⟨f0,f1,f2⟩:=SY hq
  have ex:xs.toArray[t / 3]! = xs.getD (t / 3) (0,0,0):=by
   rw [getElem!_pos _ _ (by simpa using hq)]
   simp [List.getD,List.getElem?_eq_getElem hq]
  rw [ex]
  generalize xs.getD (t / 3) (0,0,0)=x at *
  have hr:t % 3=0∨t % 3=1∨t % 3=2:=by omega
  rcases hr with hr | hr | hr
  ·have e:t / 3*3=t:=by omega
   rw [e] at f0
   rw [f0,hr]
   rfl
  ·have e:t / 3*3+1=t:=by omega
   rw [e] at f1
   rw [f1,hr]
   rfl
  have e:t / 3*3+2=t:=by omega
  rw [e] at f2
  rw [f2,hr]
  rfl
 rw [List.getElem?_eq_none (by simp;omega),List.getElem?_eq_none (by rw [Zr];omega)]
theorem Kt {w:World} {B g n cap:Nat} {xs:List I3} (h:w.ownsRow B 90 3 (.slice (some ⟨g,0,none⟩) n cap) n (Zk xs)) (hl:xs.length=n):HoldsK I3.cells 3 w g 0 xs.toArray:=by
 intro t ht
 rw [size_flatK] at ht
 have ht':t<n*3:=by simpa [hl] using ht
 refine ⟨?_,by rw [Nat.zero_add];exact h.frozenAt t⟩
 rw [Nat.zero_add,h.cellAt t ht',← Rq,getElem!_pos _ _ (by rw [size_flatK];exact ht)]
 simp [ht]
theorem Jm {w:World} {B g n cap m:Nat} {xs ys:List I3} {os:Array Obj} (h:w.ownsRow B 90 3 (.slice (some ⟨g,0,none⟩) n cap) n (Zk xs)) (hx:xs.length=n) (hy:ys.length=n) :
  (sortWorldK I3.cells 3 w g 0 m ys.toArray os).ownsRow B 90 3 (.slice (some ⟨g,0,none⟩) n cap) n (Zk ys)∧w.grownBy (sortWorldK I3.cells 3 w g 0 m ys.toArray os) (some g):=by
 rcases h.2 with ⟨hv,_⟩ | ⟨g',cap',cur,hv,hB,hg,hn,hc,hsz,ht⟩
 ·cases hv
 cases hv
 have hgl:g<w.heap.size:=(Array.getElem?_eq_some_iff.1 hg).1
 refine ⟨⟨by rw [Zr];omega,.inr ⟨g,cap,putCells id 0 (flatK I3.cells 3 ys.toArray) cur,rfl,hB,?_,hn,hc,?_,?_⟩⟩,⟨rfl,rfl,rfl,?_,?_⟩⟩
 ·show (((Sort.ahead w m).heap.modify g _)++os)[g]?=_
  rw [Array.getElem?_append_left (by simpa [Sort.ahead] using hgl),Array.getElem?_modify]
  simp [Sort.ahead,hg,onCells]
 ·simpa [putCells] using hsz
 ·have hfk:=Rq ys
  have hfs:(flatK I3.cells 3 ys.toArray).size=n*3:=by simp [hy]
  apply List.ext_getElem?
  intro t
  by_cases h3:t<n*3
  ·rw [List.getElem?_take_of_lt h3,← hfk]
   have hcz:t<cur.size:=by rw [hsz];have:=Nat.mul_le_mul_right 3 hn;omega
   simp only [putCells,Array.getElem?_toList,Array.getElem?_mapIdx,Array.getElem?_eq_getElem hcz,Option.map_some]
   rw [if_pos ⟨Nat.zero_le _,by omega⟩,getElem!_pos _ _ (by omega),Array.getElem?_eq_getElem (by omega)]
   simp
  rw [List.getElem?_eq_none (by rw [List.length_take];omega),List.getElem?_eq_none (by rw [Zr];omega)]
 ·show w.heap.size≤(((Sort.ahead w m).heap.modify g _)++os).size
  simp [Sort.ahead]
 intro k hk hne
 show (((Sort.ahead w m).heap.modify g _)++os)[k]?=_
 rw [Array.getElem?_append_left (by simpa [Sort.ahead] using hk),Array.getElem?_modify]
 have:g≠k:=fun e=>hne (by rw [e])
 simp [Sort.ahead,this]

def T4 (l:List I3):List I3:=l.mergeSort fun x y=>!(ltOf UK) y x
theorem Ml (l:List I3):(T4 l).length=l.length:=by unfold T4;simp
theorem H7 {l:List I3} {x:I3}:x ∈ T4 l↔x ∈ l:=by unfold T4;exact (List.mergeSort_perm l _).mem_iff
theorem Jp (l:List I3):(T4 l).Pairwise fun a b=>ltB b a=false:=by
 have h:=List.pairwise_mergeSort (le:=fun x y=>!(ltOf UK) y x) (fun a b c h1 h2=>by
  simp only [Bool.not_eq_true',WV] at *
  cases k:ltB c a
  ·rfl
  ·cases k2:ltB c b
   ·cases k3:ltB b c
    ·have:=WF k2 k3
     subst this
     rw [h1] at k
     cases k
    have:=Vm k3 k
    rw [this] at h1
    cases h1
   rw [k2] at h2
   cases h2) (fun a b=>by
  simp only [WV,Bool.or_eq_true,Bool.not_eq_true']
  cases k:ltB b a
  ·exact .inl rfl
  exact .inr (Q6 k)) l
 exact h.imp fun {a b} h=>by simpa [WV] using h
theorem Jo (xs ys:List I3):ZK (T4 (xs++ys))=ZG xs ys:=M8 (Jp _) fun x=>by rw [H7,List.mem_append]
theorem M9:∀ {l:List I3},l.length<2→ZK l=l
 | [],_=>rfl
 | [x],_=>rfl
 | x::y::l,h=>by simp at h;omega

theorem Fl:∀ w,(isAgg 90).run Tryz.prog w=.ok true w:=Tryz.isAgg90
theorem GN:∀ w,(Go.sizeOf 90).run Tryz.prog w=.ok 3 w:=Tryz.sizeOf90
theorem PA (blk off size:Nat) (w:World):CmpLays Tryz.prog 93 #[] I3.cells 3 UK blk off size w:=fun _ _ _ _ x y=>VP x y _
theorem Mj (B g n cap:Nat) (xs:List I3) (w:World) (h:w.ownsRow B 90 3 (.slice (some ⟨g,0,none⟩) n cap) n (Zk xs)) (hl:xs.length=n) (hn:n≤1000000) :
  Calls Tryz.prog 92 #[.slice (some ⟨g,0,none⟩) n cap,.func (.func 93) #[] #[]] w fun e w'=>e=.returned (.tuple #[])∧w'.ownsRow B 90 3 (.slice (some ⟨g,0,none⟩) n cap) n (Zk (T4 xs))∧w.grownBy w' (some g):=by
 have eg:∀ args w,(callFunc 93 args).run Tryz.prog w=.ok (.enter 93 args) w:=enters_of Tryz.func93 (by kernel_rfl) rfl
 have k:=AnyQ.slices_SortFunc_total L0 3 Fl GN I3.cells (fun _=>rfl) (fun x v hv=>by unfold I3.cells at hv;simp at hv;rcases hv with rfl | rfl | rfl<;>rfl) UK JP 93 #[] g 0 cap xs.toArray w eg (PA g 0 _ w) (Kt h hl) ((h.lt g rfl).2) (by simp;omega) MG
 have e:xs.toArray.size=n:=by simpa using hl
 rw [e] at k
 refine Calls.mono k ?_
 rintro e' w' ⟨rfl,m,os,rfl⟩
 exact ⟨rfl,Jm (ys:=T4 xs) h hl (by rw [Ml];exact hl)⟩
theorem QA (a:Option Addr) (cap:Nat) (w:World) :
  Calls Tryz.prog 92 #[.slice a 0 cap,.func (.func 93) #[] #[]] w fun e w'=>e=.returned (.tuple #[])∧w=w':=by
 have k:=AnyF.slices_SortFunc_none L0 a cap (.func (.func 93) #[] #[]) w
 refine Calls.mono k ?_
 rintro e' w' ⟨rfl,rfl⟩
 exact ⟨rfl,rfl⟩

def WU (a:Option Addr) (c:Nat):Prop:=(a=none→c=0)∧∀ x,a=some x→x.spot=none
theorem Qy (a0:Option Addr) (n0 c0:Nat) (xs:List I3) (a1:Option Addr) (n1 c1:Nat) (ys:List I3) (w:World) (h0:Zj w a0 n0 c0 xs) (h1:Zj w a1 n1 c1 ys) (m0:n0≤400000) (m1:n1≤400000) (z0:WU a0 c0) (z1:WU a1 c1) :
  Calls Tryz.prog 41 #[.slice a0 n0 c0,.slice a1 n1 c1] w fun e w'=>WT e w' w.heap.size (ZG xs ys)∧Below w.heap.size w w':=by
 have l0:=h0.1
 have l1:=h1.1
 have bw:Below w.heap.size w (w.alloc (.cells #[.slice a0 n0 c0,.slice a1 n1 c1] 29)):=by go_grown
 have d0:(w.alloc (.cells #[.slice a0 n0 c0,.slice a1 n1 c1] 29)).cell? ⟨w.heap.size,0,none⟩=some (.slice a0 n0 c0):=by simp [go_sem]
 have d1:(w.alloc (.cells #[.slice a0 n0 c0,.slice a1 n1 c1] 29)).cell? ⟨w.heap.size,1,none⟩=some (.slice a1 n1 c1):=by simp [go_sem]
 go_enter Tryz.func41,Tryz.ntmps41
 go_wp2_with fail
 generalize w.alloc (.cells #[.slice a0 n0 c0,.slice a1 n1 c1] 29)=W at *
 refine (Kl w.heap.size a0 n0 c0 xs a1 n1 c1 ys W (h0.below bw) (h1.below bw) m0 m1 z0.1 z1.1 z0.2 z1.2 d0 d1).mono ?_
 rintro e w1 ⟨⟨v,rfl,_,hq⟩,hb1⟩
 have hB:w.heap.size≤W.heap.size:=bw.size
 replace bw:=Zb bw hb1
 have hln:(xs++ys).length=n0+n1:=by rw [List.length_append];omega
 have HM:Hid (ZK (T4 (xs++ys))=ZG xs ys):=Jo xs ys
 clear d0 d1 h0 h1 z0 z1 hb1
 generalize xs++ys=zs at *
 by_cases hz:n0+n1=0
 ·obtain ⟨a,c,rfl⟩:∃ a c,v=.slice a 0 c:=by
   rcases hq.2 with ⟨rfl,h9⟩ | ⟨g,cap,cur,hv,_⟩
   ·exact ⟨_,_,rfl⟩
   exact ⟨_,_,by rw [hv,hz]⟩
  have hzs:zs=[]:=List.length_eq_zero_iff.1 (by omega)
  have HR:Hid (∀ e,e=.returned (.slice a 0 c)→WT e w1 w.heap.size (ZG xs ys)):=fun e he=>by
   rw [← HM.out,hzs]
   refine ⟨_,he,?_⟩
   have e9:ZK (T4 [])=[]:=by simp [T4,ZK]
   rw [e9]
   rw [hz,hzs] at hq
   exact YX hq hB
  clear hq HM
  go_wp2_with fail
  refine (QA a c _).mono ?_
  rintro e w2 ⟨rfl,rfl⟩
  go_wp2_with fail
  refine (T8 a 0 c _ (by omega)).mono ?_
  rintro e w2 ⟨rfl,rfl⟩
  go_wp2
  go_ret
  exact ⟨HR.out _ rfl,bw⟩
 obtain ⟨g,c,rfl⟩:=XZ hq (by omega)
 have kS:=Mj _ g (n0+n1) c zs w1 hq hln (by omega)
 have hsl:(T4 zs).length=n0+n1:=by rw [Ml];exact hln
 have hnb:n0+n1≤1000000:=by omega
 generalize n0+n1=n at *
 go_wp2_with fail
 refine kS.mono ?_
 rintro e w2 ⟨rfl,hq2,g2⟩
 have hg:=(hq.lt g rfl).1
 replace bw:=bw.grown g2 bw.size (fun k hk=>by cases hk;omega)
 clear kS hq
 by_cases hn2:n<2
 ·have HR:Hid (∀ e,e=.returned (.slice (some ⟨g,0,none⟩) n c)→WT e w2 w.heap.size (ZG xs ys)):=fun e he=>by
   rw [← HM.out,M9 (by omega)]
   exact ⟨_,he,by rw [hsl];exact YX hq2 hB⟩
  clear hq2 HM g2
  go_wp2_with fail
  refine (T8 _ n c _ (by omega)).mono ?_
  rintro e w3 ⟨rfl,rfl⟩
  go_wp2
  go_ret
  exact ⟨HR.out _ rfl,bw⟩
 have kC:=MJ _ g n c (T4 zs) w2 hq2 hsl (by omega) (by omega)
 clear hq2 g2
 go_wp2_with fail
 refine kC.mono ?_
 rintro e w3 ⟨m,rfl,hq3,g3⟩
 clear kC
 have bw3:=bw.grown g3 bw.size (fun k hk=>by cases hk;omega)
 have HR:Hid (∀ e,e=.returned (.slice (some ⟨g,0,none⟩) m c)→WT e w3 w.heap.size (ZG xs ys)):=fun e he=>by
  rw [← HM.out]
  exact ⟨_,he,YX hq3 hB⟩
 clear hq3 g3 HM bw
 go_wp2
 go_ret
 exact ⟨HR.out _ rfl,bw3⟩


def Fz (e:Ending) (w':World) (B:Nat) (xs:List I3):Prop:=∃ v,e=.returned v∧w'.ownsRow B 90 3 v xs.length (Zk xs)
theorem Sb {w:World} {p:Addr} {b:Bool} (k:Calls Tryz.prog 37 #[.pointer (some p)] w fun e w'=>e=.returned (.bool b)∧Below w.heap.size w w') :
  Calls Tryz.prog 164 #[.pointer (some p)] w fun e w'=>Fz e w' w.heap.size (if b then [(14,0,0)] else [])∧Below w.heap.size w w':=by
 cases b
 ·go_enter Tryz.func164,Tryz.ntmps164
  go_wp2_with fail
  refine k.mono ?_
  rintro e w1 ⟨rfl,hb⟩
  go_wp2
  go_ret
  exact ⟨⟨_,rfl,World.ownsRow_nil _ _ _ _⟩,hb⟩
 go_enter Tryz.func164,Tryz.ntmps164
 go_wp2_with fail
 refine k.mono ?_
 rintro e w1 ⟨rfl,hb⟩
 have q:=World.ownsRow_lit (e:=90) (base:=w.heap.size) (size:=3) w1 #[.int .i64 14,.int .i64 0,.int .i64 0] 1 hb.size (by unfold maxLen;omega) rfl
 have HD:Hid (Fz (.returned (.slice (some ⟨w1.heap.size,0,none⟩) 1 1)) (w1.alloc (.cells #[.int .i64 14,.int .i64 0,.int .i64 0] 90)) w.heap.size [(14,0,0)]):=⟨_,rfl,q⟩
 clear q
 go_wp2
 go_ret
 exact ⟨HD.out,Zm hb (by go_grown)⟩


theorem Wg {w:World} {B:Nat} {v:Value} {xs:List I3} (h:w.ownsRow B 90 3 v xs.length (Zk xs)) (hf:∀ x ∈ xs,I3.fits x):∃ a cap,v=.slice a xs.length cap∧Zj w a xs.length cap xs∧WU a cap:=by
 rcases h.2 with ⟨rfl,h0⟩ | ⟨g,cap,cur,hv,_⟩
 ·exact ⟨none,0,by rw [h0],⟨rfl,by omega,by unfold maxLen;omega,hf,.inl h0⟩,fun _=>rfl,fun x hx=>by cases hx⟩
 subst hv
 exact ⟨_,_,rfl,Zj.of_owns h rfl hf rfl,(fun h=>by cases h),fun x hx=>by cases hx;rfl⟩


theorem JT (rows:List (List I3)) (m:V4) (k:Nat):goM rows m (k:Int)=ZE m (Xj rows m k) k:=by unfold goM;rw [Int.toNat_natCast]
theorem Gx {rows:List (List I3)} {m:V4} {k:Nat} (hk:k<3) (hc:Vj rows m k=true):VT rows m (k:Int)=0:=by
 have hd:=(Kj hc).1
 unfold VT
 rw [if_pos (by omega),Int.toNat_natCast]
 simp [hd,hc]


def nxM (rows:List (List I3)) (m:V4):List (Int × V4):=(Zt rows m 3).map fun k=>(k,(goM rows m k).1)
theorem GI {rows:List (List I3)} {m:V4} {t:Int × V4} (h:t ∈ nxM rows m):VT rows m t.1=0∧t.2=(goM rows m t.1).1:=by
 unfold nxM at h
 obtain ⟨k,hk,rfl⟩:=List.mem_map.1 h
 obtain ⟨i,hi,hie⟩:=List.getElem_of_mem hk
 obtain ⟨k',e,h3,hc⟩:=Gw hi
 have e2:(Zt rows m 3).getD i 0=k:=by simp [List.getD,hi,hie]
 rw [e2] at e
 subst e
 exact ⟨Gx h3 hc,rfl⟩


def Ap3 (v u:Value):Prop:=∀ g,v.ownBlock=some g→u.ownBlock≠some g
theorem Ap3.or {v u:Value} (h:Ap3 v u):v.ownBlock=none∨v.ownBlock≠u.ownBlock:=by
 cases e:v.ownBlock with
 | none=>exact .inl rfl
 | some g=>exact .inr fun e2=>h g e e2.symm
theorem Ap3.types {w:World} {B B' e e' s s' n n':Nat} {v v':Value} {xs xs':List Value} (h:w.ownsRow B e s v n xs) (h':w.ownsRow B' e' s' v' n' xs') (he:e≠e'):Ap3 v v':=fun g hg h2=>by
 rcases Z0 h h' he with h3 | h3
 ·rw [h3] at hg;cases hg
 exact h3 (hg.trans h2.symm)
theorem Yf {w:World} {B e s n:Nat} {v:Value} {xs:List Value} (h:w.ownsRow B e s v n xs) {g:Nat} (hg:v.ownBlock=some g):B≤g∧g<w.heap.size:=by
 rcases h.2 with ⟨rfl,_⟩ | ⟨g',cap,cur,rfl,hb,hgg,_⟩
 ·simp [Value.ownBlock] at hg
 simp [Value.ownBlock] at hg
 subst hg
 refine ⟨hb,?_⟩
 rcases Nat.lt_or_ge g' w.heap.size with h1 | h1
 ·exact h1
 rw [Array.getElem?_eq_none h1] at hgg;cases hgg
/-! The rows that go with the list of states. -/


theorem Vb (a a':Option Addr) (n c c':Nat) (nz:Int) (xs:List I3) (w:World) (h:Zj w a n c xs) (h':Zj w a' n c' xs) :
  Calls Tryz.prog 15 #[.agg #[.slice a n c,.int .i64 nz],.agg #[.slice a' n c',.int .i64 nz]] w fun e w'=>e=.returned (.bool true)∧Below w.heap.size w w':=by
 have bw:Below w.heap.size w ((w.alloc (.cells #[.slice a n c,.int .i64 nz] 44)).alloc (.cells #[.slice a' n c',.int .i64 nz] 44)):=by go_grown
 have p0:Blk ((w.alloc (.cells #[.slice a n c,.int .i64 nz] 44)).alloc (.cells #[.slice a' n c',.int .i64 nz] 44)) w.heap.size 44 [.slice a n c,.int .i64 nz]:=Zf _ (Zh _ _ _ rfl)
 have p1:Blk ((w.alloc (.cells #[.slice a n c,.int .i64 nz] 44)).alloc (.cells #[.slice a' n c',.int .i64 nz] 44)) (w.heap.size+1) 44 [.slice a' n c',.int .i64 nz]:=Zh _ _ _ (by simp)
 have kE:=Sg a a' n c c' xs _ (h.below bw) (h'.below bw)
 have hne:(nz != nz)=false:=by simp
 go_enter Tryz.func15,Tryz.ntmps15
 go_wp2_with fail
 generalize ((w.alloc (.cells #[.slice a n c,.int .i64 nz] 44)).alloc (.cells #[.slice a' n c',.int .i64 nz] 44))=U at *
 have c0:=p0.cell 0
 have c1:=p1.cell 0
 simp only [List.getElem?_cons_zero] at c0 c1
 go_wp2_with fail
 refine kE.mono ?_
 rintro e w1 ⟨rfl,hb⟩
 replace bw:=Zb bw hb
 replace p0:=p0.below hb
 replace p1:=p1.below hb
 clear hb kE c0 c1
 have c0:=p0.cell 1
 have c1:=p1.cell 1
 simp only [List.getElem?_cons_zero,List.getElem?_cons_succ] at c0 c1
 go_wp2
 go_ret
 exact ⟨rfl,bw⟩
theorem RI (B T:Nat) (a:Option Addr) (c:Nat) (nz:Int) (k:Int) (xs:List I3) (w:World) (hk0:0≤k) (hk:k≤1000000) (hn:xs.length≤1048576) (ho:w.ownsRow B 90 3 (.slice a xs.length c) xs.length (Zk xs)) (hB:B≤w.heap.size) (hT:∀ j,(Value.slice a xs.length c).ownBlock=some j→j<T) :
  Calls Tryz.prog 20 #[.agg #[.slice a xs.length c,.int .i64 nz],.int .i64 k] w fun e w'=>e=.returned (.int .i64 (k+xs.length*3))∧w'.ownsRow B 90 3 (.slice a xs.length c) xs.length (Zk (mkI k xs xs.length))∧Xt B T w w':=by
 have bw:Below w.heap.size w (w.alloc (.cells #[.slice a xs.length c,.int .i64 nz] 44)):=by go_grown
 have p0:Blk (w.alloc (.cells #[.slice a xs.length c,.int .i64 nz] 44)) w.heap.size 44 [.slice a xs.length c,.int .i64 nz]:=Zh _ _ _ rfl
 have kM:=Te B _ k xs _ hk0 (by omega) hn (Zp ho bw)
 have hs:=bw.size
 go_enter Tryz.func20,Tryz.ntmps20
 go_wp2_with fail
 generalize (w.alloc (.cells #[.slice a xs.length c,.int .i64 nz] 44))=U at *
 have c0:=p0.cell 0
 simp only [List.getElem?_cons_zero] at c0
 go_wp2_with fail
 refine kM.mono ?_
 rintro e w1 ⟨rfl,q1,g1⟩
 have hm:Xt B T w w1:=((Xt.refl B T U).step g1 (by omega) (fun x hx=>(Yf ho hx).1) hT).after bw hB
 clear kM c0 p0 g1 bw hs
 go_wp2
 go_ret
 exact ⟨rfl,q1,hm⟩
theorem VU (B:Nat) (a:Option Addr) (c:Nat) (nz:Int) (k:Int) (xs:List I3) (w:World) (hk0:0≤k) (hk:k≤1000000) (hn:xs.length≤1048576) (ho:w.ownsRow B 90 3 (.slice a xs.length c) xs.length (Zk (mkI k xs xs.length))) :
  Calls Tryz.prog 21 #[.agg #[.slice a xs.length c,.int .i64 nz],.int .i64 k] w fun e w'=>e=.returned (.int .i64 (k+xs.length*3))∧Below w.heap.size w w':=by
 have bw:Below w.heap.size w (w.alloc (.cells #[.slice a xs.length c,.int .i64 nz] 44)):=by go_grown
 have p0:Blk (w.alloc (.cells #[.slice a xs.length c,.int .i64 nz] 44)) w.heap.size 44 [.slice a xs.length c,.int .i64 nz]:=Zh _ _ _ rfl
 have kM:=UT B _ k xs _ hk0 (by omega) hn (Zp ho bw)
 have hlt:decide (k+(xs.length:Int)*3<0)=false:=by simp;omega
 go_enter Tryz.func21,Tryz.ntmps21
 go_wp2_with fail
 generalize (w.alloc (.cells #[.slice a xs.length c,.int .i64 nz] 44))=U at *
 have c0:=p0.cell 0
 simp only [List.getElem?_cons_zero] at c0
 go_wp2_with fail
 refine kM.mono ?_
 rintro e w1 ⟨rfl,rfl⟩
 clear kM c0 p0
 go_wp2
 go_ret
 exact ⟨rfl,bw⟩

open Go.RowKit Go.ChangeShapes Go.WideShapes Go.Joins

abbrev E3:=ByteArray × List I3 × List Int
abbrev Sl2:=Sl × Sl
def ZU (k:ByteArray) (s:Sl2):Value:=.agg #[.string k,.slice s.1.1 s.1.2.1 s.1.2.2,.slice s.2.1 s.2.2.1 s.2.2.2]
def Yl (k:ByteArray) (s:Sl2):List Value:=[.string k,.slice s.1.1 s.1.2.1 s.1.2.2,.slice s.2.1 s.2.2.1 s.2.2.2]
def FH (s:Sl2):Prop:=(s.1.1=none→s.1.2.2=0)∧(s.2.1=none→s.2.2.2=0)
def YL (w:World) (s:Sl2) (e:E3):Prop:=(e.1.size≤maxLen∧FH s)∧Zj w s.1.1 s.1.2.1 s.1.2.2 e.2.1∧W7 w s.2 e.2.2
theorem YL.below {w w':World} {s:Sl2} {e:E3} (h:YL w s e) (hb:Below w.heap.size w w'):YL w' s e:=⟨h.1,h.2.1.below hb,h.2.2.below hb⟩
def e3d:E3:=(ByteArray.empty,[],[])
def XF (w:World) (a:Option Addr) (len cap:Nat) (es:List E3):Prop:=
 es.length=len∧len≤cap∧cap≤maxLen∧(len=0∨∃ b off,a=some ⟨b,off,none⟩∧b<w.heap.size∧∀ t,t<len →
  ∃ s:Sl2,w.cell? ⟨b,off+t*3,none⟩=some (.string (es.getD t e3d).1)∧w.cell? ⟨b,off+t*3+1,none⟩=some (.slice s.1.1 s.1.2.1 s.1.2.2)∧w.cell? ⟨b,off+t*3+2,none⟩=some (.slice s.2.1 s.2.2.1 s.2.2.2)∧YL w s (es.getD t e3d))
theorem XF.below {w w':World} {a:Option Addr} {len cap:Nat} {es:List E3} (h:XF w a len cap es) (hb:Below w.heap.size w w'):XF w' a len cap es:=by
 obtain ⟨h1,h2,h3,h4⟩:=h
 refine ⟨h1,h2,h3,?_⟩
 rcases h4 with h4 | ⟨b,off,ha,hlt,hc⟩
 ·exact .inl h4
 refine .inr ⟨b,off,ha,by have:=hb.size;omega,fun t ht=>?_⟩
 obtain ⟨s,c0,c1,c2,hm⟩:=hc t ht
 exact ⟨s,by rw [hb.cell (p:=⟨b,_,none⟩) hlt];exact c0,by rw [hb.cell (p:=⟨b,_,none⟩) hlt];exact c1,by rw [hb.cell (p:=⟨b,_,none⟩) hlt];exact c2,hm.below hb⟩

section
variable {H : Type} {enc : TypeId × Value → H} {w : World} {base : Nat} {spare : Nat → Bool} {held : Bool}
theorem R0 {P:Program} {t e:TypeId} {fuel:Nat} {a:Option Addr} {len cap:Nat} {x:DataW H × List MemPlace} (hs:P.underlying t=some (.slice e)) (h:DataW.trod enc P w base spare held fuel t [.slice a len cap]=some x):a=none→cap=0:=by
 rcases Go.Deep.open_slice hs h with ⟨hcs,_⟩ | ⟨a',len',cap',m,n,D,Pl,hcs,_⟩
 ·simp at hcs
  exact fun _=>hcs.2.2
 simp at hcs
 intro ha
 rw [hcs.1] at ha
 cases ha
theorem RO {fuel:Nat} {cs:List Value} {x:DataW H × List MemPlace} (h:DataW.trod enc Tryz.prog w base spare held fuel 170 cs=some x):∃ (e:E3) (s:Sl2),cs=Yl e.1 s∧YL w s e:=by
 obtain ⟨y0,y1,y2,n,_,hl,h0,h1,h2⟩:=Go.Deep.trod_struct3 Tryz.underlying170 h
 have hl':cs.length=3:=hl.trans (by kernel_rfl)
 have k0:Tryz.prog.cellsOf 9=1:=by kernel_rfl
 have k1:Tryz.prog.cellsOf 168=1:=by kernel_rfl
 have k2:Tryz.prog.cellsOf 72=1:=by kernel_rfl
 match cs,hl' with
 | [v0,v1,v2],_ =>
  simp only [k0] at h0
  simp only [k1] at h1
  simp only [k2] at h2
  obtain ⟨k,e0,_,hk⟩:=DataW.trod_string Tryz.underlying9 h0
  obtain ⟨a,len,cap,xs,e1,hI⟩:=Sx Tryz.underlying168 Tryz.underlying273 (by kernel_rfl) (by kernel_rfl) Tryz.underlying3 Tryz.underlying3 Tryz.underlying3 h1
  obtain ⟨s2,zs,e2,hZ⟩:=Hj Tryz.underlying72 Tryz.underlying3 (by kernel_rfl) h2
  simp at e0
  have z1:=R0 Tryz.underlying168 (e1▸h1)
  have z2:s2.1=none→s2.2.2=0:=R0 Tryz.underlying72 (a:=s2.1) (len:=s2.2.1) (cap:=s2.2.2) (by have h9:=h2;rw [e2] at h9;exact h9)
  exact ⟨(k,xs,zs),((a,len,cap),s2),by rw [e0,e1,e2];rfl,⟨hk,z1,z2⟩,hI,hZ⟩

theorem K7 {fuel:Nat} {v:Value} {x:DataW H × List MemPlace} (h:DataW.trod enc Tryz.prog w base spare held fuel 38 [v]=some x):∃ a len cap es,v=.slice a len cap∧XF w a len cap es:=by
 have hC:Tryz.prog.cellsOf 170=3:=by kernel_rfl
 rcases Go.Deep.open_slice Tryz.underlying38 h with ⟨hcs,_⟩ | ⟨a,len,cap,m,n,D,Pl,hcs,_,hl,hm,hmm,_,hx⟩
 ·simp at hcs
  exact ⟨none,0,0,[],hcs,rfl,Nat.le_refl _,by unfold maxLen;omega,.inl rfl⟩
 simp at hcs
 have hlm:len≤m:=by rw [hmm];split<;>omega
 obtain ⟨Y,hY⟩:=Go.Deep.choose_lt (α:=E3 × Sl2) (n:=len) (p:=fun i y=>w.cells? base (a.add (i*3)) 3=some (Yl y.1.1 y.2)∧YL w y.2 y.1) (fun i hi=>by
  obtain ⟨cs',h1,h2⟩:=hx i (by omega)
  rw [hC] at h1
  obtain ⟨e,s,he,hm9⟩:=RO h2
  exact ⟨(e,s),by rw [h1,he],hm9⟩)
 refine ⟨some a,len,cap,(List.range len).map (fun i=>(Y i).1),hcs,by simp,hl,hm,?_⟩
 rcases Nat.eq_zero_or_pos len with h0 | h0
 ·exact .inl h0
 right
 obtain ⟨b,off,spot⟩:=a
 have hc:=(World.cells?_some (hY 0 h0).1).2.2 0 (by omega)
 have hspot:spot=none:=by simpa [Addr.add,Yl] using World.cell?_spot hc
 subst hspot
 have e:∀ i,(⟨b,off,none⟩:Addr).add i=⟨b,off+i,none⟩:=fun i=>by unfold Addr.add;split<;>simp_all
 have e':∀ i j,(⟨b,off+i,none⟩:Addr).add j=⟨b,off+i+j,none⟩:=fun i j=>by unfold Addr.add;split<;>simp_all
 have hall:∀ i,i<len→∃ s:Sl2,w.cell? ⟨b,off+i*3,none⟩=some (.string (((List.range len).map (fun i=>(Y i).1)).getD i e3d).1)∧w.cell? ⟨b,off+i*3+1,none⟩=some (.slice s.1.1 s.1.2.1 s.1.2.2)∧w.cell? ⟨b,off+i*3+2,none⟩=some (.slice s.2.1 s.2.2.1 s.2.2.2)∧YL w s (((List.range len).map (fun i=>(Y i).1)).getD i e3d):=by
  intro i hi
  have hcs:=(World.cells?_some (hY i hi).1).2.2
  have g:((List.range len).map (fun i=>(Y i).1)).getD i e3d=(Y i).1:=by simp [List.getD,hi]
  rw [g]
  have c0:=hcs 0 (by omega)
  have c1:=hcs 1 (by omega)
  have c2:=hcs 2 (by omega)
  rw [e,e'] at c0 c1 c2
  exact ⟨(Y i).2,by simpa [Yl] using c0,by simpa [Yl] using c1,by simpa [Yl] using c2,(hY i hi).2⟩
 obtain ⟨s,c0,_⟩:=hall 0 h0
 exact ⟨b,off,rfl,WO c0,hall⟩

theorem open_laws_Memo {r:Reach} {b0:Nat} {v:Value} {d:DataW H} {p:List MemPlace}
  (hv:Value.okWide Tryz.prog w r b0 40 v) (h:DataW.Trod enc Tryz.prog w base spare held 40 v d p):∃ a len cap es,v=.agg #[.slice a len cap]∧XF w a len cap es:=by
 obtain ⟨cs,rfl,hsz⟩:=okWide_struct Tryz.underlying40 hv
 have hsz':cs.size=1:=hsz.trans (by kernel_rfl)
 obtain ⟨fuel,hf⟩:=h
 obtain ⟨y0,n,_,_,h0⟩:=trod_struct1 Tryz.underlying40 hf
 obtain ⟨c,rfl⟩:∃ c,cs=#[c]:=by
  obtain ⟨l⟩:=cs
  match l,hsz' with
  | [c],_=>exact ⟨c,rfl⟩
 have hk:Tryz.prog.cellsOf 38=1:=by kernel_rfl
 simp only [Value.cells,hk] at h0
 obtain ⟨a,len,cap,es,hc,hE⟩:=K7 h0
 exact ⟨a,len,cap,es,by rw [hc],hE⟩
end
end Go.Proofs.YtmhlokahmblboaaGreatDoor
