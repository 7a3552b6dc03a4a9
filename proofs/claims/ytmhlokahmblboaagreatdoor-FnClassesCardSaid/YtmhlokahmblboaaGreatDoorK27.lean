/-
  Joined: CptB, DelI, EvA.
-/
import Derived.Lib.SliceRun
import Derived.Test.YtmhlokahmblboaaGreatDoorK25

namespace Go.Proofs.YtmhlokahmblboaaGreatDoor
set_option maxRecDepth 100000
set_option maxHeartbeats 16000000
open Go.RowKit
set_option linter.unusedVariables false
set_option linter.unusedSimpArgs false

theorem GK:∀ w,(zeroValue 90).run Tryz.prog w=.ok (.agg #[.int .i64 0,.int .i64 0,.int .i64 0]) w:=Tryz.zeroValue90
theorem Ms (w:World) (ty:TypeId) (b o n c:Nat) (hn:0<n)
  (hc:∀ j,j<n*3→(w.cell? ⟨b,o+j,none⟩).isSome=true) (hf:∀ j,j<n*3→w.frozen? ⟨b,o+j,none⟩=false) :
  ∃ vs,(Builtin.clear_ #[29] ty #[.slice (some ⟨b,o,none⟩) n c]).run Tryz.prog w=.ok (.tuple #[]) (w.setCells b o vs):=by
 have hlen:(Builtin.zeroCells (Value.agg #[.int .i64 0,.int .i64 0,.int .i64 0]).cells n).toList.length=n*3:=by rw [Array.length_toList,size_zeroCells];rfl
 have hone:∀ v ∈ (Builtin.zeroCells (Value.agg #[.int .i64 0,.int .i64 0,.int .i64 0]).cells n).toList,v.oneCell'=true:=by
  intro v hv
  obtain ⟨i,hi,rfl⟩:=List.getElem_of_mem hv
  rw [hlen] at hi
  simp [Builtin.zeroCells]
  have h3:i % 3=0∨i % 3=1∨i % 3=2:=by omega
  rcases h3 with h3 | h3 | h3<;>simp [Value.cells,h3,Value.oneCell']
 have hst:=run_storeCells_cells (P:=Tryz.prog) b o _ 0 w (by rw [hlen];exact hc) (by rw [hlen];exact hf) hone
 simp only [Nat.add_zero] at hst
 obtain ⟨m,rfl⟩:∃ m,n=m+1:=⟨n - 1,by omega⟩
 refine ⟨(Builtin.zeroCells (Value.agg #[.int .i64 0,.int .i64 0,.int .i64 0]).cells (m+1)).toList,?_⟩
 simp [Builtin.clear_,run_underlying Tryz.underlying29,GK,hst]

theorem R1 {w:World} {B e s g n m cap:Nat} {cs:List Value} (h:w.ownsRow B e s (.slice (some ⟨g,0,none⟩) n cap) n cs) (hm:m≤n):w.ownsRow B e s (.slice (some ⟨g,0,none⟩) m cap) m (cs.take (m*s)):=by
 have hl:=h.1
 have hms:m*s≤n*s:=Nat.mul_le_mul_right _ hm
 refine ⟨by rw [List.length_take];omega,?_⟩
 rcases h.2 with ⟨hv,_⟩ | ⟨g',cap',cur,hv,hB,hg,hn,hc,hsz,ht⟩
 ·cases hv
 cases hv
 refine .inr ⟨g,cap,cur,rfl,hB,hg,by omega,hc,hsz,?_⟩
 rw [← ht,List.take_take,Nat.min_eq_left hms]
theorem G8 {w:World} {B e s g m cap:Nat} {cs:List Value} (h:w.ownsRow B e s (.slice (some ⟨g,0,none⟩) m cap) m cs) {o:Nat} (ho:m*s≤o) (v:Value):(w.setCell ⟨g,o,none⟩ v).ownsRow B e s (.slice (some ⟨g,0,none⟩) m cap) m cs:=by
 refine ⟨h.1,?_⟩
 rcases h.2 with ⟨hv,_⟩ | ⟨g',cap',cur,hv,hB,hg,hn,hc,hsz,ht⟩
 ·cases hv
 cases hv
 refine .inr ⟨g,cap,cur.setIfInBounds o v,rfl,hB,?_,hn,hc,by simpa using hsz,?_⟩
 ·simp [World.setCell,Array.getElem?_modify,hg]
 rw [← ht,Array.toList_setIfInBounds,List.take_set_of_le ho]
theorem R0 {B e s g m cap:Nat} {cs:List Value}:∀ (vs:List Value) (o:Nat) (w:World),w.ownsRow B e s (.slice (some ⟨g,0,none⟩) m cap) m cs→m*s≤o→(w.setCells g o vs).ownsRow B e s (.slice (some ⟨g,0,none⟩) m cap) m cs
 | [],_,_,h,_=>h
 | v::r,o,w,h,ho=>R0 r (o+1) _ (G8 h ho v) (by omega)
theorem UP (g:Nat):∀ (vs:List Value) (o:Nat) (w:World),w.grownBy (w.setCells g o vs) (some g)
 | [],_,w=>World.grownBy.refl _ _
 | v::r,o,w=>Zx (Zm w g o v) (UP g r (o+1) _)
theorem QF:∀ (ys:List I3) (m:Nat) (q:I3),m<ys.length→(((Zr ys).set (m*3) (.int .i64 q.1)).set (m*3+1) (.int .i64 q.2.1)).set (m*3+2) (.int .i64 q.2.2)=Zr (ys.set m q)
 | [],m,q,h=>by simp at h
 | y::ys,0,q,h=>by simp [Zr,I3.cells]
 | y::ys,m+1,q,h=>by
  have ih:=QF ys m q (by simpa using h)
  have e:Zr (y::ys)=[.int .i64 y.1,.int .i64 y.2.1,.int .i64 y.2.2]++Zr ys:=by simp [Zr,I3.cells]
  rw [e,show (m+1)*3=3+m*3 by omega,List.set_append_right _ _ (by simp only [List.length_cons,List.length_nil];omega),List.set_append_right _ _ (by simp only [List.length_cons,List.length_nil];omega),List.set_append_right _ _ (by simp only [List.length_cons,List.length_nil];omega)]
  simp only [List.length_cons,List.length_nil,Nat.zero_add,Nat.reduceAdd,show 3+m*3 - 3=m*3 by omega,show 3+m*3+1 - 3=m*3+1 by omega,show 3+m*3+2 - 3=m*3+2 by omega]
  rw [ih]
  simp [Zr,I3.cells]
theorem Ng {xs:List I3} {j:Nat} (h:j+1<xs.length):∃ r,xs.drop j=xs.getD j (0,0,0)::xs.getD (j+1) (0,0,0)::r∧xs.drop (j+1)=xs.getD (j+1) (0,0,0)::r:=by
 have h1:=List.drop_eq_getElem_cons h
 have h0:=List.drop_eq_getElem_cons (show j<xs.length by omega)
 refine ⟨xs.drop (j+1+1),?_,?_⟩
 ·rw [h0,h1]
  simp [List.getD,List.getElem?_eq_getElem h,List.getElem?_eq_getElem (show j<xs.length by omega)]
 rw [h1]
 simp [List.getD,List.getElem?_eq_getElem h]
theorem Lv {xs:List I3} {j:Nat} (h:j+1<xs.length) (he:xs.getD (j+1) (0,0,0)=xs.getD j (0,0,0)):ZW (xs.drop j)=ZW (xs.drop (j+1)):=by
 obtain ⟨r,h1,h2⟩:=Ng h
 rw [h1,h2,he]
 show ZW (_::_::r)=_
 rw [ZW,if_pos rfl]
theorem Lw {xs:List I3} {j:Nat} (h:j+1<xs.length) (he:xs.getD (j+1) (0,0,0)≠xs.getD j (0,0,0)):ZW (xs.drop j)=xs.getD j (0,0,0)::ZW (xs.drop (j+1)):=by
 obtain ⟨r,h1,h2⟩:=Ng h
 rw [h1,h2]
 show ZW (_::_::r)=_
 rw [ZW,if_neg (fun e=>he e.symm)]
theorem Qj {xs:List I3} {j:Nat} (h:j<xs.length):xs.take (j+1)=xs.take j++[xs.getD j (0,0,0)]:=by
 rw [List.take_add_one,List.getElem?_eq_getElem h]
 simp [List.getD,List.getElem?_eq_getElem h]
theorem QY {xs:List I3} {j:Nat} (h:j<xs.length):ZW (xs.drop j)=xs.getD j (0,0,0)::(ZW (xs.drop j)).tail:=by
 have h0:=List.drop_eq_getElem_cons h
 obtain ⟨t,ht⟩:=RY xs[j] (xs.drop (j+1))
 rw [h0,ht]
 simp [List.getD,List.getElem?_eq_getElem h]
theorem NO {x y:I3} (h:x≠y):x.1≠y.1∨(x.1=y.1∧x.2.1≠y.2.1)∨(x.1=y.1∧x.2.1=y.2.1∧x.2.2≠y.2.2):=by
 obtain ⟨x0,x1,x2⟩:=x
 obtain ⟨y0,y1,y2⟩:=y
 by_cases q0:x0=y0
 ·by_cases q1:x1=y1
  ·refine .inr (.inr ⟨q0,q1,fun q2=>h ?_⟩)
   simp only at q2
   rw [q0,q1,q2]
  exact .inr (.inl ⟨q0,q1⟩)
 exact .inl q0
theorem TL {w:World} {B g n cap:Nat} {ys:List I3} (h:w.ownsRow B 90 3 (.slice (some ⟨g,0,none⟩) n cap) n (Zr ys)) (hl:ys.length=n) {t:Nat} (ht:t<n) :
  w.cell? ⟨g,t*3,none⟩=some (.int .i64 (ys.getD t (0,0,0)).1)∧w.cell? ⟨g,t*3+1,none⟩=some (.int .i64 (ys.getD t (0,0,0)).2.1)∧w.cell? ⟨g,t*3+2,none⟩=some (.int .i64 (ys.getD t (0,0,0)).2.2):=by
 obtain ⟨f0,f1,f2⟩:=Py (xs:=ys) (t:=t) (by omega)
 exact ⟨by rw [h.cellAt (t*3) (by omega)];exact f0,by rw [h.cellAt (t*3+1) (by omega)];exact f1,by rw [h.cellAt (t*3+2) (by omega)];exact f2⟩

theorem SC (a:Option Addr) (n cap:Nat) (w:World) (hn:n<2):Calls Tryz.prog 94 #[.slice a n cap] w fun e w'=>e=.returned (.slice a n cap)∧w=w':=by
 have h:(n:Int)<2:=by omega
 go_enter Tryz.func94,Tryz.ntmps94
 go_wp2
 go_ret
 exact ⟨rfl,rfl⟩

def TY (e:Ending) (w w':World) (B g cap:Nat) (zs:List I3):Prop:=∃ m,e=.returned (.slice (some ⟨g,0,none⟩) m cap)∧w'.ownsRow B 90 3 (.slice (some ⟨g,0,none⟩) m cap) zs.length (Zr zs)∧w.grownBy w' (some g)
theorem Mu (B g n cap:Nat) (xs:List I3) (w:World) (hq:w.ownsRow B 90 3 (.slice (some ⟨g,0,none⟩) n cap) n (Zr xs)) (hl:xs.length=n) (hn:n≤1000000) (h2:2≤n) :
  Calls Tryz.prog 94 #[.slice (some ⟨g,0,none⟩) n cap] w fun e w'=>TY e w w' B g cap (ZW xs):=by
 have hcap:n≤cap∧cap≤maxLen:=by
  rcases hq.2 with ⟨hv,_⟩ | ⟨g',cap',cur,hv,hB,hg,hn,hc,hsz,ht⟩
  ·cases hv
  cases hv
  exact ⟨hn,hc⟩
 unfold maxLen at hcap
 have h2i:¬ ((n:Int)<2):=by omega
 have HO0:Hid (ZW xs=xs.take 0++ZW (xs.drop 0)):=by rw [Hid];simp
 go_enter Tryz.func94,Tryz.ntmps94
 go_wp2_with fail
 go_loopw [3] (fun si wr=>∃ j d:Nat,j+1≤n∧si=.int .i64 ((j:Int)+1)∧Hid (ZW xs=xs.take j++ZW (xs.drop j))∧wr=w.drewN d) (fun si _=>n - (intOf si).toNat)
 case atStart=>exact ⟨0,0,by omega,rfl,HO0,rfl⟩
 case round =>
  clear HO0
  obtain ⟨j,d,hj,rfl,HO,rfl⟩:=hrel
  have hqd:(w.drewN d).ownsRow B 90 3 (.slice (some ⟨g,0,none⟩) n cap) n (Zr xs):=hq
  have gwd:w.grownBy (w.drewN d) (some g):=⟨rfl,rfl,rfl,Nat.le_refl _,fun _ _ _=>rfl⟩
  by_cases hlt:j+1<n
  ·have hlti:(j:Int)+1<(n:Int):=by omega
   have hj1:(0:Int)≤(j:Int)+1:=by omega
   have hj0:(0:Int)≤(j:Int):=by omega
   have hji:(j:Int)<(n:Int):=by omega
   have hwj:IntKind.i64.wrap ((j:Int)+1 - 1)=(j:Int):=by rw [IntWalk.i64_in _ ⟨by omega,by omega⟩];omega
   have hwj2:IntKind.i64.wrap (j:Int)=(j:Int):=IntWalk.i64_in _ ⟨by omega,by omega⟩
   obtain ⟨d0,d1,d2⟩:=TL hq hl (show j+1<n by omega)
   obtain ⟨e0,e1,e2⟩:=TL hq hl (show j<n by omega)
   by_cases hE:xs.getD (j+1) (0,0,0)=xs.getD j (0,0,0)
   ·have HI:Hid (ZW xs=xs.take (j+1)++(ZW (xs.drop (j+1+0))).tail):=by
     rw [Hid,HO.out,Lv (by omega) hE,Nat.add_zero]
     have h9:=QY (xs:=xs) (j:=j+1) (by omega)
     rw [Qj (by omega),List.append_assoc,← hE]
     exact congrArg (xs.take j++·) h9
    have hql:(xs.take (j+1)++xs.drop (j+1))=xs:=List.take_append_drop _ _
    rw [hE] at d0 d1 d2
    clear HO hE
    generalize xs.getD j (0,0,0)=y at *
    obtain ⟨y0,y1,y2⟩:=y
    simp only at d0 d1 d2 e0 e1 e2
    have hy0:(y0 == y0)=true:=by simp
    have hy1:(y1 == y1)=true:=by simp
    have hy2:(y2 == y2)=true:=by simp
    have rS:∀ W,(Instr.slice 29 (.slice (some ⟨g,0,none⟩) n cap) (some (.int .i64 ((j:Int)+1))) none none).run Tryz.prog W=.ok (.slice (some ⟨g,(j+1)*3,none⟩) (n - (j+1)) (cap - (j+1))) W:=by
     intro W
     have h8:(j:Int)+1≤(n:Int):=by omega
     have h7:¬ (cap - (j+1)=0):=by omega
     have h6:((j:Int)+1).toNat=j+1:=by omega
     go_simp
     omega
    have QD:(w.drewN d).ownsRow B 90 3 (.slice (some ⟨g,0,none⟩) n cap) n (Zr (xs.take (j+1)++xs.drop (j+1))):=by rw [hql];exact hqd
    go_wp2_with fail
    go_quiet (fail)
    go_wp2_with fail
    clear hqd d0 d1 d2 e0 e1 e2 hy0 hy1 hy2 rS
    go_loopw [3,5] (fun sk si wr=>∃ (i m:Nat) (done:List I3),i+1≤n - (j+1)∧si=.int .i64 ((i:Int)+1)∧sk=.int .i64 (m:Int)∧done.length=m∧m≤j+1+i∧Hid (ZW xs=done++(ZW (xs.drop (j+1+i))).tail)∧wr.ownsRow B 90 3 (.slice (some ⟨g,0,none⟩) n cap) n (Zr (done++xs.drop m))∧w.grownBy wr (some g)) (fun _ si _=>n - (intOf si).toNat)
    case atStart=>exact ⟨0,j+1,xs.take (j+1),by omega,rfl,rfl,by rw [List.length_take];omega,by omega,HI,QD,⟨gwd.os,gwd.tape,gwd.output,gwd.size,gwd.block⟩⟩
    case round =>
     clear QD gwd HI hq
     obtain ⟨i,m,done,hi,rfl,rfl,hdl,hmi,HO,hq,gw⟩:=hrel
     have hlen:(done++xs.drop m).length=n:=by rw [List.length_append,List.length_drop];omega
     have hat:∀ t,m≤t→(done++xs.drop m).getD t (0,0,0)=xs.getD t (0,0,0):=fun t ht=>by
      simp only [List.getD,List.getElem?_append_right (show done.length≤t by omega),List.getElem?_drop]
      rw [show m+(t - done.length)=t by omega]
     by_cases hin:i+1<n - (j+1)
     ·obtain ⟨d0,d1,d2⟩:=TL hq hlen (show j+1+i+1<n by omega)
      obtain ⟨e0,e1,e2⟩:=TL hq hlen (show j+1+i<n by omega)
      obtain ⟨f0,f1,f2⟩:=TL hq hlen (show m<n by omega)
      have z0:=hq.frozenAt (m*3)
      have z1:=hq.frozenAt (m*3+1)
      have z2:=hq.frozenAt (m*3+2)
      rw [hat _ (by omega),show (j+1+i+1)*3=(j+1)*3+(i+1)*3 by omega] at d0 d1 d2
      rw [hat _ (by omega),show (j+1+i)*3=(j+1)*3+i*3 by omega] at e0 e1 e2
      have hini:(i:Int)+1<((n - (j+1):Nat):Int):=by omega
      have hi1:(0:Int)≤(i:Int)+1:=by omega
      have hi0:(0:Int)≤(i:Int):=by omega
      have hii:(i:Int)<((n - (j+1):Nat):Int):=by omega
      have hwi:IntKind.i64.wrap (i:Int)=(i:Int):=IntWalk.i64_in _ ⟨by omega,by omega⟩
      have hmn:(m:Int)<(n:Int):=by omega
      have hm0:(0:Int)≤(m:Int):=by omega
      by_cases hE:xs.getD (j+1+i+1) (0,0,0)=xs.getD (j+1+i) (0,0,0)
      ·have HI:Hid (ZW xs=done++(ZW (xs.drop (j+1+(i+1)))).tail):=by
        rw [Hid,HO.out,Lv (by omega) hE]
        rfl
       rw [hE] at d0 d1 d2
       clear HO hE hat
       generalize xs.getD (j+1+i) (0,0,0)=y at *
       generalize (done++xs.drop m).getD m (0,0,0)=z at *
       obtain ⟨y0,y1,y2⟩:=y
       simp only at d0 d1 d2 e0 e1 e2
       have hy0:(y0 == y0)=true:=by simp
       have hy1:(y1 == y1)=true:=by simp
       have hy2:(y2 == y2)=true:=by simp
       have hnn:n - (j+1)≤n:=by omega
       have hjn:i+1+1≤n - (j+1):=by omega
       generalize n - (j+1)=nn at *
       go_wp2_with fail
       go_quiet (fail)
       go_wp2
       go_roundw
       case rel=>exact ⟨i+1,m,done,by omega,by go_num,rfl,hdl,by omega,HI,hq,⟨gw.os,gw.tape,gw.output,gw.size,gw.block⟩⟩
       case measure=>simp [intOf];omega
      have HI:Hid (ZW xs=(done++[xs.getD (j+1+i+1) (0,0,0)])++(ZW (xs.drop (j+1+(i+1)))).tail):=by
       rw [Hid,HO.out,Lw (by omega) hE,List.tail_cons,List.append_assoc]
       exact congrArg (done++·) (QY (xs:=xs) (j:=j+1+i+1) (by omega))
      have HL:Hid (∀ (W:World),W.ownsRow B 90 3 (.slice (some ⟨g,0,none⟩) n cap) n ((((Zr (done++xs.drop m)).set (m*3) (.int .i64 (xs.getD (j+1+i+1) (0,0,0)).1)).set (m*3+1) (.int .i64 (xs.getD (j+1+i+1) (0,0,0)).2.1)).set (m*3+2) (.int .i64 (xs.getD (j+1+i+1) (0,0,0)).2.2))→W.ownsRow B 90 3 (.slice (some ⟨g,0,none⟩) n cap) n (Zr ((done++[xs.getD (j+1+i+1) (0,0,0)])++xs.drop (m+1)))):=fun W h=>by
       rw [QF _ _ _ (by omega)] at h
       have h0:=List.drop_eq_getElem_cons (show m<xs.length by omega)
       have h8:(done++xs.drop m).set m (xs.getD (j+1+i+1) (0,0,0))=(done++[xs.getD (j+1+i+1) (0,0,0)])++xs.drop (m+1):=by
        rw [List.set_append_right _ _ (by omega),show m - done.length=0 by omega,h0,List.set_cons_zero,List.append_assoc]
        rfl
       rw [h8] at h
       exact h
      have h3:=NO hE
      clear HO hE hat
      generalize xs.getD (j+1+i+1) (0,0,0)=x at *
      generalize xs.getD (j+1+i) (0,0,0)=y at *
      generalize (done++xs.drop m).getD m (0,0,0)=z at *
      obtain ⟨x0,x1,x2⟩:=x
      obtain ⟨y0,y1,y2⟩:=y
      obtain ⟨u0,u1,u2⟩:=z
      simp only at d0 d1 d2 e0 e1 e2 f0 f1 f2 h3 HL
      have hnn:n - (j+1)≤n:=by omega
      have hjn:i+1+1≤n - (j+1):=by omega
      generalize n - (j+1)=nn at *
      rcases h3 with t0 | ⟨rfl,t1⟩ | ⟨rfl,rfl,t2⟩
      ·have t0':(x0 == y0)=false:=by simp [t0]
       have Q9:=HL.out _ ((((hq.stored (m*3) (.int .i64 x0)).1).stored (m*3+1) (.int .i64 x1)).1.stored (m*3+2) (.int .i64 x2)).1
       have G9:=Zx (Zx (Zx gw (Zm wr g (m*3) (.int .i64 x0))) (Zm _ g (m*3+1) (.int .i64 x1))) (Zm _ g (m*3+2) (.int .i64 x2))
       clear HL hq gw
       go_wp2_with fail
       go_quiet (fail)
       go_wp2
       go_roundw
       case rel=>exact ⟨i+1,m+1,done++[(x0,x1,x2)],by omega,by go_num,by go_num,by simp [hdl],by omega,HI,Q9,⟨G9.os,G9.tape,G9.output,G9.size,G9.block⟩⟩
       case measure=>simp [intOf];omega
      ·have t0':(x0 == x0)=true:=by simp
       have t1':(x1 == y1)=false:=by simp [t1]
       have Q9:=HL.out _ ((((hq.stored (m*3) (.int .i64 x0)).1).stored (m*3+1) (.int .i64 x1)).1.stored (m*3+2) (.int .i64 x2)).1
       have G9:=Zx (Zx (Zx gw (Zm wr g (m*3) (.int .i64 x0))) (Zm _ g (m*3+1) (.int .i64 x1))) (Zm _ g (m*3+2) (.int .i64 x2))
       clear HL hq gw
       go_wp2_with fail
       go_quiet (fail)
       go_wp2
       go_roundw
       case rel=>exact ⟨i+1,m+1,done++[(x0,x1,x2)],by omega,by go_num,by go_num,by simp [hdl],by omega,HI,Q9,⟨G9.os,G9.tape,G9.output,G9.size,G9.block⟩⟩
       case measure=>simp [intOf];omega
      have t0':(x0 == x0)=true:=by simp
      have t1':(x1 == x1)=true:=by simp
      have t2':(x2 == y2)=false:=by simp [t2]
      have Q9:=HL.out _ ((((hq.stored (m*3) (.int .i64 x0)).1).stored (m*3+1) (.int .i64 x1)).1.stored (m*3+2) (.int .i64 x2)).1
      have G9:=Zx (Zx (Zx gw (Zm wr g (m*3) (.int .i64 x0))) (Zm _ g (m*3+1) (.int .i64 x1))) (Zm _ g (m*3+2) (.int .i64 x2))
      clear HL hq gw
      go_wp2_with fail
      go_quiet (fail)
      go_wp2
      go_roundw
      case rel=>exact ⟨i+1,m+1,done++[(x0,x1,x2)],by omega,by go_num,by go_num,by simp [hdl],by omega,HI,Q9,⟨G9.os,G9.tape,G9.output,G9.size,G9.block⟩⟩
      case measure=>simp [intOf];omega
     have HX:Hid (ZW xs=done):=by
      have h0:=List.drop_eq_getElem_cons (show j+1+i<xs.length by omega)
      have h9:xs.drop (j+1+i+1)=[]:=List.drop_of_length_le (by omega)
      rw [h9] at h0
      rw [Hid,HO.out,h0]
      simp [ZW]
     clear HO hat
     have hnot:¬ ((i:Int)+1<((n - (j+1):Nat):Int)):=by omega
     have hmn:m<n:=by omega
     have rC:∀ W,(Instr.slice 29 (.slice (some ⟨g,0,none⟩) n cap) (some (.int .i64 (m:Int))) none none).run Tryz.prog W=.ok (.slice (some ⟨g,m*3,none⟩) (n - m) (cap - m)) W:=by
      intro W
      have h8:(m:Int)≤(n:Int):=by omega
      have h7:¬ (cap - m=0):=by omega
      go_simp
      omega
     have rH:∀ W,(Instr.slice 29 (.slice (some ⟨g,0,none⟩) n cap) none (some (.int .i64 (m:Int))) none).run Tryz.prog W=.ok (.slice (some ⟨g,0,none⟩) m cap) W:=by
      intro W
      have h8:(m:Int)≤(cap:Int):=by omega
      go_simp
     have hex:∀ k,k<(n - m)*3→(wr.cell? ⟨g,m*3+k,none⟩).isSome=true:=fun k hk=>by
      rw [hq.cellAt (m*3+k) (by omega)]
      have:=hq.1
      rw [List.getElem?_eq_getElem (by omega)]
      rfl
     obtain ⟨vs,hcl⟩:∃ vs,∀ ty,(Builtin.clear_ #[29] ty #[.slice (some ⟨g,m*3,none⟩) (n - m) (cap - m)]).run Tryz.prog wr=.ok (.tuple #[]) (wr.setCells g (m*3) vs):=by
      obtain ⟨vs,h9⟩:=Ms wr 0 g (m*3) (n - m) (cap - m) (by omega) hex (fun k _=>hq.frozenAt _)
      exact ⟨vs,fun ty=>by simpa [Builtin.clear_] using h9⟩
     have hS:=R1 hq (show m≤n by omega)
     have hfl:(Zr (done++xs.drop m)).take (m*3)=Zr done:=by
      rw [YB,List.take_append_of_le_length (by rw [ZD];omega),List.take_of_length_le (by rw [ZD];omega)]
     rw [hfl] at hS
     have hS2:=R0 vs (m*3) wr hS (Nat.le_refl _)
     have gw2:=Zx gw (UP g vs (m*3) wr)
     have HR:Hid (∀ e,e=.returned (.slice (some ⟨g,0,none⟩) m cap)→TY e w (wr.setCells g (m*3) vs) B g cap (ZW xs)):=fun e he=>by
      rw [HX.out]
      exact ⟨m,he,by rw [hdl];exact hS2,gw2⟩
     clear hS hS2 hfl hex hq HX gw gw2
     generalize wr.setCells g (m*3) vs=w9 at *
     go_wp2
     go_ret
     exact HR.out _ rfl
   have HI:Hid (ZW xs=xs.take (j+1)++ZW (xs.drop (j+1))):=by
    rw [Hid,HO.out,Lw (by omega) hE,Qj (by omega)]
    simp
   have h3:=NO hE
   clear HO hE
   generalize xs.getD (j+1) (0,0,0)=x at *
   generalize xs.getD j (0,0,0)=y at *
   obtain ⟨x0,x1,x2⟩:=x
   obtain ⟨y0,y1,y2⟩:=y
   simp only at d0 d1 d2 e0 e1 e2 h3
   rcases h3 with t0 | ⟨rfl,t1⟩ | ⟨rfl,rfl,t2⟩
   ·have t0':(x0 == y0)=false:=by simp [t0]
    go_wp2_with fail
    go_quiet (fail)
    go_wp2
    go_roundw
    case rel=>exact ⟨j+1,d+nq,by omega,by go_num,HI,rfl⟩
    case measure=>simp [intOf];omega
   ·have t0':(x0 == x0)=true:=by simp
    have t1':(x1 == y1)=false:=by simp [t1]
    go_wp2_with fail
    go_quiet (fail)
    go_wp2
    go_roundw
    case rel=>exact ⟨j+1,d+nq,by omega,by go_num,HI,rfl⟩
    case measure=>simp [intOf];omega
   have t0':(x0 == x0)=true:=by simp
   have t1':(x1 == x1)=true:=by simp
   have t2':(x2 == y2)=false:=by simp [t2]
   go_wp2_with fail
   go_quiet (fail)
   go_wp2
   go_roundw
   case rel=>exact ⟨j+1,d+nq,by omega,by go_num,HI,rfl⟩
   case measure=>simp [intOf];omega
  obtain rfl:n=j+1:=by omega
  have HR:Hid (∀ e,e=.returned (.slice (some ⟨g,0,none⟩) (j+1) cap)→TY e w (w.drewN d) B g cap (ZW xs)):=fun e he=>by
   have hx:ZW xs=xs:=by
    rw [HO.out]
    have h0:=List.drop_eq_getElem_cons (show j<xs.length by omega)
    have h9:xs.drop (j+1)=[]:=List.drop_of_length_le (by omega)
    rw [h9] at h0
    have h8:ZW (xs.drop j)=xs.drop j:=by rw [h0];rfl
    rw [h8,List.take_append_drop]
   rw [hx]
   exact ⟨_,he,by rw [hl];exact hqd,gwd⟩
  clear HO hqd
  go_wp2
  go_ret
  exact HR.out _ rfl


def F7 (e:Ending) (b:Bool):Prop:=∃ r:Int,e=.returned (.int .i64 r)∧decide (0≤r)=b
theorem KU {Z:List Int} {k:Nat} (h:k<Z.length) (y:Int):decide (y ∈ Z.drop k)=(decide (y=Z.getD k 0) || decide (y ∈ Z.drop (k+1))):=by
 have e:(y ∈ Z.drop k)↔(y=Z.getD k 0∨y ∈ Z.drop (k+1)):=by
  rw [List.drop_eq_getElem_cons h,List.mem_cons]
  simp only [List.getD,List.getElem?_eq_getElem h,Option.getD_some]
 simp only [e,Bool.decide_or]

theorem Ns (a:Option Addr) (n cap:Nat) (Z:List Int) (y:Int) (w:World) (h:YS .i64 w a n cap Z) (hn:n≤1000000) :
  Calls Tryz.prog 87 #[.slice a n cap,.int .i64 y] w fun e w'=>F7 e (decide (y ∈ Z))∧w=w':=by
 have hl:=h.1
 obtain ⟨r,hr⟩:∃ r,r=decide (y ∈ Z):=⟨_,rfl⟩
 rw [← hr]
 have HR:Hid (r=decide (y ∈ Z.drop 0)):=by rw [Hid];simpa using hr
 clear hr
 go_enter Tryz.func87,Tryz.ntmps87
 go_wp2_with fail
 go_loopw [8] (fun si wr=>∃ k:Nat,k≤n∧si=.int .i64 k∧Hid (r=decide (y ∈ Z.drop k))∧w=wr) (fun si _=>n - (intOf si).toNat)
 case atStart=>exact ⟨0,by omega,rfl,HR,rfl⟩
 case round =>
  clear HR
  obtain ⟨k,hk,rfl,HR,rfl⟩:=hrel
  by_cases hlt:k<n
  ·have hm:=KU (Z:=Z) (k:=k) (by omega) y
   obtain ⟨_,_,_,hcase⟩:=h
   rcases hcase with e0 | ⟨b,off,rfl,hb,hc⟩
   ·omega
   have d0:=hc k hlt
   clear hc hb
   generalize Z.getD k 0=x at d0 hm
   have HM:Hid (decide (y ∈ Z.drop k)=(decide (y=x) || decide (y ∈ Z.drop (k+1)))):=hm
   clear hm
   have hlt':(k:Int)<(n:Int):=by omega
   have hk0:(0:Int)≤(k:Int):=by omega
   by_cases hE:y=x
   ·subst hE
    have HF:Hid (r=true):=by rw [Hid,HR.out,HM.out];simp
    clear HM HR
    have q0:(y == y)=true:=by simp
    go_wp2
    go_ret
    exact ⟨⟨k,rfl,by rw [HF.out];simp⟩,rfl⟩
   have HF:Hid (r=decide (y ∈ Z.drop (k+1))):=by rw [Hid,HR.out,HM.out];simp [hE]
   clear HM HR
   have q0:(y == x)=false:=by simp [hE]
   clear hE
   go_wp2
   go_roundw
   case rel=>exact ⟨k+1,by omega,by go_num,HF,by first | rfl | trivial⟩
   case measure=>simp [intOf];omega
  obtain rfl:k=n:=by omega
  have HF:Hid (r=false):=by rw [Hid,HR.out,List.drop_of_length_le (by omega)];simp
  clear HR
  go_wp2
  go_ret
  exact ⟨⟨-1,rfl,by rw [HF.out];rfl⟩,rfl⟩

theorem Ru (a:Option Addr) (n cap:Nat) (Z:List Int) (y:Int) (w:World) (h:YS .i64 w a n cap Z) (hn:n≤1000000) :
  Calls Tryz.prog 38 #[.slice a n cap,.int .i64 y] w fun e w'=>e=.returned (.bool (decide (y ∈ Z)))∧w=w':=by
 have kI:=Ns a n cap Z y w h hn
 clear h
 generalize decide (y ∈ Z)=r at *
 go_enter Tryz.func38,Tryz.ntmps38
 go_wp2_with fail
 refine kI.mono ?_
 rintro e w1 ⟨⟨i,rfl,hi⟩,rfl⟩
 clear kI
 cases r
 ·have q:decide (0≤i)=false:=hi
  have q':¬ (0≤i):=by simpa using hi
  clear hi
  go_wp2
  go_ret
  exact ⟨by simp [q'],rfl⟩
 have q:decide (0≤i)=true:=hi
 have q':0≤i:=by simpa using hi
 clear hi
 go_wp2
 go_ret
 exact ⟨by simp [q'],rfl⟩

def Ju (F:Nat) (lb:Array Value) (p:Int→Bool) (w:World) (g:Nat) (Z:List Int):Prop:=∀ W,w.grownBy W (some g)→∀ j ∈ Z,Calls Tryz.prog F (#[.int .i64 j]++lb) W fun e W'=>e=.returned (.bool (p j))∧Below W.heap.size W W'
def F6 (e:Ending) (p:Int→Bool) (Z:List Int):Prop:=∃ r:Int,e=.returned (.int .i64 r)∧((r=-1∧Z.filter (fun z=>!p z)=Z)∨∃ k:Nat,r=k∧k<Z.length∧(Z.take (k+1)).filter (fun z=>!p z)=Z.take k)
theorem Tt {w W W':World} {g:Nat} (h:w.grownBy W (some g)) (hb:Below W.heap.size W W'):w.grownBy W' (some g):=
 ⟨hb.os.trans h.os,hb.tape.trans h.tape,hb.output.trans h.output,Nat.le_trans h.size hb.size,fun i hi hr=>(hb.block i (Nat.lt_of_lt_of_le hi h.size)).trans (h.block i hi hr)⟩
theorem Qi {Z:List Int} {k:Nat} (h:k<Z.length):Z.take (k+1)=Z.take k++[Z.getD k 0]:=by
 rw [List.take_succ_eq_append_getElem h];simp [List.getD,h]

theorem PB (F:Nat) (lb:Array Value) (p:Int→Bool) (eg:∀ args w,(callFunc F args).run Tryz.prog w=.ok (.enter F args) w) (B g n cap:Nat) (Z:List Int) (w:World)
  (hq:w.ownsRow B 3 1 (.slice (some ⟨g,0,none⟩) n cap) n (Z.map (Value.int .i64))) (hl:Z.length=n) (hn:n≤1000000) (hf:Ju F lb p w g Z) :
  Calls Tryz.prog 137 #[.slice (some ⟨g,0,none⟩) n cap,.func (.func F) #[] lb] w fun e w'=>F6 e p Z∧Below w.heap.size w w':=by
 have HF0:Hid ((Z.take 0).filter (fun z=>!p z)=Z.take 0):=by rw [Hid];simp
 have HI:=YS.of_owns hq
 clear hq
 go_enter Tryz.func137,Tryz.ntmps137
 go_wp2_with fail
 go_loopw [8] (fun si wr=>∃ k:Nat,k≤n∧si=.int .i64 k∧Hid ((Z.take k).filter (fun z=>!p z)=Z.take k)∧Below w.heap.size w wr) (fun si _=>n - (intOf si).toNat)
 case atStart=>exact ⟨0,by omega,rfl,HF0,Below.refl _ _⟩
 case round =>
  clear HF0
  obtain ⟨k,hk,rfl,HF,bw⟩:=hrel
  by_cases hlt:k<n
  ·have hz:Z.getD k 0 ∈ Z:=by simp [List.getD,show k<Z.length by omega]
   have kF:=hf wr ⟨bw.os,bw.tape,bw.output,bw.size,fun i hi _=>bw.block i hi⟩ (Z.getD k 0) hz
   have ht:=Qi (Z:=Z) (k:=k) (by omega)
   obtain ⟨_,_,_,hcase⟩:=HI.below bw
   rcases hcase with e0 | ⟨b,off,hb9,hb,hc⟩
   ·omega
   cases hb9
   have d0:=hc k hlt
   clear hc hb hz
   generalize Z.getD k 0=x at d0 kF ht
   have HT:Hid (Z.take (k+1)=Z.take k++[x]):=ht
   clear ht
   have hlt':(k:Int)<(n:Int):=by omega
   have hk0:(0:Int)≤(k:Int):=by omega
   have hkl:k<Z.length:=by omega
   rw [Nat.zero_add] at d0
   cases hp:p x with
   | true =>
    have HG:Hid ((Z.take (k+1)).filter (fun z=>!p z)=Z.take k):=by rw [Hid,HT.out,List.filter_append,HF.out];simp [hp]
    rw [hp] at kF
    clear HF HT hp
    go_wp2_with (go_at_fn F;refine kF.mono ?_;rintro e w2 ⟨rfl,hb2⟩)
    go_ret
    exact ⟨⟨k,rfl,.inr ⟨k,rfl,hkl,HG.out⟩⟩,Zb bw hb2⟩
   | false =>
    have HG:Hid ((Z.take (k+1)).filter (fun z=>!p z)=Z.take (k+1)):=by rw [Hid,HT.out,List.filter_append,HF.out];simp [hp]
    rw [hp] at kF
    clear HF HT hp
    go_wp2_with (go_at_fn F;refine kF.mono ?_;rintro e w2 ⟨rfl,hb2⟩)
    go_roundw
    case rel=>exact ⟨k+1,by omega,by go_num,HG,Zb bw hb2⟩
    case measure=>simp [intOf];omega
  obtain rfl:k=n:=by omega
  have HG:Hid (Z.filter (fun z=>!p z)=Z):=by
   have:=HF.out
   rw [List.take_of_length_le (by omega)] at this
   exact this
  clear HF
  go_wp2
  go_ret
  exact ⟨⟨-1,rfl,.inl ⟨rfl,HG.out⟩⟩,bw⟩

def Jx (e:Ending) (w w':World) (B g cap:Nat) (zs:List Int):Prop:=e=.returned (.slice (some ⟨g,0,none⟩) zs.length cap)∧w'.ownsRow B 3 1 (.slice (some ⟨g,0,none⟩) zs.length cap) zs.length (zs.map (Value.int .i64))∧w.grownBy w' (some g)

theorem Qp (F:Nat) (lb:Array Value) (p:Int→Bool) (eg:∀ args w,(callFunc F args).run Tryz.prog w=.ok (.enter F args) w) (B g n cap:Nat) (Z:List Int) (w:World)
  (hq:w.ownsRow B 3 1 (.slice (some ⟨g,0,none⟩) n cap) n (Z.map (Value.int .i64))) (hl:Z.length=n) (hn:n≤1000000) (hf:Ju F lb p w g Z) :
  Calls Tryz.prog 90 #[.slice (some ⟨g,0,none⟩) n cap,.func (.func F) #[] lb] w fun e w'=>Jx e w w' B g cap (Z.filter (fun z=>!p z)):=by
 have hcap:n≤cap∧cap≤maxLen:=by
  rcases hq.2 with ⟨hv,_⟩ | ⟨g',cap',cur,hv,hB,hg,hn,hc,hsz,ht⟩
  ·cases hv
  cases hv
  exact ⟨hn,hc⟩
 unfold maxLen at hcap
 have kI:=PB F lb p eg B g n cap Z w hq hl hn hf
 go_enter Tryz.func90,Tryz.ntmps90
 go_wp2_with fail
 refine kI.mono ?_
 rintro e w1 ⟨⟨r,rfl,hr⟩,hb1⟩
 clear kI
 have hq1:=Ze hq hb1
 have gw1:w.grownBy w1 (some g):=⟨hb1.os,hb1.tape,hb1.output,hb1.size,fun i hi _=>hb1.block i hi⟩
 clear hb1 hq
 rcases hr with ⟨rfl,hE⟩ | ⟨k,rfl,hk,hE⟩
 ·have HE:Hid (Z.filter (fun z=>!p z)=Z):=hE
  clear hE hf
  go_wp2
  go_ret
  unfold Jx
  rw [HE.out,hl]
  exact ⟨rfl,hq1,gw1⟩
 have HE:Hid ((Z.take (k+1)).filter (fun z=>!p z)=Z.take k):=hE
 clear hE
 have hne:((k:Int) == -1)=false:=beq_eq_false_iff_ne.2 (by omega)
 have hw1:IntKind.i64.wrap ((k:Int)+1)=((k+1:Nat):Int):=by rw [IntWalk.i64_in _ ⟨by omega,by omega⟩];omega
 have Q0:w1.ownsRow B 3 1 (.slice (some ⟨g,0,none⟩) n cap) n ((Z.take k++Z.drop k).map (Value.int .i64)):=by rw [List.take_append_drop];exact hq1
 clear hq1
 go_wp2_with fail
 go_loopw [5,6] (fun si sj wr=>∃ (i j:Nat) (done:List Int),i<j∧j≤n∧si=.int .i64 i∧sj=.int .i64 j∧done.length=i∧Hid ((Z.take j).filter (fun z=>!p z)=done)∧wr.ownsRow B 3 1 (.slice (some ⟨g,0,none⟩) n cap) n ((done++Z.drop i).map (Value.int .i64))∧w.grownBy wr (some g)) (fun _ sj _=>n - (intOf sj).toNat)
 case atStart=>exact ⟨k,k+1,Z.take k,by omega,by omega,rfl,by go_num,by rw [List.length_take];omega,HE,Q0,gw1⟩
 case round =>
  clear Q0 gw1 HE hne hw1
  obtain ⟨i,j,done,hij,hjn,rfl,rfl,hdl,HD,Q,gw⟩:=hrel
  have hlen:(done++Z.drop i).length=n:=by rw [List.length_append,List.length_drop];omega
  by_cases hlt:j<n
  ·have hz:Z.getD j 0 ∈ Z:=by simp [List.getD,show j<Z.length by omega]
   have kF:=hf wr gw (Z.getD j 0) hz
   have ht:=Qi (Z:=Z) (k:=j) (by omega)
   have cj:wr.cell? ⟨g,j,none⟩=some (.int .i64 (Z.getD j 0)):=by
    rw [Q.cellAt j (by omega),List.getElem?_map,List.getElem?_append_right (by omega),List.getElem?_drop,show i+(j - done.length)=j by omega]
    simp [List.getD,show j<Z.length by omega]
   have hlt':(j:Int)<(n:Int):=by omega
   have hj0:(0:Int)≤(j:Int):=by omega
   have hi0:(0:Int)≤(i:Int):=by omega
   have hin':(i:Int)<(n:Int):=by omega
   have HS:Hid (∀ x:Int,((done++Z.drop i).map (Value.int .i64)).set i (.int .i64 x)=((done++[x])++Z.drop (i+1)).map (Value.int .i64)):=fun x=>by
    rw [← List.map_set,List.set_append_right _ _ (by omega),show i - done.length=0 by omega,List.drop_eq_getElem_cons (show i<Z.length by omega),List.set_cons_zero,List.append_assoc]
    rfl
   clear hz
   generalize Z.getD j 0=x at kF ht cj
   have HT:Hid (Z.take (j+1)=Z.take j++[x]):=ht
   clear ht
   cases hp:p x with
   | true =>
    have HG:Hid ((Z.take (j+1)).filter (fun z=>!p z)=done):=by rw [Hid,HT.out,List.filter_append,HD.out];simp [hp]
    rw [hp] at kF
    clear HD HT hp HS
    go_wp2_with (go_at_fn F;refine kF.mono ?_;rintro e w2 ⟨rfl,hb2⟩)
    have Q2:=Ze Q hb2
    have g2:=Tt gw hb2
    go_roundw
    case rel=>exact ⟨i,j+1,done,by omega,by omega,rfl,by go_num,hdl,HG,Q2,g2⟩
    case measure=>simp [intOf];omega
   | false =>
    have HG:Hid ((Z.take (j+1)).filter (fun z=>!p z)=done++[x]):=by rw [Hid,HT.out,List.filter_append,HD.out];simp [hp]
    rw [hp] at kF
    clear HD HT hp
    go_wp2_with fail
    go_at_fn F
    refine kF.mono ?_
    rintro e w2 ⟨rfl,hb2⟩
    have Q2:=Ze Q hb2
    have g2:=Tt gw hb2
    clear Q gw kF hb2 cj
    have fi:=Q2.frozenAt i
    have ci:=Q2.cellAt i (by omega)
    rw [List.getElem?_map,List.getElem?_append_right (by omega),show i - done.length=0 by omega,List.drop_eq_getElem_cons (show i<Z.length by omega)] at ci
    simp only [List.getElem?_cons_zero,Option.map_some] at ci
    obtain ⟨s1,s2⟩:=Q2.stored i (.int .i64 x)
    rw [HS.out] at s1
    have g3:=Zx g2 s2
    clear HS Q2 g2 s2
    go_wp2
    go_roundw
    case rel=>exact ⟨i+1,j+1,done++[x],by omega,by omega,by go_num,by go_num,by simp [hdl],HG,s1,g3⟩
    case measure=>simp [intOf];omega
  obtain rfl:j=n:=by omega
  have HX:Hid (Z.filter (fun z=>!p z)=done):=by
   have:=HD.out
   rw [List.take_of_length_le (by omega)] at this
   exact this
  have hnot:¬ ((j:Int)<(j:Int)):=by omega
  have rC:∀ W,(Instr.slice 72 (.slice (some ⟨g,0,none⟩) j cap) (some (.int .i64 (i:Int))) none none).run Tryz.prog W=.ok (.slice (some ⟨g,i,none⟩) (j - i) (cap - i)) W:=by
   intro W
   have h8:(i:Int)≤(j:Int):=by omega
   have h7:¬ (cap - i=0):=by omega
   go_simp
   omega
  have rH:∀ W,(Instr.slice 72 (.slice (some ⟨g,0,none⟩) j cap) none (some (.int .i64 (i:Int))) none).run Tryz.prog W=.ok (.slice (some ⟨g,0,none⟩) i cap) W:=by
   intro W
   have h8:(i:Int)≤(cap:Int):=by omega
   go_simp
  have hex:∀ k,k<j - i→(wr.cell? ⟨g,i+k,none⟩).isSome=true:=fun k hk=>by
   rw [Q.cellAt (i+k) (by omega)]
   have:=Q.1
   rw [List.getElem?_eq_getElem (by omega)]
   rfl
  have hcl:∀ ty,(Builtin.clear_ #[72] ty #[.slice (some ⟨g,i,none⟩) (j - i) (cap - i)]).run Tryz.prog wr=.ok (.tuple #[]) (wr.setCells g i (List.replicate (j - i) (.int .i64 0))):=fun ty =>
   Lib.run_clear_slice wr _ _ ty _ Tryz.underlying72 Tryz.zeroValue3 rfl rfl g i _ _ (by omega) hex (fun k _=>Q.frozenAt _)
  have hS:=R1 Q (show i≤j by omega)
  have hfl:((done++Z.drop i).map (Value.int .i64)).take (i*1)=done.map (Value.int .i64):=by
   rw [List.map_append,List.take_append_of_le_length (by rw [List.length_map];omega),List.take_of_length_le (by rw [List.length_map];omega)]
  rw [hfl] at hS
  have hS2:=R0 (List.replicate (j - i) (.int .i64 0)) i wr hS (by omega)
  have gw2:=Zx gw (UP g (List.replicate (j - i) (.int .i64 0)) i wr)
  have HR:Hid (∀ e,e=.returned (.slice (some ⟨g,0,none⟩) i cap)→Jx e w (wr.setCells g i (List.replicate (j - i) (.int .i64 0))) B g cap (Z.filter (fun z=>!p z))):=fun e he=>by
   unfold Jx
   rw [HX.out,hdl]
   exact ⟨he,hS2,gw2⟩
  clear hS hS2 hfl hex Q HX gw gw2 HD hf
  generalize wr.setCells g i (List.replicate (j - i) (.int .i64 0))=w9 at *
  go_wp2
  go_ret
  exact HR.out _ rfl


def X3 (x:I3):Int:=if x.1=1 then x.2.2 else if x.1=2 then x.2.1 else if x.1=5∨x.1=6 then 4+x.2.1 else -1
def Zz (rows:List (List I3)) (m:V4) (k:Nat):Int × Int × Int × Int:=(k,m.1.getD k 0,(Yq rows m k).1,X3 (Yq rows m k))

theorem Hr (x0 x1 x2:Int) (hx:-1000≤x1∧x1≤1000) (w:World):Calls Tryz.prog 127 #[.agg #[.int .i64 x0,.int .i64 x1,.int .i64 x2]] w fun e w'=>e=.returned (.int .i64 (X3 (x0,x1,x2)))∧Below w.heap.size w w':=by
 obtain ⟨r,hr⟩:∃ r,r=X3 (x0,x1,x2):=⟨_,rfl⟩
 rw [← hr]
 unfold X3 at hr
 simp only at hr
 have HR:Hid (r=if x0=1 then x2 else if x0=2 then x1 else if x0=5∨x0=6 then 4+x1 else -1):=hr
 clear hr
 have h4:IntKind.i64.wrap (4+x1)=4+x1:=IntWalk.i64_in _ (by omega)
 by_cases q1:x0=1
 ·have HF:Hid (r=x2):=by rw [Hid,HR.out];simp [q1]
  subst q1
  clear HR 
  go_enter Tryz.func127,Tryz.ntmps127
  go_wp2
  go_ret
  exact ⟨by rw [HF.out];rfl,by go_grown⟩
 by_cases q2:x0=2
 ·have HF:Hid (r=x1):=by rw [Hid,HR.out];simp [q2]
  subst q2
  clear HR q1
  go_enter Tryz.func127,Tryz.ntmps127
  go_wp2
  go_ret
  exact ⟨by rw [HF.out];rfl,by go_grown⟩
 by_cases q5:x0=5
 ·have HF:Hid (r=4+x1):=by rw [Hid,HR.out];simp [q5]
  subst q5
  clear HR q1 q2
  go_enter Tryz.func127,Tryz.ntmps127
  go_wp2
  go_ret
  exact ⟨by rw [HF.out];rfl,by go_grown⟩
 by_cases q6:x0=6
 ·have HF:Hid (r=4+x1):=by rw [Hid,HR.out];simp [q6]
  subst q6
  clear HR q1 q2 q5
  go_enter Tryz.func127,Tryz.ntmps127
  go_wp2
  go_ret
  exact ⟨by rw [HF.out];rfl,by go_grown⟩
 have HF:Hid (r=-1):=by rw [Hid,HR.out,if_neg q1,if_neg q2,if_neg (by omega)]
 have r1:(x0 == 1)=false:=by simp [q1]
 have r2:(x0 == 2)=false:=by simp [q2]
 have r5:(x0 == 5)=false:=by simp [q5]
 have r6:(x0 == 6)=false:=by simp [q6]
 clear HR q1 q2 q5 q6
 go_enter Tryz.func127,Tryz.ntmps127
 go_wp2
 go_ret
 exact ⟨by rw [HF.out];rfl,by go_grown⟩

theorem KD (x0 x1 x2:Int) (hx:-1000≤x1∧x1≤1000) (w:World):Calls Tryz.prog 182 #[.agg #[.int .i64 x0,.int .i64 x1,.int .i64 x2]] w fun e w'=>e=.returned (.int .i64 (X3 (x0,x1,x2)))∧Below w.heap.size w w':=by
 obtain ⟨r,hr⟩:∃ r,r=X3 (x0,x1,x2):=⟨_,rfl⟩
 rw [← hr]
 unfold X3 at hr
 simp only at hr
 have HR:Hid (r=if x0=1 then x2 else if x0=2 then x1 else if x0=5∨x0=6 then 4+x1 else -1):=hr
 clear hr
 have h4:IntKind.i64.wrap (4+x1)=4+x1:=IntWalk.i64_in _ (by omega)
 by_cases q1:x0=1
 ·have HF:Hid (r=x2):=by rw [Hid,HR.out];simp [q1]
  subst q1
  clear HR 
  go_enter Tryz.func182,Tryz.ntmps182
  go_wp2
  go_ret
  exact ⟨by rw [HF.out];rfl,by go_grown⟩
 by_cases q2:x0=2
 ·have HF:Hid (r=x1):=by rw [Hid,HR.out];simp [q2]
  subst q2
  clear HR q1
  go_enter Tryz.func182,Tryz.ntmps182
  go_wp2
  go_ret
  exact ⟨by rw [HF.out];rfl,by go_grown⟩
 by_cases q5:x0=5
 ·have HF:Hid (r=4+x1):=by rw [Hid,HR.out];simp [q5]
  subst q5
  clear HR q1 q2
  go_enter Tryz.func182,Tryz.ntmps182
  go_wp2
  go_ret
  exact ⟨by rw [HF.out];rfl,by go_grown⟩
 by_cases q6:x0=6
 ·have HF:Hid (r=4+x1):=by rw [Hid,HR.out];simp [q6]
  subst q6
  clear HR q1 q2 q5
  go_enter Tryz.func182,Tryz.ntmps182
  go_wp2
  go_ret
  exact ⟨by rw [HF.out];rfl,by go_grown⟩
 have HF:Hid (r=-1):=by rw [Hid,HR.out,if_neg q1,if_neg q2,if_neg (by omega)]
 have r1:(x0 == 1)=false:=by simp [q1]
 have r2:(x0 == 2)=false:=by simp [q2]
 have r5:(x0 == 5)=false:=by simp [q5]
 have r6:(x0 == 6)=false:=by simp [q6]
 clear HR q1 q2 q5 q6
 go_enter Tryz.func182,Tryz.ntmps182
 go_wp2
 go_ret
 exact ⟨by rw [HF.out];rfl,by go_grown⟩

theorem Kf (g k p b off n c:Nat) (x0 x1 x2:Int) (w:World) (hk:k<3) (hp:p<n) (hp6:p≤6) (hx:-1000≤x1∧x1≤1000)
  (e0:w.cell? ⟨g,k*4,none⟩=some (.slice (some ⟨b,off,none⟩) n c)) (e1:w.cell? ⟨g,k*4+1,none⟩=some (.int .i64 p)) (q0:w.cell? ⟨b,off+p*3,none⟩=some (.int .i64 x0)) (q1:w.cell? ⟨b,off+p*3+1,none⟩=some (.int .i64 x1)) (q2:w.cell? ⟨b,off+p*3+2,none⟩=some (.int .i64 x2)) :
  Calls Tryz.prog 70 #[.pointer (some ⟨g,0,none⟩),.int .i64 k] w fun e w'=>e=.returned (.agg #[.int .i64 k,.int .i64 p,.int .i64 x0,.int .i64 (X3 (x0,x1,x2))])∧Below w.heap.size w w':=by
 have hgl:g<w.heap.size:=World.block_lt_of_cell? _ _ e1
 have hk3:(k:Int)<3:=by omega
 have hpn:(p:Int)<(n:Int):=by omega
 have kO:=Hr x0 x1 x2 hx
 generalize X3 (x0,x1,x2)=ob at *
 have bw:Below w.heap.size w (w.alloc (.cells #[.int .i64 0,.int .i64 0,.int .i64 0,.int .i64 0] 135)):=by go_grown
 have pR:Blk (w.alloc (.cells #[.int .i64 0,.int .i64 0,.int .i64 0,.int .i64 0] 135)) w.heap.size 135 [.int .i64 0,.int .i64 0,.int .i64 0,.int .i64 0]:=Zo _ _ _ rfl
 replace e0:=Za bw _ _ e0
 replace e1:=Za bw _ _ e1
 replace q0:=Za bw _ _ q0
 replace q1:=Za bw _ _ q1
 replace q2:=Za bw _ _ q2
 go_enter Tryz.func70,Tryz.ntmps70
 go_wp2_with fail
 have hX9:w.heap.size<(w.alloc (.cells #[.int .i64 0,.int .i64 0,.int .i64 0,.int .i64 0] 135)).heap.size:=pR.lt
 generalize (w.alloc (.cells #[.int .i64 0,.int .i64 0,.int .i64 0,.int .i64 0] 135))=W at *
 refine wp_region_held_drew (S:=(fun w'=>w'.cell? ⟨g,k*4,none⟩=some (.slice (some ⟨b,off,none⟩) n c)∧w'.cell? ⟨g,k*4+1,none⟩=some (.int .i64 p)∧w'.cell? ⟨b,off+p*3,none⟩=some (.int .i64 x0)∧w'.cell? ⟨b,off+p*3+1,none⟩=some (.int .i64 x1)∧w'.cell? ⟨b,off+p*3+2,none⟩=some (.int .i64 x2))) (by kernel_rfl) ⟨e0,e1,q0,q1,q2⟩ (fun hS0=>?_)
 refine tkm 0 12 (.pointer (some ⟨g,k*4,none⟩)) ?_
 refine tkm 1 13 (.pointer (some ⟨g,k*4,none⟩)) ?_
 refine tkm 2 14 (.pointer (some ⟨g,k*4,none⟩)) ?_
 refine tkm 3 15 (.slice (some ⟨b,off,none⟩) n c) ?_
 refine tkm 4 16 (.pointer (some ⟨g,k*4,none⟩)) ?_
 refine tkm 5 17 (.pointer (some ⟨g,k*4,none⟩)) ?_
 refine tkm 6 18 (.pointer (some ⟨g,k*4+1,none⟩)) ?_
 refine tkm 7 19 (.int .i64 p) ?_
 refine tkm 8 20 (.pointer (some ⟨b,off+p*3,none⟩)) ?_
 refine tkm 9 21 (.agg #[.int .i64 x0,.int .i64 x1,.int .i64 x2]) ?_
 refine tkr 10 6 (fun K hK=>?_)
 have hal:Below W.drew.heap.size W.drew (W.drew.alloc (.cells #[.int .i64 0,.int .i64 0,.int .i64 0] 122)):=by go_grown
 go_simp
 refine hK.out _ _ ?_ (fun hS1=>?_)
 ·exact ⟨Za hal _ _ hS0.1,Za hal _ _ hS0.2.1,Za hal _ _ hS0.2.2.1,Za hal _ _ hS0.2.2.2.1,Za hal _ _ hS0.2.2.2.2⟩
 clear hK
 try simp only [Act.put,tka,tkb,tkc]
 refine tkz 11 (fun K hK=>?_)
 have hal2:Below W.drew.heap.size W.drew (W.drew.alloc (.cells #[.int .i64 x0,.int .i64 x1,.int .i64 x2] 122)):=by go_grown
 go_simp
 refine hK.out _ _ ?_ (fun hS2=>?_)
 ·exact ⟨Za hal2 _ _ hS0.1,Za hal2 _ _ hS0.2.1,Za hal2 _ _ hS0.2.2.1,Za hal2 _ _ hS0.2.2.2.1,Za hal2 _ _ hS0.2.2.2.2⟩
 clear hK
 try simp only [Act.put,tka,tkb,tkc]
 refine wpAnyH_done (by kernel_rfl) ?_ _
 have hb:Below W.heap.size W (W.alloc (.cells #[.int .i64 x0,.int .i64 x1,.int .i64 x2] 122)).drew:=by go_grown
 have pX:Blk (W.alloc (.cells #[.int .i64 x0,.int .i64 x1,.int .i64 x2] 122)).drew W.heap.size 122 [.int .i64 x0,.int .i64 x1,.int .i64 x2]:=Zo _ _ _ rfl
 replace bw:=Zb bw hb
 replace pR:=pR.below hb
 replace e1:=Za hb _ _ e1
 skip
 clear hal hal2 hS0 hS1 hS2 e0 q0 q1 q2 hb
 go_wp2_with fail
 generalize (W.alloc (.cells #[.int .i64 x0,.int .i64 x1,.int .i64 x2] 122)).drew=V at *
 generalize W.heap.size=X at *
 have c0:=pX.cell 0
 have c1:=pX.cell 1
 have c2:=pX.cell 2
 simp only [List.getElem?_cons_zero,List.getElem?_cons_succ] at c0 c1 c2
 have hdr:Below V.heap.size V V.drew:=by go_grown
 refine wp_region_held_drew (S:=(fun w'=>w'.cell? ⟨g,k*4+1,none⟩=some (.int .i64 p)∧w'.cell? ⟨X,0,none⟩=some (.int .i64 x0)∧w'.cell? ⟨X,1,none⟩=some (.int .i64 x1)∧w'.cell? ⟨X,2,none⟩=some (.int .i64 x2))) (by kernel_rfl) ⟨e1,c0,c1,c2⟩ (fun hS0=>?_)
 refine tkm 0 22 (.int .i64 (k:Int)) ?_
 refine tkm 1 23 (.pointer (some ⟨g,k*4,none⟩)) ?_
 refine tkm 2 24 (.pointer (some ⟨g,k*4,none⟩)) ?_
 refine tkm 3 25 (.pointer (some ⟨g,k*4+1,none⟩)) ?_
 refine tkm 4 26 (.int .i64 p) ?_
 refine tkm 5 27 (.pointer (some ⟨X,0,none⟩)) ?_
 refine tkm 6 28 (.int .i64 x0) ?_
 refine tkm 7 29 (.agg #[.int .i64 x0,.int .i64 x1,.int .i64 x2]) ?_
 refine tkr 8 30 (fun K hK=>?_)
 go_simp
 refine (kO _).mono ?_
 rintro e U ⟨rfl,hb8⟩
 go_wp2_with fail
 refine hK.out _ _ ?_ (fun hS1=>?_)
 ·exact ⟨Za hb8 _ _ hS0.1,Za hb8 _ _ hS0.2.1,Za hb8 _ _ hS0.2.2.1,Za hb8 _ _ hS0.2.2.2⟩
 clear hK
 refine tkm 9 31 (.agg #[.int .i64 (k:Int),.int .i64 p,.int .i64 x0,.int .i64 ob]) ?_
 replace pR:=pR.below (Zb hdr hb8)
 replace bw:=Zb bw (Zb hdr hb8)
 refine tkz 10 (fun K hK=>?_)
 refine Zt rfl 135 _ _ rfl w.heap.size [.int .i64 (k:Int),.int .i64 p,.int .i64 x0,.int .i64 ob] rfl rfl pR (by kernel_rfl) rfl rfl ?_
 intro U2 pR2 g2
 have bz:=bw.grown g2 bw.size (fun j hj=>by cases hj;omega)
 have n1:(some g:Option Nat)≠some w.heap.size:=by simp;omega
 have n2:(some X:Option Nat)≠some w.heap.size:=by simp;omega
 refine hK.out _ _ ⟨Zh g2 hS1.1 n1,Zh g2 hS1.2.1 n2,Zh g2 hS1.2.2.1 n2,Zh g2 hS1.2.2.2 n2⟩ (fun hS2=>?_)
 clear hK
 try simp only [Act.put,tka,tkb,tkc]
 refine wpAnyH_done (by kernel_rfl) ?_ _
 clear hS0 hS1 hS2 n1 n2 g2 bw pR hdr hb8 kO c0 c1 c2 e1 pX
 go_wp2_with fail
 refine bodyPost_ret (XT Tryz.results70 _ _ _ _ _ _ rfl pR2.out Tryz.underlying135 rfl (by kernel_rfl)) rfl ?_
 exact ⟨rfl,bz⟩

theorem Ls {x:I3} (h:okI x=true):-1000≤x.2.1∧x.2.1≤1000:=by
 rcases Sg h with ⟨a,q,rfl,ha,hq⟩ | ⟨q,a,rfl,hq,ha⟩ | ⟨a,z,rfl,ha⟩ | ⟨a,z,rfl,ha,hz⟩ | ⟨a,z,rfl,ha⟩ | ⟨a,z,rfl,ha⟩ | ⟨a,z,rfl,ha,hz⟩ | ⟨a,z,rfl,ha⟩<;>(simp only;omega)
theorem Rx {w:World} {g:Nat} {cs:Sl × Sl × Sl} {rows:List (List I3)} {m:V4} (h:Yj w g cs rows m) (hp:Zn rows=true) (hs:Zk m=true) {k:Nat} (hk:k<3) (hd:Z1 rows m k=false) :
  Calls Tryz.prog 70 #[.pointer (some ⟨g,0,none⟩),.int .i64 k] w fun e w'=>e=.returned (.agg #[.int .i64 (Zz rows m k).1,.int .i64 (Zz rows m k).2.1,.int .i64 (Zz rows m k).2.2.1,.int .i64 (Zz rows m k).2.2.2])∧Below w.heap.size w w':=by
 obtain ⟨p,ep,hlt,hi,hok⟩:=X0 hp hs hk hd
 have hl6:=(Wx hp hk).1
 have e0:=h.code hk
 have e1:=h.pc hk
 rw [ep] at e1
 obtain ⟨b,off,ea,hpn,q0,q1,q2⟩:=T9 (h.2 k hk) hlt
 rw [← hi] at q0 q1 q2
 rw [ea] at e0
 have hm:=Ls hok
 unfold Zz
 rw [ep]
 generalize Yq rows m k=x at *
 obtain ⟨x0,x1,x2⟩:=x
 exact Kf g k p b off _ _ x0 x1 x2 w hk hpn (by omega) hm e0 e1 q0 q1 q2

end Go.Proofs.YtmhlokahmblboaaGreatDoor
