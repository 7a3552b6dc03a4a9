/-
  Joined: NrmS, Bug0.
-/
import Derived.Test.YtifoggpohlegmaaGreatDoorC14

namespace Go.Proofs.YtifoggpohlegmaaGreatDoor
set_option maxRecDepth 100000
set_option maxHeartbeats 16000000
set_option linter.unusedVariables false

def evAt (es:List I4) (i:Nat):I4:=es.getD i (0,0,0,0)
def thE (es:List I4) (i:Nat):Nat:=(evAt es i).1.toNat
def depE (es:List I4) (i k:Nat):Bool:=depM (evAt es i) (evAt es k)
def inThree (es:List I4):Prop:=∀ x ∈ es,0≤x.1∧x.1<3
theorem evAt_mem {es:List I4} {i:Nat} (h:i<es.length):evAt es i ∈ es:=by
 unfold evAt
 simp only [List.getD,List.getElem?_eq_getElem h,Option.getD_some]
 exact List.getElem_mem h
theorem evAt_three {es:List I4} (h:inThree es) (i:Nat):0≤(evAt es i).1∧(evAt es i).1<3:=by
 by_cases hi:i<es.length
 ·exact h _ (evAt_mem hi)
 ·unfold evAt
  simp [List.getD,List.getElem?_eq_none (Nat.le_of_not_lt hi)]
theorem thE_three {es:List I4} (h:inThree es) (i:Nat):thE es i<3:=by
 have:=evAt_three h i
 unfold thE
 omega
theorem thE_int {es:List I4} (h:inThree es) (i:Nat):((thE es i:Nat):Int)=(evAt es i).1:=by
 have:=evAt_three h i
 unfold thE
 omega
theorem depE_thread {es:List I4} (h:inThree es) (i k:Nat) (_:i<k) (ht:thE es i=thE es k):depE es i k=true:=by
 refine depM_thread ?_
 rw [← thE_int h i,← thE_int h k,ht]
theorem leastT_le {ok:Nat→Bool} {th:Nat→Nat} {k:Nat} (ho:ok k=true):∀ n,k<n→leastT ok th n≤th k
 | 0,h=>by omega
 | n+1,h=>by
  have e:leastT ok th (n+1)=if ok n then Nat.min (leastT ok th n) (th n) else leastT ok th n:=rfl
  have hm:∀ a b:Nat,Nat.min a b=min a b:=fun _ _=>rfl
  by_cases hk:k=n
  ·subst hk
   rw [e,if_pos ho,hm]
   omega
  ·have ih:=leastT_le (th:=th) ho n (by omega)
   rw [e]
   split
   ·rw [hm];omega
   ·exact ih
def leftI (used:Nat→Bool) (n:Nat):List Nat:=(List.range n).filter (fun i=>!used i)
def leftE (es:List I4) (used:Nat→Bool):List I4:=(leftI used es.length).map (evAt es)
theorem mem_leftI {used:Nat→Bool} {n i:Nat}:i ∈ leftI used n↔i<n∧used i=false:=by
 unfold leftI
 simp
theorem leftI_rises (used:Nat→Bool) (n:Nat):(leftI used n).Pairwise (· < ·):=List.Pairwise.filter _ List.pairwise_lt_range
theorem part_rises {used:Nat→Bool} {n k:Nat} {I J:List Nat} (h:leftI used n=I++k::J):(∀ i ∈ I,i<k)∧(∀ j ∈ J,k<j):=by
 have hr:=leftI_rises used n
 rw [h,List.pairwise_append] at hr
 obtain ⟨_,h2,h3⟩:=hr
 rw [List.pairwise_cons] at h2
 exact ⟨fun i hi=>h3 i hi k (by simp),fun j hj=>h2.1 j hj⟩
theorem leftI_put {used:Nat→Bool} {n b:Nat} {I J:List Nat} (h:leftI used n=I++b::J):leftI (fun i=>used i || i == b) n=I++J:=by
 obtain ⟨h1,h2⟩:=part_rises h
 have e:leftI (fun i=>used i || i == b) n=(leftI used n).filter (fun i=>!(i == b)):=by
  unfold leftI
  rw [List.filter_filter]
  refine List.filter_congr (fun i _=>?_)
  rw [Bool.not_or,Bool.and_comm]
 rw [e,h,List.filter_append]
 have f1:I.filter (fun i=>!(i == b))=I:=by
  rw [List.filter_eq_self]
  intro i hi
  have:=h1 i hi
  simp
  omega
 have f2:(b::J).filter (fun i=>!(i == b))=J:=by
  rw [List.filter_cons]
  simp only [beq_self_eq_true,Bool.not_true,Bool.false_eq_true,if_false]
  rw [List.filter_eq_self]
  intro i hi
  have:=h2 i hi
  simp
  omega
 rw [f1,f2]
theorem left_all (es:List I4):leftE es (fun _=>false)=es:=by
 unfold leftE leftI
 have e:(List.range es.length).filter (fun i=>!false)=List.range es.length:=by
  rw [List.filter_eq_self]
  intro i _
  rfl
 rw [e]
 refine List.ext_getElem (by simp) (fun i h1 h2=>?_)
 simp [evAt,List.getD,h2]
theorem best_pick {es:List I4} (h:inThree es) {used:Nat→Bool} {b:Nat} (hc:∀ i k,k<es.length→Bef (depE es) i k→used k=true→used i=true) (hb:bestS (okU (befB (depE es)) es.length used) (thE es) es.length=some b) :
  b<es.length∧okU (befB (depE es)) es.length used b=true∧Pick (leftE es used) (evAt es b) (leftE es (fun i=>used i || i == b)):=by
 have ok_iff:∀ k,okU (befB (depE es)) es.length used k=true↔used k=false∧∀ i,i<es.length→Bef (depE es) i k→used i=true:=fun k=>by
  unfold okU
  rw [Bool.and_eq_true,allU_iff]
  simp only [Bool.not_eq_true',befB_iff]
 rcases best_least (ok:=okU (befB (depE es)) es.length used) (thE_three h) es.length with ⟨e,_,_⟩ | ⟨b',e,hbn,hok,hl⟩
 ·rw [hb] at e;cases e
 rw [hb] at e
 cases e
 obtain ⟨o1,o2⟩:=(ok_iff b).1 hok
 refine ⟨hbn,hok,?_,?_⟩
 ·obtain ⟨I,J,hIJ⟩:=List.append_of_mem (mem_leftI.2 ⟨hbn,o1⟩)
  obtain ⟨p1,p2⟩:=part_rises hIJ
  refine ⟨I.map (evAt es),J.map (evAt es),by unfold leftE;rw [hIJ];simp,by unfold leftE;rw [leftI_put hIJ];simp,?_⟩
  intro x hx
  obtain ⟨i,hi,rfl⟩:=List.mem_map.1 hx
  have hm:i ∈ leftI used es.length:=by rw [hIJ];simp [hi]
  obtain ⟨q1,q2⟩:=mem_leftI.1 hm
  cases hd:depM (evAt es i) (evAt es b)
  ·rfl
  ·have:=o2 i q1 (.one (p1 i hi) hd)
   rw [q2] at this
   cases this
 ·rintro e' rest' ⟨a,c,f1,f2,f3⟩
  unfold leftE at f1
  obtain ⟨I,R,g1,g2,g3⟩:=List.map_eq_append_iff.1 f1
  obtain ⟨k,J,g4,g5,g6⟩:=List.map_eq_cons_iff.1 g3
  rw [g4] at g1
  obtain ⟨p1,p2⟩:=part_rises g1
  have hm:k ∈ leftI used es.length:=by rw [g1];simp
  obtain ⟨q1,q2⟩:=mem_leftI.1 hm
  have free:∀ i,i<k→used i=false→depE es i k=false:=fun i hi hu=>by
   have hmi:i ∈ leftI used es.length:=mem_leftI.2 ⟨by omega,hu⟩
   rw [g1] at hmi
   simp only [List.mem_append,List.mem_cons] at hmi
   rcases hmi with hmi | hmi | hmi
   ·have:=f3 (evAt es i) (by rw [← g2];exact List.mem_map_of_mem hmi)
    rw [← g5] at this
    exact this
   ·omega
   ·have:=p2 i hmi
    omega
  have okk:okU (befB (depE es)) es.length used k=true:=by
   rw [ok_iff]
   refine ⟨q2,fun i hi hbf=>?_⟩
   obtain ⟨j,j1,j2,j3⟩:=bef_iff.1 hbf
   have hj:used j=true:=by
    cases hu:used j
    ·rw [free j j1 hu] at j2;cases j2
    ·rfl
   rcases j3 with rfl | j3
   ·exact hj
   ·exact hc i j (by omega) j3 hj
  have hle:=leastT_le (th:=thE es) okk es.length q1
  rw [hl] at hle
  rw [← g5,← thE_int h b,← thE_int h k]
  omega
theorem stS_step {B:Nat→Nat→Bool} {th:Nat→Nat} {n s b:Nat} (hb:bestS (okU B n (stS B th n s).1) th n=some b):stS B th n (s+1)=(fun i=>(stS B th n s).1 i || i == b,(stS B th n s).2++[th b]):=by
 show (match bestS (okU B n (stS B th n s).1) th n with | none=>_ | some b=>_)=_
 rw [hb]
theorem norm_on {es:List I4} (h:inThree es):∀ s,s≤es.length→(∀ i k,k<es.length→Bef (depE es) i k→(stS (befB (depE es)) (thE es) es.length s).1 k=true→(stS (befB (depE es)) (thE es) es.length s).1 i=true)∧∀ ts,Nrm (leftE es (stS (befB (depE es)) (thE es) es.length s).1) ts→Nrm es ((stS (befB (depE es)) (thE es) es.length s).2.map (fun t:Nat=>(t:Int))++ts)
 | 0,_=>by
  refine ⟨fun i k _ _ hk=>(by cases hk),fun ts ht=>?_⟩
  have e:leftE es (stS (befB (depE es)) (thE es) es.length 0).1=es:=left_all es
  rw [e] at ht
  exact ht
 | s+1,hs=>by
  obtain ⟨ic,ih⟩:=norm_on h s (by omega)
  obtain ⟨_,_,_,h4⟩:=norm_same (D:=depE es) (B:=befB (depE es)) (depE_thread h) (thE_three h) (n:=es.length) (fun i k _ _=>befB_iff) s (by omega)
  obtain ⟨b,hb,hbn,_⟩:=h4 (by omega)
  obtain ⟨_,hok,hp⟩:=best_pick h ic hb
  have hall:∀ i,i<es.length→Bef (depE es) i b→(stS (befB (depE es)) (thE es) es.length s).1 i=true:=fun i hi hbf=>by
   unfold okU at hok
   rw [Bool.and_eq_true,allU_iff] at hok
   exact hok.2 i hi (befB_iff.2 hbf)
  rw [stS_step hb]
  refine ⟨fun i k hk hbf hu=>?_,fun ts ht=>?_⟩
  ·simp only [Bool.or_eq_true,beq_iff_eq] at hu ⊢
   rcases hu with hu | hu
   ·exact .inl (ic i k hk hbf hu)
   ·subst hu
    exact .inl (hall i (by have:=hbf.lt;omega) hbf)
  ·have h5:=ih _ (Nrm.cons hp ht)
   rw [List.map_append,List.append_assoc]
   have h6:((evAt es b).1::ts)=([thE es b].map (fun t:Nat=>(t:Int))++ts):=by
    simp [thE_int h b]
   rw [h6] at h5
   exact h5
theorem cntU_full {used:Nat→Bool}:∀ n,cntU used n=n→∀ i,i<n→used i=true
 | 0,_,i,hi=>by omega
 | n+1,h,i,hi=>by
  have hle:∀ m,cntU used m≤m:=fun m=>by
   induction m with
   | zero=>exact Nat.le_refl _
   | succ m ih=>show cntU used m+_≤_;split<;>omega
  have e:cntU used (n+1)=cntU used n+(if used n then 1 else 0):=rfl
  have h1:=hle n
  cases hu:used n
  ·rw [e,hu] at h;simp at h;omega
  ·rw [e,hu] at h
   simp at h
   by_cases hx:i=n
   ·subst hx;exact hu
   ·exact cntU_full n h i (by omega)
theorem norm_is {es:List I4} (h:inThree es):Nrm es ((stS (befB (depE es)) (thE es) es.length es.length).2.map (fun t:Nat=>(t:Int)))∧(stS (befB (depE es)) (thE es) es.length es.length).2=(stI (depE es) (thE es) es.length es.length).2:=by
 obtain ⟨h1,_,h3,_⟩:=norm_same (D:=depE es) (B:=befB (depE es)) (depE_thread h) (thE_three h) (n:=es.length) (fun i k _ _=>befB_iff) es.length (Nat.le_refl _)
 refine ⟨?_,h1⟩
 have h4:=(norm_on h es.length (Nat.le_refl _)).2 []
 rw [List.append_nil] at h4
 refine h4 ?_
 have e:leftI (stS (befB (depE es)) (thE es) es.length es.length).1 es.length=[]:=by
  rw [List.eq_nil_iff_forall_not_mem]
  intro i hi
  obtain ⟨q1,q2⟩:=mem_leftI.1 hi
  rw [cntU_full es.length h3 i q1] at q2
  cases q2
 unfold leftE
 rw [e]
 exact .nil

open Go.RowKit

theorem l01In_isB (n a b:Int) (w:World):Calls Tryz.prog 131 #[.int .i64 n,.int .i64 a,.int .i64 b] w fun e w'=>e=.returned (.bool (inB n a b))∧w=w':=by
 cases h:inB n a b
 ·exact l01In_no n a b w (inB_false.1 h)
 ·exact l01In_yes n a b w (inB_true.1 h)

def okB (x:I3):Bool:=
 if x.1=14 then decide (x.2.1=0) && decide (x.2.2=0)
 else if x.1=12∨x.1=13 then inB x.2.1 0 2 && inB x.2.2 0 5
 else false

theorem isThread_is (n:Int) (w:World):Calls Tryz.prog 133 #[.int .i64 n] w fun e w'=>e=.returned (.bool (inB n 0 2))∧w=w':=by
 cases h:inB n 0 2
 ·rw [inB_false] at h
  by_cases h1:0≤n
  ·have h2:decide (n<3)=false:=by simp;omega
   clear h
   go_enter Tryz.func133,Tryz.ntmps133
   go_wp2
   go_ret
   exact ⟨rfl,rfl⟩
  ·clear h
   go_enter Tryz.func133,Tryz.ntmps133
   go_wp2
   go_ret
   exact ⟨rfl,rfl⟩
 ·rw [inB_true] at h
  obtain ⟨h1,h3⟩:=h
  have h2:decide (n<3)=true:=by simp;omega
  clear h3
  go_enter Tryz.func133,Tryz.ntmps133
  go_wp2
  go_ret
  exact ⟨by simp_all,rfl⟩

end Go.Proofs.YtifoggpohlegmaaGreatDoor
