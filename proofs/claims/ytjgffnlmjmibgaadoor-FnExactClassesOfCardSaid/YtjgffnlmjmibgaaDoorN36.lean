/-
  Joined: MatP, NrmS, OrdS, NorS.
-/
import Derived.Test.YtjgffnlmjmibgaaDoorN15
import Derived.Test.YtjgffnlmjmibgaaDoorN34
import Derived.Test.YtjgffnlmjmibgaaDoorN35

namespace Go.Proofs.YtjgffnlmjmibgaaDoor
set_option maxRecDepth 100000
set_option maxHeartbeats 16000000
set_option linter.unusedVariables false

noncomputable def befB (D:Nat→Nat→Bool) (i k:Nat):Bool:=@decide (Bef D i k) (Classical.propDecidable _)
theorem befB_iff {D:Nat→Nat→Bool} {i k:Nat}:befB D i k=true↔Bef D i k:=by
 unfold befB
 exact @decide_eq_true_iff _ (Classical.propDecidable _)
theorem bool_ext {a b:Bool} (h:a=true↔b=true):a=b:=by
 cases a<;>cases b<;>simp_all
noncomputable def colB (D:Nat→Nat→Bool) (k i h:Nat):Bool:=@decide (∃ j,i≤j∧j<k∧D j k=true∧(h=j∨Bef D h j)) (Classical.propDecidable _)
theorem colB_iff {D:Nat→Nat→Bool} {k i h:Nat}:colB D k i h=true↔∃ j,i≤j∧j<k∧D j k=true∧(h=j∨Bef D h j):=by
 unfold colB
 exact @decide_eq_true_iff _ (Classical.propDecidable _)
noncomputable def midB (D:Nat→Nat→Bool) (k i c h:Nat):Bool:=colB D k (i+1) h || (h == i || (decide (h<c) && befB D h i))
theorem colB_top (D:Nat→Nat→Bool) (k h:Nat):colB D k k h=false:=by
 cases e:colB D k k h
 ·rfl
 ·obtain ⟨j,h1,h2,_⟩:=colB_iff.1 e
  omega
theorem colB_skip {D:Nat→Nat→Bool} {k i:Nat} (hd:D i k=false) (h:Nat):colB D k i h=colB D k (i+1) h:=by
 refine bool_ext ?_
 rw [colB_iff,colB_iff]
 constructor
 ·rintro ⟨j,h1,h2,h3,h4⟩
  refine ⟨j,?_,h2,h3,h4⟩
  by_cases e:i=j
  ·subst e;rw [hd] at h3;cases h3
  ·omega
 ·rintro ⟨j,h1,h2,h3,h4⟩
  exact ⟨j,by omega,h2,h3,h4⟩
theorem midB_zero (D:Nat→Nat→Bool) (k i h:Nat):midB D k i 0 h=(colB D k (i+1) h || h == i):=by simp [midB]
theorem midB_succ (D:Nat→Nat→Bool) (k i c h:Nat):midB D k i (c+1) h=(midB D k i c h || (h == c && befB D c i)):=by
 refine bool_ext ?_
 unfold midB
 simp only [Bool.or_eq_true,Bool.and_eq_true,decide_eq_true_eq,beq_iff_eq]
 constructor
 ·rintro (h1 | h1 | ⟨h1,h2⟩)
  ·exact .inl (.inl h1)
  ·exact .inl (.inr (.inl h1))
  ·by_cases e:h=c
   ·exact .inr ⟨e,by rw [← e];exact h2⟩
   ·exact .inl (.inr (.inr ⟨by omega,h2⟩))
 ·rintro ((h1 | h1 | ⟨h1,h2⟩) | ⟨h1,h2⟩)
  ·exact .inl h1
  ·exact .inr (.inl h1)
  ·exact .inr (.inr ⟨by omega,h2⟩)
  ·exact .inr (.inr ⟨by omega,by rw [h1];exact h2⟩)
theorem midB_end {D:Nat→Nat→Bool} {k i:Nat} (hd:D i k=true) (hi:i<k) (h:Nat):midB D k i i h=colB D k i h:=by
 refine bool_ext ?_
 unfold midB
 simp only [Bool.or_eq_true,Bool.and_eq_true,decide_eq_true_eq,beq_iff_eq]
 rw [colB_iff,colB_iff,befB_iff]
 constructor
 ·rintro (⟨j,h1,h2,h3,h4⟩ | h1 | ⟨h1,h2⟩)
  ·exact ⟨j,by omega,h2,h3,h4⟩
  ·exact ⟨i,Nat.le_refl _,hi,hd,.inl h1⟩
  ·exact ⟨i,Nat.le_refl _,hi,hd,.inr h2⟩
 ·rintro ⟨j,h1,h2,h3,h4⟩
  by_cases e:i=j
  ·subst e
   rcases h4 with h4 | h4
   ·exact .inr (.inl h4)
   ·exact .inr (.inr ⟨h4.lt,h4⟩)
  ·exact .inl ⟨j,by omega,h2,h3,h4⟩
theorem colB_all (D:Nat→Nat→Bool) (k h:Nat):colB D k 0 h=befB D h k:=by
 refine bool_ext ?_
 rw [colB_iff,befB_iff,bef_iff]
 constructor
 ·rintro ⟨j,_,h2,h3,h4⟩
  exact ⟨j,h2,h3,h4⟩
 ·rintro ⟨j,h2,h3,h4⟩
  exact ⟨j,by omega,h2,h3,h4⟩


def evAt (es:List I4) (i:Nat):I4:=es.getD i (0,0,0,0)
def thE (es:List I4) (i:Nat):Nat:=(evAt es i).1.toNat
def depE (es:List I4) (i k:Nat):Bool:=depM (evAt es i) (evAt es k)
def inThree (es:List I4):Prop:=∀ x ∈ es,0≤x.1∧x.1<3
theorem evAt_mem {es:List I4} {i:Nat} (h:i<es.length):evAt es i ∈ es:=by
 unfold evAt
 simp only [List.getD,List.getElem?_eq_getElem h,Option.getD_some]
 exact List.getElem_mem h
theorem evAt_three {es:List I4} (h:inThree es) (i:Nat):0≤(evAt es i).1∧(evAt es i).1<3:=by
 by_cases hi:i<es.length
 ·exact h _ (evAt_mem hi)
 ·unfold evAt
  simp [List.getD,List.getElem?_eq_none (Nat.le_of_not_lt hi)]
theorem thE_three {es:List I4} (h:inThree es) (i:Nat):thE es i<3:=by
 have:=evAt_three h i
 unfold thE
 omega
theorem thE_int {es:List I4} (h:inThree es) (i:Nat):((thE es i:Nat):Int)=(evAt es i).1:=by
 have:=evAt_three h i
 unfold thE
 omega
theorem depE_thread {es:List I4} (h:inThree es) (i k:Nat) (_:i<k) (ht:thE es i=thE es k):depE es i k=true:=by
 refine depM_thread ?_
 rw [← thE_int h i,← thE_int h k,ht]
theorem leastT_le {ok:Nat→Bool} {th:Nat→Nat} {k:Nat} (ho:ok k=true):∀ n,k<n→leastT ok th n≤th k
 | 0,h=>by omega
 | n+1,h=>by
  have e:leastT ok th (n+1)=if ok n then Nat.min (leastT ok th n) (th n) else leastT ok th n:=rfl
  have hm:∀ a b:Nat,Nat.min a b=min a b:=fun _ _=>rfl
  by_cases hk:k=n
  ·subst hk
   rw [e,if_pos ho,hm]
   omega
  ·have ih:=leastT_le (th:=th) ho n (by omega)
   rw [e]
   split
   ·rw [hm];omega
   ·exact ih
def leftI (used:Nat→Bool) (n:Nat):List Nat:=(List.range n).filter (fun i=>!used i)
def leftE (es:List I4) (used:Nat→Bool):List I4:=(leftI used es.length).map (evAt es)
theorem mem_leftI {used:Nat→Bool} {n i:Nat}:i ∈ leftI used n↔i<n∧used i=false:=by
 unfold leftI
 simp
theorem leftI_rises (used:Nat→Bool) (n:Nat):(leftI used n).Pairwise (· < ·):=List.Pairwise.filter _ List.pairwise_lt_range
theorem part_rises {used:Nat→Bool} {n k:Nat} {I J:List Nat} (h:leftI used n=I++k::J):(∀ i ∈ I,i<k)∧(∀ j ∈ J,k<j):=by
 have hr:=leftI_rises used n
 rw [h,List.pairwise_append] at hr
 obtain ⟨_,h2,h3⟩:=hr
 rw [List.pairwise_cons] at h2
 exact ⟨fun i hi=>h3 i hi k (by simp),fun j hj=>h2.1 j hj⟩
theorem leftI_put {used:Nat→Bool} {n b:Nat} {I J:List Nat} (h:leftI used n=I++b::J):leftI (fun i=>used i || i == b) n=I++J:=by
 obtain ⟨h1,h2⟩:=part_rises h
 have e:leftI (fun i=>used i || i == b) n=(leftI used n).filter (fun i=>!(i == b)):=by
  unfold leftI
  rw [List.filter_filter]
  refine List.filter_congr (fun i _=>?_)
  rw [Bool.not_or,Bool.and_comm]
 rw [e,h,List.filter_append]
 have f1:I.filter (fun i=>!(i == b))=I:=by
  rw [List.filter_eq_self]
  intro i hi
  have:=h1 i hi
  simp
  omega
 have f2:(b::J).filter (fun i=>!(i == b))=J:=by
  rw [List.filter_cons]
  simp only [beq_self_eq_true,Bool.not_true,Bool.false_eq_true,if_false]
  rw [List.filter_eq_self]
  intro i hi
  have:=h2 i hi
  simp
  omega
 rw [f1,f2]
theorem left_all (es:List I4):leftE es (fun _=>false)=es:=by
 unfold leftE leftI
 have e:(List.range es.length).filter (fun i=>!false)=List.range es.length:=by
  rw [List.filter_eq_self]
  intro i _
  rfl
 rw [e]
 refine List.ext_getElem (by simp) (fun i h1 h2=>?_)
 simp [evAt,List.getD,h2]
theorem best_pick {es:List I4} (h:inThree es) {used:Nat→Bool} {b:Nat} (hc:∀ i k,k<es.length→Bef (depE es) i k→used k=true→used i=true) (hb:bestS (okU (befB (depE es)) es.length used) (thE es) es.length=some b) :
  b<es.length∧okU (befB (depE es)) es.length used b=true∧Pick (leftE es used) (evAt es b) (leftE es (fun i=>used i || i == b)):=by
 have ok_iff:∀ k,okU (befB (depE es)) es.length used k=true↔used k=false∧∀ i,i<es.length→Bef (depE es) i k→used i=true:=fun k=>by
  unfold okU
  rw [Bool.and_eq_true,allU_iff]
  simp only [Bool.not_eq_true',befB_iff]
 rcases best_least (ok:=okU (befB (depE es)) es.length used) (thE_three h) es.length with ⟨e,_,_⟩ | ⟨b',e,hbn,hok,hl⟩
 ·rw [hb] at e;cases e
 rw [hb] at e
 cases e
 obtain ⟨o1,o2⟩:=(ok_iff b).1 hok
 refine ⟨hbn,hok,?_,?_⟩
 ·obtain ⟨I,J,hIJ⟩:=List.append_of_mem (mem_leftI.2 ⟨hbn,o1⟩)
  obtain ⟨p1,p2⟩:=part_rises hIJ
  refine ⟨I.map (evAt es),J.map (evAt es),by unfold leftE;rw [hIJ];simp,by unfold leftE;rw [leftI_put hIJ];simp,?_⟩
  intro x hx
  obtain ⟨i,hi,rfl⟩:=List.mem_map.1 hx
  have hm:i ∈ leftI used es.length:=by rw [hIJ];simp [hi]
  obtain ⟨q1,q2⟩:=mem_leftI.1 hm
  cases hd:depM (evAt es i) (evAt es b)
  ·rfl
  ·have:=o2 i q1 (.one (p1 i hi) hd)
   rw [q2] at this
   cases this
 ·rintro e' rest' ⟨a,c,f1,f2,f3⟩
  unfold leftE at f1
  obtain ⟨I,R,g1,g2,g3⟩:=List.map_eq_append_iff.1 f1
  obtain ⟨k,J,g4,g5,g6⟩:=List.map_eq_cons_iff.1 g3
  rw [g4] at g1
  obtain ⟨p1,p2⟩:=part_rises g1
  have hm:k ∈ leftI used es.length:=by rw [g1];simp
  obtain ⟨q1,q2⟩:=mem_leftI.1 hm
  have free:∀ i,i<k→used i=false→depE es i k=false:=fun i hi hu=>by
   have hmi:i ∈ leftI used es.length:=mem_leftI.2 ⟨by omega,hu⟩
   rw [g1] at hmi
   simp only [List.mem_append,List.mem_cons] at hmi
   rcases hmi with hmi | hmi | hmi
   ·have:=f3 (evAt es i) (by rw [← g2];exact List.mem_map_of_mem hmi)
    rw [← g5] at this
    exact this
   ·omega
   ·have:=p2 i hmi
    omega
  have okk:okU (befB (depE es)) es.length used k=true:=by
   rw [ok_iff]
   refine ⟨q2,fun i hi hbf=>?_⟩
   obtain ⟨j,j1,j2,j3⟩:=bef_iff.1 hbf
   have hj:used j=true:=by
    cases hu:used j
    ·rw [free j j1 hu] at j2;cases j2
    ·rfl
   rcases j3 with rfl | j3
   ·exact hj
   ·exact hc i j (by omega) j3 hj
  have hle:=leastT_le (th:=thE es) okk es.length q1
  rw [hl] at hle
  rw [← g5,← thE_int h b,← thE_int h k]
  omega
theorem stS_step {B:Nat→Nat→Bool} {th:Nat→Nat} {n s b:Nat} (hb:bestS (okU B n (stS B th n s).1) th n=some b):stS B th n (s+1)=(fun i=>(stS B th n s).1 i || i == b,(stS B th n s).2++[th b]):=by
 show (match bestS (okU B n (stS B th n s).1) th n with | none=>_ | some b=>_)=_
 rw [hb]
theorem norm_on {es:List I4} (h:inThree es):∀ s,s≤es.length→(∀ i k,k<es.length→Bef (depE es) i k→(stS (befB (depE es)) (thE es) es.length s).1 k=true→(stS (befB (depE es)) (thE es) es.length s).1 i=true)∧∀ ts,Nrm (leftE es (stS (befB (depE es)) (thE es) es.length s).1) ts→Nrm es ((stS (befB (depE es)) (thE es) es.length s).2.map (fun t:Nat=>(t:Int))++ts)
 | 0,_=>by
  refine ⟨fun i k _ _ hk=>(by cases hk),fun ts ht=>?_⟩
  have e:leftE es (stS (befB (depE es)) (thE es) es.length 0).1=es:=left_all es
  rw [e] at ht
  exact ht
 | s+1,hs=>by
  obtain ⟨ic,ih⟩:=norm_on h s (by omega)
  obtain ⟨_,_,_,h4⟩:=norm_same (D:=depE es) (B:=befB (depE es)) (depE_thread h) (thE_three h) (n:=es.length) (fun i k _ _=>befB_iff) s (by omega)
  obtain ⟨b,hb,hbn,_⟩:=h4 (by omega)
  obtain ⟨_,hok,hp⟩:=best_pick h ic hb
  have hall:∀ i,i<es.length→Bef (depE es) i b→(stS (befB (depE es)) (thE es) es.length s).1 i=true:=fun i hi hbf=>by
   unfold okU at hok
   rw [Bool.and_eq_true,allU_iff] at hok
   exact hok.2 i hi (befB_iff.2 hbf)
  rw [stS_step hb]
  refine ⟨fun i k hk hbf hu=>?_,fun ts ht=>?_⟩
  ·simp only [Bool.or_eq_true,beq_iff_eq] at hu ⊢
   rcases hu with hu | hu
   ·exact .inl (ic i k hk hbf hu)
   ·subst hu
    exact .inl (hall i (by have:=hbf.lt;omega) hbf)
  ·have h5:=ih _ (Nrm.cons hp ht)
   rw [List.map_append,List.append_assoc]
   have h6:((evAt es b).1::ts)=([thE es b].map (fun t:Nat=>(t:Int))++ts):=by
    simp [thE_int h b]
   rw [h6] at h5
   exact h5
theorem cntU_full {used:Nat→Bool}:∀ n,cntU used n=n→∀ i,i<n→used i=true
 | 0,_,i,hi=>by omega
 | n+1,h,i,hi=>by
  have hle:∀ m,cntU used m≤m:=fun m=>by
   induction m with
   | zero=>exact Nat.le_refl _
   | succ m ih=>show cntU used m+_≤_;split<;>omega
  have e:cntU used (n+1)=cntU used n+(if used n then 1 else 0):=rfl
  have h1:=hle n
  cases hu:used n
  ·rw [e,hu] at h;simp at h;omega
  ·rw [e,hu] at h
   simp at h
   by_cases hx:i=n
   ·subst hx;exact hu
   ·exact cntU_full n h i (by omega)
theorem norm_is {es:List I4} (h:inThree es):Nrm es ((stS (befB (depE es)) (thE es) es.length es.length).2.map (fun t:Nat=>(t:Int)))∧(stS (befB (depE es)) (thE es) es.length es.length).2=(stI (depE es) (thE es) es.length es.length).2:=by
 obtain ⟨h1,_,h3,_⟩:=norm_same (D:=depE es) (B:=befB (depE es)) (depE_thread h) (thE_three h) (n:=es.length) (fun i k _ _=>befB_iff) es.length (Nat.le_refl _)
 refine ⟨?_,h1⟩
 have h4:=(norm_on h es.length (Nat.le_refl _)).2 []
 rw [List.append_nil] at h4
 refine h4 ?_
 have e:leftI (stS (befB (depE es)) (thE es) es.length es.length).1 es.length=[]:=by
  rw [List.eq_nil_iff_forall_not_mem]
  intro i hi
  obtain ⟨q1,q2⟩:=mem_leftI.1 hi
  rw [cntU_full es.length h3 i q1] at q2
  cases q2
 unfold leftE
 rw [e]
 exact .nil

open Go.RowKit
set_option linter.unusedSimpArgs false

theorem info_boolO:(Tryd.prog.info? 4).map (fun i=>(i.zero,i.size,i.bytes))=some (some (.bool false),1,1):=by kernel_rfl
def OrdGot (e:Ending) (w w':World) (n:Nat) (D:Nat→Nat→Bool):Prop:=∃ g,e=.returned (.slice (some ⟨g,0,none⟩) (n*n) (n*n))∧Blk w' g 4 (tab2 n (befB D))∧w.heap.size≤g∧Below w.heap.size w w'
noncomputable def ordF (D:Nat→Nat→Bool) (k:Nat) (f:Nat→Bool) (h c:Nat):Bool:=if c<k then befB D h c else if c=k then f h else false
theorem ordF_next {n k:Nat} {D:Nat→Nat→Bool}:tab2 n (ordF D k (befB D · k))=tab2 n (ordF D (k+1) (fun _=>false)):=by
 refine tab2_congr (fun i c _ _=>?_)
 unfold ordF
 by_cases h1:c<k
 ·rw [if_pos h1,if_pos (by omega)]
 ·rw [if_neg h1]
  by_cases h2:c=k
  ·rw [if_pos h2,if_pos (by omega),h2]
  ·rw [if_neg h2,if_neg (by omega)]
   split<;>rfl
theorem ordF_set {n k i:Nat} {D:Nat→Nat→Bool} {f:Nat→Bool} (hi:i<n) (hk:k<n):(tab2 n (ordF D k f)).set (i*n+k) (.bool true)=tab2 n (ordF D k (fun h=>f h || h == i)):=by
 rw [tab2_set _ _ hi hk]
 refine tab2_congr (fun h c _ _=>?_)
 unfold ordF
 by_cases h1:c<k
 ·rw [if_neg (by omega),if_pos h1,if_pos h1]
 ·rw [if_neg h1,if_neg h1]
  by_cases h2:c=k
  ·subst h2
   simp only [and_true,if_true]
   by_cases h3:h=i
   ·simp [h3]
   ·simp [h3]
  ·simp [h2]
theorem ordF_congr {n k:Nat} {D:Nat→Nat→Bool} {f g:Nat→Bool} (h:∀ i,f i=g i):tab2 n (ordF D k f)=tab2 n (ordF D k g):=by
 have:f=g:=funext h
 rw [this]

theorem l05Order_is (a:Option Addr) (n c:Nat) (es:List I4) (w:World) (h:Evs w a n es) (hn:n≤4096) :
  Calls Tryd.prog 113 #[.slice a n c] w fun e w'=>OrdGot e w w' n (depE es):=by
 obtain ⟨i0,hi9,hz0,hz1,hz2⟩:=info_parts info_boolO
 obtain ⟨N,hN⟩:∃ N,N=n*n:=⟨_,rfl⟩
 have hNb:N≤16777216:=by rw [hN];exact Nat.mul_le_mul hn hn
 have hw:=wrap_sq hN hNb
 unfold OrdGot
 rw [← hN]
 have HN:Hid (N=n*n):=hN
 clear hN
 obtain ⟨D,hD⟩:∃ D,D=depE es:=⟨_,rfl⟩
 rw [← hD]
 have HD:Hid (D=depE es):=hD
 clear hD
 go_enter Tryd.func113,Tryd.ntmps113
 go_wp2_with (at_make;refine wpList_make_full _ rfl _ _ 176 rfl w.heap.size 4 i0 (.bool false) 1 Tryd.underlying176 hi9 hz0 hz1 _ _ _ _ N rfl rfl hw hw ?b2 ?b3 ?b4 ?_)
 case b2=>rw [hz2];omega
 case b3=>unfold maxLen;omega
 case b4=>exact Nat.le_refl _
 intro w1 hown hgrow
 rw [made_tab] at hown
 have bw:Below w.heap.size w w1:=⟨hgrow.os,hgrow.tape,hgrow.output,hgrow.size,fun k hk=>hgrow.block k hk (by simp)⟩
 have pT:Hid (Blk w1 w.heap.size 4 (tab2 n (ordF D 0 (fun _=>false)))):=by
  have:=(blk_of_full hown).1
  rw [HN.out] at this
  refine this.trans ?_
  congr 3
  refine tab_congr (fun i _=>?_)
  unfold ordF
  simp
 clear hown hgrow
 obtain ⟨g,hg⟩:∃ g,g=w.heap.size:=⟨_,rfl⟩
 have hgw:w.heap.size≤g:=by omega
 rw [← hg] at pT ⊢
 clear hg
 go_wp2_with fail
 go_loopw [5] (fun sk wr=>∃ k:Nat,k≤n∧sk=.int .i64 k∧Hid (Blk wr g 4 (tab2 n (ordF D k (fun _=>false))))∧Below w.heap.size w wr) (fun sk _=>n - (intOf sk).toNat)
 case atStart=>exact ⟨0,by omega,rfl,pT,bw⟩
 case round =>
  clear pT bw
  obtain ⟨k,hk,rfl,pT,bw⟩:=hrel
  by_cases hkn:k<n
  ·have hkn':(k:Int)<(n:Int):=by omega
   have pT2:Hid (Blk wr g 4 (tab2 n (ordF D k (colB D k k)))):=by
    have e:=ordF_congr (n:=n) (k:=k) (D:=D) (f:=colB D k k) (g:=fun _=>false) (colB_top D k)
    unfold Hid
    rw [e]
    exact pT.out
   clear pT
   go_wp2_with fail
   go_loopw [6] (fun si wr=>∃ ii:Nat,ii≤k∧si=.int .i64 ((ii:Int) - 1)∧Hid (Blk wr g 4 (tab2 n (ordF D k (colB D k ii))))∧Below w.heap.size w wr) (fun si _=>(intOf si+1).toNat)
   case atStart=>exact ⟨k,by omega,rfl,pT2,bw⟩
   case round =>
    clear pT2 bw
    obtain ⟨ii,hii,rfl,pT,bw⟩:=hrel
    rcases Nat.eq_zero_or_pos ii with rfl | hpos
    ·have pT2:Hid (Blk wr g 4 (tab2 n (ordF D (k+1) (fun _=>false)))):=by
      have e:=ordF_congr (n:=n) (k:=k) (D:=D) (f:=colB D k 0) (g:=(befB D · k)) (colB_all D k)
      unfold Hid
      rw [← ordF_next,← e]
      exact pT.out
     clear pT
     go_wp2
     go_roundw
     case rel=>exact ⟨k+1,by omega,by go_num,pT2,bw⟩
     case measure=>simp [intOf];omega
    ·obtain ⟨i,rfl⟩:∃ i,ii=i+1:=⟨ii - 1,by omega⟩
     have hi0:((i+1:Nat):Int) - 1=(i:Int):=by omega
     rw [hi0]
     have hi9:(0:Int)≤(i:Int):=by omega
     have hin:(i:Int)<(n:Int):=by omega
     have hk0:(0:Int)≤(k:Int):=by omega
     obtain ⟨h1,h2,h3 | ⟨ge,rfl,hgl,hce⟩⟩:=h
     ·clear h2;omega
     clear h2
     have gc:=fun t ht=>by
      have:=hce t ht
      rw [← bw.cell (p:=⟨ge,_,none⟩) hgl,← bw.cell (p:=⟨ge,_,none⟩) hgl,← bw.cell (p:=⟨ge,_,none⟩) hgl,← bw.cell (p:=⟨ge,_,none⟩) hgl] at this
      exact this
     obtain ⟨c0,c1,c2,c3⟩:=gc i (by omega)
     obtain ⟨e0,e1,e2,e3⟩:=gc k (by omega)
     clear gc
     have hDx:D i k=depM (es.getD i (0,0,0,0)) (es.getD k (0,0,0,0)):=by rw [HD.out];rfl
     generalize es.getD i (0,0,0,0)=x at c0 c1 c2 c3 hDx
     generalize es.getD k (0,0,0,0)=y at e0 e1 e2 e3 hDx
     obtain ⟨M,P,hw1,hw2,hP,hP0,hPe⟩:=ix_two HN.out hNb (show i<n by omega) hkn
     have HP:Hid (P=i*n+k):=hPe
     clear hPe
     go_wp2_with fail
     go_region_held3 (fun w'=>w'.cell? ⟨ge,i*4,none⟩=some (.int .i64 x.1)∧w'.cell? ⟨ge,i*4+1,none⟩=some (.int .i64 x.2.1)∧w'.cell? ⟨ge,i*4+2,none⟩=some (.int .i64 x.2.2.1)∧w'.cell? ⟨ge,i*4+3,none⟩=some (.int .i64 x.2.2.2)∧w'.cell? ⟨ge,k*4,none⟩=some (.int .i64 y.1)∧w'.cell? ⟨ge,k*4+1,none⟩=some (.int .i64 y.2.1)∧w'.cell? ⟨ge,k*4+2,none⟩=some (.int .i64 y.2.2.1)∧w'.cell? ⟨ge,k*4+3,none⟩=some (.int .i64 y.2.2.2)) (first | (exact ⟨c0,c1,c2,c3,e0,e1,e2,e3⟩) | (refine ⟨?_,?_,?_,?_,?_,?_,?_,?_⟩<;>(apply cells_kept (by assumption);assumption)) | go_keep)
      (first | (go_at_call 128;refine (specDepends_is x y _).mono ?_;rintro e w2 ⟨rfl,hb1⟩))
     rename_i hHeld
     rw [← hDx]
     have bw2:Below w.heap.size w w2:=bel_trans bw (bel_trans (by go_grown) hb1)
     have pT2:Hid (Blk w2 g 4 (tab2 n (ordF D k (colB D k (i+1))))):=pT.out.below (bel_trans (by go_grown) hb1)
     clear pT hb1 bw c0 c1 c2 c3 e0 e1 e2 e3 hce
     cases hd:D i k
     ·have pT3:Hid (Blk w2 g 4 (tab2 n (ordF D k (colB D k i)))):=by
       have e:=ordF_congr (n:=n) (k:=k) (D:=D) (f:=colB D k i) (g:=colB D k (i+1)) (colB_skip hd)
       unfold Hid
       rw [e]
       exact pT2.out
      clear pT2 hDx hHeld hd
      go_wp2
      go_roundw
      case rel=>exact ⟨i,by omega,by go_num,pT3,bw2⟩
      case measure=>simp [intOf]<;>omega
     ·have qc:=pT2.out.cell P
      have qf:=pT2.out.frozen P
      rw [HP.out,tab2_get _ (by omega) hkn,← HP.out] at qc
      have pT3:Hid (Blk (w2.setCell ⟨g,P,none⟩ (.bool true)) g 4 (tab2 n (ordF D k (midB D k i 0)))):=by
       have:=pT2.out.set P (.bool true)
       rw [HP.out,ordF_set (by omega) hkn,← HP.out] at this
       have e:=ordF_congr (n:=n) (k:=k) (D:=D) (f:=midB D k i 0) (g:=fun h=>colB D k (i+1) h || h == i) (midB_zero D k i)
       unfold Hid
       rw [e]
       exact this
      have bw3:Below w.heap.size w (w2.setCell ⟨g,P,none⟩ (.bool true)):=bw2.setCell hgw _
      clear hDx hHeld pT2 bw2
      go_wp2_with fail
      generalize w2.setCell ⟨g,P,none⟩ (.bool true)=w3 at *
      clear qc qf hw1 hw2 hP hP0 HP
      go_loopw [7] (fun sh wr=>∃ h:Nat,h≤i∧sh=.int .i64 h∧Hid (Blk wr g 4 (tab2 n (ordF D k (midB D k i h))))∧Below w.heap.size w wr) (fun sh _=>i - (intOf sh).toNat)
      case atStart=>exact ⟨0,by omega,rfl,pT3,bw3⟩
      case round =>
       clear pT3 bw3
       obtain ⟨h,hh,rfl,pT,bw⟩:=hrel
       by_cases hhi:h<i
       ·have hhi':(h:Int)<(i:Int):=by omega
        obtain ⟨M,P,hw1,hw2,hP,hP0,hPe⟩:=ix_two HN.out hNb (show h<n by omega) (show i<n by omega)
        have HP:Hid (P=h*n+i):=hPe
        obtain ⟨M',P',hw1',hw2',hP',hP0',hPe'⟩:=ix_two HN.out hNb (show h<n by omega) hkn
        have HP':Hid (P'=h*n+k):=hPe'
        have eM:M'=M:=by
         exact (Int.ofNat_inj.1 (hw1.symm.trans hw1')).symm
        subst eM
        clear hPe hPe' hw1'
        have qc:=pT.out.cell P
        rw [HP.out,tab2_get _ (by omega) (by omega),← HP.out] at qc
        have eB:ordF D k (midB D k i h) h i=befB D h i:=by unfold ordF;rw [if_pos (by omega)]
        rw [eB] at qc
        clear eB
        have qc':=pT.out.cell P'
        have qf':=pT.out.frozen P'
        rw [HP'.out,tab2_get _ (by omega) (by omega),← HP'.out] at qc'
        cases hb:befB D h i
        ·have pT3:Hid (Blk wr g 4 (tab2 n (ordF D k (midB D k i (h+1))))):=by
          have e:=ordF_congr (n:=n) (k:=k) (D:=D) (f:=midB D k i (h+1)) (g:=midB D k i h) (fun j=>by rw [midB_succ,hb];simp)
          unfold Hid
          rw [e]
          exact pT.out
         rw [hb] at qc
         clear pT hb
         go_wp2
         go_roundw
         case rel=>exact ⟨h+1,by omega,by go_num,pT3,bw⟩
         case measure=>simp [intOf];omega
        ·have pT3:Hid (Blk (wr.setCell ⟨g,P',none⟩ (.bool true)) g 4 (tab2 n (ordF D k (midB D k i (h+1))))):=by
          have:=pT.out.set P' (.bool true)
          rw [HP'.out,ordF_set (by omega) hkn,← HP'.out] at this
          have e:=ordF_congr (n:=n) (k:=k) (D:=D) (f:=midB D k i (h+1)) (g:=fun j=>midB D k i h j || j == h) (fun j=>by rw [midB_succ,hb];simp)
          unfold Hid
          rw [e]
          exact this
         have bw3:Below w.heap.size w (wr.setCell ⟨g,P',none⟩ (.bool true)):=bw.setCell hgw _
         rw [hb] at qc
         clear pT hb bw
         go_wp2
         go_roundw
         case rel=>exact ⟨h+1,by omega,by go_num,pT3,bw3⟩
         case measure=>simp [intOf];omega
       ·obtain rfl:h=i:=by omega
        have pT3:Hid (Blk wr g 4 (tab2 n (ordF D k (colB D k h)))):=by
         have e:=ordF_congr (n:=n) (k:=k) (D:=D) (f:=colB D k h) (g:=midB D k h h) (fun j=>(midB_end hd (by omega) j).symm)
         unfold Hid
         rw [e]
         exact pT.out
        clear pT hd
        go_wp2
        go_roundw
        case rel=>exact ⟨h,by omega,by go_num,pT3,bw⟩
        case measure=>simp [intOf]<;>omega
  ·obtain rfl:k=n:=by omega
   have pT2:Blk wr g 4 (tab2 k (befB D)):=by
    have e:tab2 k (befB D)=tab2 k (ordF D k (fun _=>false)):=tab2_congr (fun i c _ hc=>by unfold ordF;rw [if_pos hc])
    rw [e]
    exact pT.out
   clear pT
   go_wp2
   go_ret
   exact ⟨g,rfl,pT2,hgw,bw⟩


theorem owns_sliceN {w:World} {B e s n:Nat} {v:Value} {xs:List Value} (h:w.ownsRow B e s v n xs):∃ a cap,v=.slice a n cap:=by
 rcases h.2 with ⟨rfl,rfl⟩ | ⟨g,cap,cur,rfl,_⟩
 ·exact ⟨_,_,rfl⟩
 ·exact ⟨_,_,rfl⟩
noncomputable def nrmE (es:List I4):List Int:=(stS (befB (depE es)) (thE es) es.length es.length).2.map (fun t:Nat=>(t:Int))
noncomputable def stN (es:List I4) (s:Nat):(Nat→Bool) × List Nat:=stS (befB (depE es)) (thE es) es.length s
def bestI:Option Nat→Int
 | none=>-1
 | some b=>b
def LstGot (e:Ending) (w:World) (B:Nat) (ks:List Int):Prop:=∃ v,e=.returned v∧w.ownsRow B 3 1 v ks.length (ks.map (Value.int .i64))
def OnNor (w wr:World) (gO gU:Nat) (es:List I4) (n s:Nat) (vo:Value):Prop:=
 Blk wr gO 4 (tab2 n (befB (depE es)))∧Blk wr gU 4 (tab n fun j=>.bool ((stN es s).1 j))∧wr.ownsRow w.heap.size 3 1 vo s (((stN es s).2.map (fun t:Nat=>(t:Int))).map (Value.int .i64))∧Below w.heap.size w wr∧gO<wr.heap.size
def lenV:Value→Nat
 | .slice _ n _=>n
 | _=>0
theorem OnNor.drewN {w wr:World} {gO gU:Nat} {es:List I4} {n s:Nat} {vo:Value} (h:OnNor w wr gO gU es n s vo) (d:Nat):OnNor w (wr.drewN d) gO gU es n s vo:=
 ⟨h.1.drewN d,h.2.1.drewN d,owns_below h.2.2.1 (below_dN d),bel_trans h.2.2.2.1 (below_dN d),h.2.2.2.2⟩
theorem bestS_step (ok:Nat→Bool) (th:Nat→Nat) (k:Nat):bestS ok th (k+1)=if ok k then (match bestS ok th k with | none=>some k | some b=>if th k<th b then some k else some b) else bestS ok th k:=rfl
theorem bestS_lt {ok:Nat→Bool} {th:Nat→Nat}:∀ k b,bestS ok th k=some b→b<k
 | 0,b,h=>by cases h
 | k+1,b,h=>by
  rw [bestS_step] at h
  have ih:=bestS_lt (ok:=ok) (th:=th) k
  split at h
  ·split at h
   ·cases h;omega
   ·rename_i b' hb'
    have:=ih b' hb'
    split at h<;>(cases h;omega)
  ·have:=ih b h;omega
theorem ev_cells {w0 w:World} {a:Option Addr} {n:Nat} {es:List I4} (h:Evs w0 a n es) (hb:Below w0.heap.size w0 w) {k:Nat} (hk:k<n):∃ ge,a=some ⟨ge,0,none⟩∧ge<w0.heap.size∧w.cell? ⟨ge,k*4,none⟩=some (.int .i64 (evAt es k).1)∧w.cell? ⟨ge,k*4+1,none⟩=some (.int .i64 (evAt es k).2.1)∧w.cell? ⟨ge,k*4+2,none⟩=some (.int .i64 (evAt es k).2.2.1)∧w.cell? ⟨ge,k*4+3,none⟩=some (.int .i64 (evAt es k).2.2.2):=by
 obtain ⟨h1,h2,h3 | ⟨ge,rfl,hgl,hce⟩⟩:=h
 ·clear h2;omega
 obtain ⟨c0,c1,c2,c3⟩:=hce k hk
 exact ⟨ge,rfl,hgl,(hb.cell (p:=⟨ge,_,none⟩) hgl).trans c0,(hb.cell (p:=⟨ge,_,none⟩) hgl).trans c1,(hb.cell (p:=⟨ge,_,none⟩) hgl).trans c2,(hb.cell (p:=⟨ge,_,none⟩) hgl).trans c3⟩
theorem stS_len {es:List I4} (h:inThree es) (s:Nat) (hs:s≤es.length):(stN es s).2.length=s:=by
 induction s with
 | zero=>rfl
 | succ s ih =>
  obtain ⟨_,_,_,h4⟩:=norm_same (D:=depE es) (B:=befB (depE es)) (depE_thread h) (thE_three h) (n:=es.length) (fun i k _ _=>befB_iff) s (by omega)
  obtain ⟨b,hb,_⟩:=h4 (by omega)
  unfold stN
  rw [stS_step hb]
  simp only [List.length_append,List.length_singleton]
  have:=ih (by omega)
  unfold stN at this
  rw [this]

theorem l05Normal_is (a:Option Addr) (n c:Nat) (es:List I4) (w:World) (h:Evs w a n es) (hn:n≤4096) (hI:inThree es) :
  Calls Tryd.prog 86 #[.slice a n c] w fun e w'=>LstGot e w' w.heap.size (nrmE es)∧Below w.heap.size w w':=by
 obtain ⟨i0,hi9,hz0,hz1,hz2⟩:=info_parts info_boolO
 obtain ⟨i1,hi,hz3,hz4,hz5⟩:=info_parts info_int
 obtain ⟨N,hN⟩:∃ N,N=n*n:=⟨_,rfl⟩
 have hNb:N≤16777216:=by rw [hN];exact Nat.mul_le_mul hn hn
 have HN:Hid (N=n*n):=hN
 have HL:Hid (es.length=n):=h.1
 have kO:=l05Order_is a n c es w h hn
 unfold OrdGot at kO
 rw [← hN] at kO
 clear hN
 go_enter Tryd.func86,Tryd.ntmps86
 go_wp2_with fail
 refine kO.mono ?_
 rintro e w1 ⟨gO,rfl,pO,hgO,bw⟩
 clear kO
 have hsz1:=bw.size
 go_wp2_with (at_make;refine wpList_make_full _ rfl _ _ 176 rfl w.heap.size 4 i0 (.bool false) 1 Tryd.underlying176 hi9 hz0 hz1 _ _ _ _ n rfl rfl rfl rfl ?b2 ?b3 ?b4 ?_)
 case b2=>rw [hz2];omega
 case b3=>unfold maxLen;omega
 case b4=>exact hsz1
 intro w2 hown hgrow
 rw [made_tab] at hown
 have ha:Below w1.heap.size w1 w2:=⟨hgrow.os,hgrow.tape,hgrow.output,hgrow.size,fun k hk=>hgrow.block k hk (by simp)⟩
 have pU:Hid (Blk w2 w1.heap.size 4 (tab n fun j=>.bool ((stN es 0).1 j))):=(blk_of_full hown).1
 have pO2:=pO.below ha
 have hOU:gO<w1.heap.size:=pO.lt
 replace bw:=bel_trans bw ha
 have hbn:Below w2.heap.size w2 (w2.alloc (.cells #[] 3)):=by go_grown
 have q:=own_emptyB w2 3 1 w.heap.size bw.size
 have pU2:=pU.out.below hbn
 replace pO2:=pO2.below hbn
 replace bw:=bel_trans bw hbn
 have hU2:=pU2.lt
 have st:OnNor w (w2.alloc (.cells #[] 3)) gO w1.heap.size es n 0 (.slice (some ⟨w2.heap.size,0,none⟩) 0 0):=⟨pO2,pU2,q,bw,by omega⟩
 clear hown hgrow ha pU pU2 pO pO2 bw q hbn hU2
 generalize w1.heap.size=gU at *
 go_wp2_with fail
 go_loopw [6] (fun so wr=>∃ (s:Nat) (oa:Option Addr) (oc:Nat),s≤n∧so=.slice oa s oc∧OnNor w wr gO gU es n s so) (fun so _=>n - lenV so)
 case atStart=>exact ⟨0,_,_,by omega,rfl,st⟩
 case round =>
  clear st
  obtain ⟨s,oa,oc,hs,rfl,st⟩:=hrel
  by_cases hsn:s<n
  ·have hsn':(s:Int)<(n:Int):=by omega
   have hns:=norm_same (D:=depE es) (B:=befB (depE es)) (depE_thread hI) (thE_three hI) (n:=es.length) (fun i k _ _=>befB_iff) s (by rw [HL.out];omega)
   obtain ⟨_,_,_,h4⟩:=hns
   obtain ⟨b,hb,hbn,_⟩:=h4 (by rw [HL.out];omega)
   have hst:=stS_step hb
   rw [HL.out] at hbn
   obtain ⟨ok,hok⟩:∃ ok,ok=okU (befB (depE es)) es.length (stN es s).1:=⟨_,rfl⟩
   have HB:Hid (bestS ok (thE es) n=some b):=by rw [hok,Hid,← HL.out];exact hb
   have HS:Hid (stN es (s+1)=(fun i=>(stN es s).1 i || i == b,(stN es s).2++[thE es b])):=hst
   have HK:Hid (ok=okU (befB (depE es)) n (stN es s).1):=by rw [Hid,hok,HL.out]
   clear h4 hb hst hok
   go_wp2_with fail
   go_loopw [7,8] (fun sb sk wq=>∃ k:Nat,k≤n∧sb=.int .i64 (bestI (bestS ok (thE es) k))∧sk=.int .i64 k∧OnNor w wq gO gU es n s (.slice oa s oc)) (fun _ sk _=>n - (intOf sk).toNat)
   case atStart=>exact ⟨0,by omega,rfl,rfl,st⟩
   case round =>
    clear st
    obtain ⟨k,hk,rfl,rfl,st⟩:=hrel
    by_cases hkn:k<n
    ·have hkn':(k:Int)<(n:Int):=by omega
     have hk0:(0:Int)≤(k:Int):=by omega
     have qk:=st.2.1.cell k
     rw [tab_get _ hkn] at qk
     go_wp2_with fail
     generalize wr=wq at *
     go_loopw [9,10] (fun sf si wz=>∃ i:Nat,i≤n∧sf=.bool (!(stN es s).1 k && allU (befB (depE es)) (stN es s).1 k i)∧si=.int .i64 i∧wz=wq) (fun _ si _=>n - (intOf si).toNat)
     case atStart=>exact ⟨0,by omega,by simp [allU],rfl,rfl⟩
     case round =>
      obtain ⟨i,hi,rfl,rfl,hwz⟩:=hrel
      subst hwz
      by_cases hin:i<n
      ·have hin':(i:Int)<(n:Int):=by omega
       have hi0:(0:Int)≤(i:Int):=by omega
       have qi:=st.2.1.cell i
       rw [tab_get _ hin] at qi
       obtain ⟨M,P,hw1,hw2,hP,hP0,hPe⟩:=ix_two HN.out hNb hin hkn
       have qo:=st.1.cell P
       rw [hPe,tab2_get _ hin hkn,← hPe] at qo
       clear hPe
       have HA:Hid (allU (befB (depE es)) (stN es s).1 k (i+1)=(allU (befB (depE es)) (stN es s).1 k i && ((stN es s).1 i || !befB (depE es) i k))):=rfl
       obtain ⟨f0,hf0⟩:∃ f0,f0=(!(stN es s).1 k && allU (befB (depE es)) (stN es s).1 k i):=⟨_,rfl⟩
       have HA2:Hid ((!(stN es s).1 k && allU (befB (depE es)) (stN es s).1 k (i+1))=(f0 && ((stN es s).1 i || !befB (depE es) i k))):=by
        rw [Hid,HA.out,hf0,Bool.and_assoc]
       rw [← hf0]
       clear hf0 HA
       generalize (stN es s).1 i=u at *
       generalize befB (depE es) i k=o at *
       cases f0
       ·go_wp2
        go_roundw
        case rel=>exact ⟨i+1,by omega,by rw [HA2.out];rfl,by go_num,by first | rfl | trivial⟩
        case measure=>simp [intOf];omega
       ·cases u
        ·cases o
         ·go_wp2
          go_roundw
          case rel=>exact ⟨i+1,by omega,by rw [HA2.out];rfl,by go_num,by first | rfl | trivial⟩
          case measure=>simp [intOf];omega
         ·go_wp2
          go_roundw
          case rel=>exact ⟨i+1,by omega,by rw [HA2.out];rfl,by go_num,by first | rfl | trivial⟩
          case measure=>simp [intOf];omega
        ·go_wp2
         go_roundw
         case rel=>exact ⟨i+1,by omega,by rw [HA2.out];rfl,by go_num,by first | rfl | trivial⟩
         case measure=>simp [intOf];omega
      ·obtain rfl:i=n:=by omega
       have HO:Hid (ok k=(!(stN es s).1 k && allU (befB (depE es)) (stN es s).1 k i)):=by rw [HK.out];rfl
       rw [← HO.out]
       clear HO HK qk hi hin
       have hst9:=fun d=>st.drewN d
       cases ho:ok k
       ·have HE:Hid (bestS ok (thE es) (k+1)=bestS ok (thE es) k):=by rw [Hid,bestS_step,ho];rfl
        clear ho
        go_wp2
        go_quiet (fail)
        go_wp2
        go_roundw
        case rel=>exact ⟨k+1,by omega,by rw [HE.out],by go_num,hst9 _⟩
        case measure=>simp [intOf];omega
       ·cases hbk:bestS ok (thE es) k
        ·have HE:Hid (bestS ok (thE es) (k+1)=some k):=by rw [Hid,bestS_step,ho,hbk];rfl
         clear ho hbk
         unfold bestI
         go_wp2
         go_quiet (fail)
         go_wp2
         go_roundw
         case rel=>exact ⟨k+1,by omega,by rw [HE.out];rfl,by go_num,hst9 _⟩
         case measure=>simp [intOf];omega
        ·rename_i b0
         have hb0:=bestS_lt k b0 hbk
         obtain ⟨ge,rfl,hgl,c0,_⟩:=ev_cells h st.2.2.2.1 hkn
         obtain ⟨ge',hge',_,d0,_⟩:=ev_cells h st.2.2.2.1 (show b0<i by omega)
         cases hge'
         rw [← thE_int hI] at c0 d0
         have hb0':(b0:Int)<(i:Int):=by omega
         have hb1:(0:Int)≤(b0:Int):=by omega
         by_cases hl:thE es k<thE es b0
         ·have HE:Hid (bestS ok (thE es) (k+1)=some k):=by rw [Hid,bestS_step,ho,hbk];simp [hl]
          have hl':(thE es k:Int)<(thE es b0:Int):=by omega
          clear ho hbk hl
          generalize thE es k=tk at *
          generalize thE es b0=tb at *
          unfold bestI
          simp only
          go_wp2
          go_quiet (fail)
          go_wp2
          go_roundw
          case rel=>exact ⟨k+1,by omega,by rw [HE.out];rfl,by go_num,hst9 _⟩
          case measure=>simp [intOf];omega
         ·have HE:Hid (bestS ok (thE es) (k+1)=some b0):=by rw [Hid,bestS_step,ho,hbk];simp [hl]
          have hl':¬ (thE es k:Int)<(thE es b0:Int):=by omega
          clear ho hbk hl
          generalize thE es k=tk at *
          generalize thE es b0=tb at *
          unfold bestI
          simp only
          go_wp2
          go_quiet (fail)
          go_wp2
          go_roundw
          case rel=>exact ⟨k+1,by omega,by rw [HE.out];rfl,by go_num,hst9 _⟩
          case measure=>simp [intOf];omega
    ·obtain rfl:k=n:=by omega
     rw [HB.out]
     unfold bestI
     simp only
     obtain ⟨pO,pU,q,bw,hO9⟩:=st
     obtain ⟨ge,rfl,hgl,c0,_⟩:=ev_cells h bw hbn
     rw [← thE_int hI] at c0
     have qk:=pU.cell b
     have qf:=pU.frozen b
     rw [tab_get _ hbn] at qk
     have hbn':(b:Int)<(k:Int):=by omega
     have hb0:(0:Int)≤(b:Int):=by omega
     have hgUw:w.heap.size≤gU:=by omega
     have gs:wr.grownBy (wr.setCell ⟨gU,b,none⟩ (.bool true)) (some gU):=⟨rfl,rfl,rfl,by simp,fun i _ hr=>Below.heap_setCell wr ⟨gU,b,none⟩ (.bool true) i (fun e=>hr (by rw [e]))⟩
     have pU2:Hid (Blk (wr.setCell ⟨gU,b,none⟩ (.bool true)) gU 4 (tab k fun j=>.bool ((stN es (s+1)).1 j))):=by
      have:=pU.set b (.bool true)
      rw [tab_set] at this
      unfold Hid
      rw [HS.out]
      refine this.trans ?_
      congr 3
      refine tab_congr (fun j _=>?_)
      by_cases e:j=b
      ·subst e;simp
      ·simp [e]
     have pO2:=pO.kept gs (by simp;omega)
     have q2:=q.kept gs (.inr (own_ne_blk q pU (by decide)))
     have bw2:=bw.grown gs bw.size (fun x hx=>by cases hx;exact hgUw)
     have c2:(wr.setCell ⟨gU,b,none⟩ (.bool true)).cell? ⟨ge,b*4,none⟩=some (.int .i64 (thE es b:Int)):=by
      rw [← c0]
      have h1:=bw.cell (p:=⟨ge,b*4,none⟩) hgl
      have h2:=bw2.cell (p:=⟨ge,b*4,none⟩) hgl
      rw [h1,h2]
     have hl9:((stN es s).2.map (fun t:Nat=>(t:Int))).length=s:=by rw [List.length_map];exact stS_len hI s (by rw [HL.out];omega)
     have hsz:=bw2.size
     have hO8:gO<(wr.setCell ⟨gU,b,none⟩ (.bool true)).heap.size:=pO2.lt
     clear pO pU q bw
     obtain ⟨wx,hwx⟩:∃ wx,wx=wr.setCell ⟨gU,b,none⟩ (.bool true):=⟨_,rfl⟩
     rw [← hwx] at pU2 pO2 q2 bw2 c2 hsz hO8
     have HW:Hid (wx=wr.setCell ⟨gU,b,none⟩ (.bool true)):=hwx
     have HZ:Hid (wr.heap.size=wx.heap.size):=by rw [Hid,hwx];simp
     clear hwx gs
     go_wp2_with (at_builtin;rw [← HW.out];(try rw [HZ.out]);refine wpList_append_own _ rfl _ _ 27 rfl w.heap.size 3 i1 (.int .i64 0) 1 8 Tryd.underlying27 hi hz3 hz4 hz5 rfl (by decide) _ _ _ rfl (q2.alloc _) ⟨wx.heap.size,0,none⟩ 1 1 [.int .i64 (thE es b:Int)] rfl rfl (cell_one_new _ _ _) (by simp [Value.oneCell']) ?c3 ?c4 ?c5 ?_)
     case c3=>unfold maxLen;omega
     case c4=>omega
     case c5=>simp;omega
     intro v' wn hown' hgrow hx9
     clear hx9
     have ha:Below wx.heap.size wx (wx.alloc (.cells #[.int .i64 (thE es b:Int)] 3)):=by go_grown
     obtain ⟨oa',oc',rfl⟩:=owns_sliceN hown'
     have R:wn.ownsRow w.heap.size 3 1 (.slice oa' (s+1) oc') (s+1) (((stN es (s+1)).2.map (fun t:Nat=>(t:Int))).map (Value.int .i64)):=by
      rw [HS.out]
      simp only [List.map_append,List.map_map,List.map_cons,List.map_nil,Function.comp_apply]
      exact hown'
     have qa:=owns_below q2 ha
     have st2:OnNor w wn gO gU es k (s+1) (.slice oa' (s+1) oc'):=by
      have pOa:=pO2.below ha
      have pUa:=pU2.out.below ha
      refine ⟨pOa.kept hgrow (own_ne_blk qa pOa (by decide)),pUa.kept hgrow (own_ne_blk qa pUa (by decide)),R,(bel_trans bw2 ha).grown hgrow (Nat.le_trans hsz ha.size) (fun x hx=>(q2.lt x hx).1),?_⟩
      exact Nat.lt_of_lt_of_le (Nat.lt_of_lt_of_le hO8 ha.size) hgrow.size
     clear hown' hgrow R qa ha q2 pU2 pO2 bw2 c2
     go_wp2
     go_roundw
     case rel=>exact ⟨s+1,_,_,by omega,rfl,st2⟩
     case measure=>simp [lenV];omega
  ·obtain rfl:s=n:=by omega
   obtain ⟨pO,pU,q,bw,hO9⟩:=st
   have HE:Hid ((stN es s).2.map (fun t:Nat=>(t:Int))=nrmE es):=by
    unfold nrmE stN Hid
    rw [HL.out]
   have hl9:(nrmE es).length=s:=by rw [← HE.out,List.length_map];exact stS_len hI s (by rw [HL.out];omega)
   rw [HE.out] at q
   clear pO pU
   go_wp2
   go_ret
   exact ⟨⟨_,rfl,by rw [hl9];exact q⟩,bw⟩
end Go.Proofs.YtjgffnlmjmibgaaDoor
