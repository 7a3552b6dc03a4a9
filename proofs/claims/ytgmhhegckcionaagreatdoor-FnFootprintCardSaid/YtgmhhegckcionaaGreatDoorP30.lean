/-
  Joined: EntX, ChkP, ChkQ, ChkR, ChkS, ChkT, DrwB, Ent2, Ent3, MrkT, Ent5, Ent6, Ent7, RwL9, Ent8, Ent9.
-/
import Derived.Test.YtgmhhegckcionaaGreatDoorP29

namespace Go.Proofs.YtgmhhegckcionaaGreatDoor
set_option maxRecDepth 100000
set_option maxHeartbeats 16000000
open Go.RowKit
set_option linter.unusedVariables false
set_option linter.unusedSimpArgs false

theorem getD9 {es:List E3} {t:Nat} (h:t<es.length):es.getD t e3d=es[t]:=by simp [List.getD,List.getElem?_eq_getElem h]
theorem memOk_iff {es:List E3}:memOk es=true↔(∀ e ∈ es,entOk e=true)∧es.Pairwise (fun a b=>ltS a.1 b.1=true)∧es.length≤2000:=by
 constructor
 ·intro h
  refine ⟨fun e he=>?_,?_,memOk_len h⟩
  ·obtain ⟨t,ht,rfl⟩:=List.getElem_of_mem he
   rw [← getD9 ht]
   exact memOk_ent h ht
  ·rw [List.pairwise_iff_getElem]
   intro i j hi hj hij
   rw [← getD9 hi,← getD9 hj]
   exact memOk_lt h hij hj
 ·rintro ⟨h1,h2,h3⟩
  simp only [memOk,Bool.and_eq_true,decide_eq_true_eq]
  refine ⟨allR_true fun k hk=>?_,h3⟩
  simp only [mStep,Bool.and_eq_true,Bool.or_eq_true,decide_eq_true_eq]
  refine ⟨?_,?_⟩
  ·rw [getD9 hk]
   exact h1 _ (List.getElem_mem _)
  ·by_cases h0:k=0
   ·exact .inl h0
   ·right
    rw [getD9 hk,getD9 (show k - 1<es.length by omega)]
    exact List.pairwise_iff_getElem.1 h2 (k - 1) k (by omega) hk (by omega)
theorem isE_at {es:List E3} (h:memOk es=true) {t:Nat} (ht:t<es.length):plcE es (es.getD t e3d).1=t∧isE es (es.getD t e3d).1=true:=by
 have hp:plcE es (es.getD t e3d).1=t:=plcE_of (fun i hi=>memOk_lt h hi ht) (by omega) (fun _=>ltS_irrefl _)
 refine ⟨hp,?_⟩
 rw [isE,hp,decide_eq_true ht,decide_eq_true rfl]
 rfl
theorem isE_iff {es:List E3} (h:memOk es=true) {k:ByteArray}:isE es k=true↔∃ e ∈ es,e.1=k:=by
 constructor
 ·intro hi
  simp only [isE,Bool.and_eq_true,decide_eq_true_eq] at hi
  refine ⟨es.getD (plcE es k) e3d,?_,hi.2⟩
  rw [getD9 hi.1]
  exact List.getElem_mem _
 ·rintro ⟨e,he,rfl⟩
  obtain ⟨t,ht,rfl⟩:=List.getElem_of_mem he
  rw [← getD9 ht]
  exact (isE_at h ht).2
theorem mem_take9 {es:List E3} {n:Nat} {e:E3} (h:e ∈ es.take n):∃ t,t<n∧t<es.length∧e=es.getD t e3d:=by
 obtain ⟨t,ht,rfl⟩:=List.getElem_of_mem h
 rw [List.length_take] at ht
 refine ⟨t,by omega,by omega,?_⟩
 rw [getD9 (by omega)]
 simp
theorem mem_drop9 {es:List E3} {n:Nat} {e:E3} (h:e ∈ es.drop n):∃ t,n≤t∧t<es.length∧e=es.getD t e3d:=by
 obtain ⟨t,ht,rfl⟩:=List.getElem_of_mem h
 rw [List.length_drop] at ht
 refine ⟨n+t,by omega,by omega,?_⟩
 rw [getD9 (by omega)]
 simp
theorem putE_len {es:List E3} {e:E3}:(putE es e).length=if isE es e.1 then es.length else es.length+1:=by
 have h1:=plcE_le es e.1
 unfold putE
 rw [List.length_append,List.length_append,List.length_take,List.length_singleton,List.length_drop]
 cases hc:isE es e.1
 ·simp
  omega
 ·have:plcE es e.1<es.length:=by
   simp only [isE,Bool.and_eq_true,decide_eq_true_eq] at hc
   exact hc.1
  simp
  omega
theorem putE_behind {es:List E3} (h:memOk es=true) {k:ByteArray} {t:Nat} (h1:(if isE es k then plcE es k+1 else plcE es k)≤t) (ht:t<es.length):ltS k (es.getD t e3d).1=true:=by
 cases hc:isE es k
 ·rw [hc] at h1
  simp at h1
  cases hk:ltS k (es.getD t e3d).1
  ·have:=ltS_total (plcE_behind h h1 ht) hk
   have hi:=(isE_iff h (k:=k)).2 ⟨es.getD t e3d,by rw [getD9 ht];exact List.getElem_mem _,this⟩
   rw [hc] at hi
   cases hi
  ·rfl
 ·rw [hc] at h1
  simp at h1
  simp only [isE,Bool.and_eq_true,decide_eq_true_eq] at hc
  have:=memOk_lt h (i:=plcE es k) (j:=t) (by omega) ht
  rw [hc.2] at this
  exact this
theorem putE_ok {es:List E3} {e:E3} (h:memOk es=true) (he:entOk e=true) (hr:isE es e.1=true∨es.length<2000):memOk (putE es e)=true:=by
 have h9:=memOk_iff.1 h
 refine memOk_iff.2 ⟨fun x hx=>?_,?_,?_⟩
 ·unfold putE at hx
  simp only [List.mem_append,List.mem_singleton] at hx
  rcases hx with (hx | rfl) | hx
  ·exact h9.1 x (List.mem_of_mem_take hx)
  ·exact he
  ·exact h9.1 x (List.mem_of_mem_drop hx)
 ·unfold putE
  rw [List.pairwise_append,List.pairwise_append]
  refine ⟨⟨h9.2.1.sublist (List.take_sublist _ _),by simp,?_⟩,h9.2.1.sublist (List.drop_sublist _ _),?_⟩
  ·intro a ha b hb
   simp only [List.mem_singleton] at hb
   subst hb
   obtain ⟨t,h1,h2,rfl⟩:=mem_take9 ha
   exact plcE_ahead h1
  ·intro a ha b hb
   obtain ⟨t,h1,h2,rfl⟩:=mem_drop9 hb
   have hk:=putE_behind h h1 h2
   simp only [List.mem_append,List.mem_singleton] at ha
   rcases ha with ha | rfl
   ·obtain ⟨t',h3,h4,rfl⟩:=mem_take9 ha
    exact ltS_trans (plcE_ahead h3) hk
   ·exact hk
 ·rw [putE_len]
  have:=memOk_len h
  split
  ·exact this
  ·rename_i hn
   rcases hr with hr | hr
   ·exact absurd hr hn
   ·omega
theorem riseI_at {zs:List Int} (h:riseI zs=true):∀ i,i<zs.length→(i:Int)≤zs.getD i 0∧itOk (zs.getD i 0)=true
 | 0,hi=>by
  have:=allR_at h hi
  simp only [iStep,Bool.and_eq_true,Bool.or_eq_true,decide_eq_true_eq] at this
  refine ⟨?_,this.1⟩
  have h1:=this.1
  simp only [itOk,decide_eq_true_eq] at h1
  omega
 | i+1,hi=>by
  have h0:=riseI_at h i (by omega)
  have:=allR_at h hi
  simp only [iStep,Bool.and_eq_true,Bool.or_eq_true,decide_eq_true_eq] at this
  refine ⟨?_,this.1⟩
  rcases this.2 with h1 | h1
  ·omega
  ·rw [Nat.add_sub_cancel] at h1
   omega
theorem riseI_len {zs:List Int} (h:riseI zs=true):zs.length≤23:=by
 by_cases h0:zs.length=0
 ·omega
 ·obtain ⟨h1,h2⟩:=riseI_at h (zs.length - 1) (by omega)
  simp only [itOk,decide_eq_true_eq] at h2
  omega
theorem entOk_bugs {e:E3} (h:entOk e=true):e.2.1.length≤30:=by
 simp only [entOk,Bool.and_eq_true,decide_eq_true_eq] at h
 exact h.2.2.2
theorem entOk_foot {e:E3} (h:entOk e=true):e.2.2.length≤23:=by
 simp only [entOk,Bool.and_eq_true,decide_eq_true_eq] at h
 exact riseI_len h.2.2.1
theorem entOk_key {e:E3} (h:entOk e=true):e.1.size=15:=by
 simp only [entOk,keyOk9,Bool.and_eq_true,decide_eq_true_eq] at h
 exact h.1.1
def keepE (es:List E3) (ch:List Int):List E3:=es.filter fun e=>!tchB e.2.2 ch
theorem keepE_ok {es:List E3} (h:memOk es=true) (ch:List Int):memOk (keepE es ch)=true:=by
 have h9:=memOk_iff.1 h
 exact memOk_iff.2 ⟨fun e he=>h9.1 e (List.mem_filter.1 he).1,h9.2.1.sublist List.filter_sublist,Nat.le_trans (List.length_filter_le _ _) h9.2.2⟩


def cmB (rows:List (List I3)) (f:Nat) (m:V4):List I3:=mergeB ((treeM rows f m).flatMap (localS rows)) []
def cmF (rows:List (List I3)) (f:Nat) (m:V4):List Int:=mrgI ((treeM rows f m).flatMap lookM)
def entM (rows:List (List I3)) (f:Nat) (m:V4):E3:=(keyT m,cmB rows f m,cmF rows f m)
theorem mem_cmB {rows:List (List I3)} {f:Nat} {m:V4} {x:I3}:x ∈ cmB rows f m↔∃ s ∈ treeM rows f m,x ∈ localS rows s:=by
 unfold cmB
 rw [mem_mergeB,List.mem_flatMap]
 simp
theorem mem_cmF {rows:List (List I3)} {f:Nat} {m:V4} {y:Int}:y ∈ cmF rows f m↔∃ s ∈ treeM rows f m,y ∈ lookM s:=by
 unfold cmF
 rw [mrgI_mem,List.mem_flatMap]
theorem mem_foldT {σ:Type} {f:σ→List I3} {x:I3}:∀ (ks:List σ) (out:List I3),x ∈ ks.foldl (fun out k=>mergeB out (f k)) out↔x ∈ out∨∃ k ∈ ks,x ∈ f k
 | [],out=>by simp
 | k::ks,out=>by
  rw [List.foldl_cons,mem_foldT ks,mem_mergeB]
  simp only [List.mem_cons,exists_eq_or_imp,or_assoc]
theorem rises_foldT {σ:Type} {f:σ→List I3}:∀ (ks:List σ) (out:List I3),Rises out→Rises (ks.foldl (fun out k=>mergeB out (f k)) out)
 | [],out,h=>h
 | k::ks,out,h=>rises_foldT ks _ (mergeB_rises _ _)
theorem deadM_rises (rows:List (List I3)) (m:V4):Rises (deadM rows m):=by
 unfold deadM
 split
 ·exact List.pairwise_singleton _ _
 ·exact List.Pairwise.nil
theorem localS_rises (rows:List (List I3)) (m:V4):Rises (localS rows m):=rises_foldT _ _ (deadM_rises rows m)
theorem cmB_step (rows:List (List I3)) (f:Nat) (m:V4):(nxM rows m).foldl (fun out t=>mergeB out (cmB rows f t.2)) (localS rows m)=cmB rows (f+1) m:=by
 refine (rises_foldT _ _ (localS_rises rows m)).same (mergeB_rises _ _) (fun x=>?_)
 rw [mem_foldT]
 rw [mem_cmB]
 simp only [treeM,List.mem_cons,List.mem_flatMap,mem_cmB]
 constructor
 ·rintro (h | ⟨t,ht,s,hs,hx⟩)
  ·exact ⟨m,.inl rfl,h⟩
  ·exact ⟨s,.inr ⟨t,ht,hs⟩,hx⟩
 ·rintro ⟨s,rfl | ⟨t,ht,hs⟩,hx⟩
  ·exact .inl hx
  ·exact .inr ⟨t,ht,s,hs,hx⟩
theorem mem_foldF {σ:Type} {f:σ→List Int} {y:Int}:∀ (ks:List σ) (out:List Int),y ∈ ks.foldl (fun out k=>mrgI (out++f k)) out↔y ∈ out∨∃ k ∈ ks,y ∈ f k
 | [],out=>by simp
 | k::ks,out=>by
  rw [List.foldl_cons,mem_foldF ks,mrgI_mem,List.mem_append]
  simp only [List.mem_cons,exists_eq_or_imp,or_assoc]
theorem rises_foldF {σ:Type} {f:σ→List Int}:∀ (ks:List σ) (out:List Int),out.Pairwise (· < ·)→(ks.foldl (fun out k=>mrgI (out++f k)) out).Pairwise (· < ·)
 | [],out,h=>h
 | k::ks,out,h=>rises_foldF ks _ (mrgI_rises _)
theorem lookM_rises {m:V4} (h:shapeOk m=true):(lookM m).Pairwise (· < ·):=by
 have hp:∀ i,i<3→0≤m.1.getD i 0∧m.1.getD i 0≤6:=by
  intro i hi
  unfold shapeOk allIn at h
  simp only [Bool.and_eq_true,List.all_eq_true,decide_eq_true_eq] at h
  have hl:m.1.length=3:=by omega
  have:=h.1.1 (m.1.getD i 0) (by rw [List.getD,List.getElem?_eq_getElem (by omega)];exact List.getElem_mem _)
  exact this
 have h0:=hp 0 (by omega)
 have h1:=hp 1 (by omega)
 have h2:=hp 2 (by omega)
 unfold lookM
 simp only [List.pairwise_cons,List.mem_cons,List.not_mem_nil,or_false,List.Pairwise.nil,and_true]
 refine ⟨?_,?_,?_⟩
 ·rintro a (rfl | rfl)<;>omega
 ·rintro a rfl;omega
 ·simp
theorem cmF_step {rows:List (List I3)} (f:Nat) {m:V4} (h:shapeOk m=true):(nxM rows m).foldl (fun out t=>mrgI (out++cmF rows f t.2)) (lookM m)=cmF rows (f+1) m:=by
 refine rises_eq (rises_foldF _ _ (lookM_rises h)) (mrgI_rises _) (fun y=>?_)
 rw [mem_foldF]
 rw [mem_cmF]
 simp only [treeM,List.mem_cons,List.mem_flatMap,mem_cmF]
 constructor
 ·rintro (h | ⟨t,ht,s,hs,hx⟩)
  ·exact ⟨m,.inl rfl,h⟩
  ·exact ⟨s,.inr ⟨t,ht,hs⟩,hx⟩
 ·rintro ⟨s,rfl | ⟨t,ht,hs⟩,hx⟩
  ·exact .inl hx
  ·exact .inr ⟨t,ht,s,hs,hx⟩


abbrev Vs11:=List E3 × Nat
def visL (rec:V4→Vs11→E3 × Vs11 × Bool):List (Int × V4)→E3→Vs11→E3 × Vs11 × Bool
 | [],e,st=>(e,st,true)
 | t::ts,e,st=>if (rec t.2 st).2.2=true then visL rec ts (e.1,mergeB e.2.1 (rec t.2 st).1.2.1,mrgI (e.2.2++(rec t.2 st).1.2.2)) (rec t.2 st).2.1 else (e3d,(rec t.2 st).2.1,false)
def visM (rows:List (List I3)):Nat→V4→Vs11→E3 × Vs11 × Bool
 | 0,_,st=>(e3d,st,false)
 | f+1,m,st =>
  if isE st.1 (keyT m)=true then (fndE st.1 (keyT m),st,true)
  else if st.1.length=2000 then (e3d,st,false)
  else if (visL (visM rows f) (nxM rows m) (keyT m,localS rows m,lookM m) (st.1,st.2+1)).2.2=true then
   (if (visL (visM rows f) (nxM rows m) (keyT m,localS rows m,lookM m) (st.1,st.2+1)).2.1.1.length=2000 then (e3d,(visL (visM rows f) (nxM rows m) (keyT m,localS rows m,lookM m) (st.1,st.2+1)).2.1,false)
    else ((visL (visM rows f) (nxM rows m) (keyT m,localS rows m,lookM m) (st.1,st.2+1)).1,(putE (visL (visM rows f) (nxM rows m) (keyT m,localS rows m,lookM m) (st.1,st.2+1)).2.1.1 (visL (visM rows f) (nxM rows m) (keyT m,localS rows m,lookM m) (st.1,st.2+1)).1,(visL (visM rows f) (nxM rows m) (keyT m,localS rows m,lookM m) (st.1,st.2+1)).2.1.2),true))
  else (e3d,(visL (visM rows f) (nxM rows m) (keyT m,localS rows m,lookM m) (st.1,st.2+1)).2.1,false)
theorem tree_sub {rows:List (List I3)} (C:V4→Prop) (hC:∀ x,C x→∀ t ∈ nxM rows x,C t.2):∀ (f:Nat) (m:V4),C m→∀ x ∈ treeM rows f m,C x
 | 0,m,h,x,hx=>by
  simp only [treeM,List.mem_singleton] at hx
  subst hx
  exact h
 | f+1,m,h,x,hx=>by
  simp only [treeM,List.mem_cons,List.mem_flatMap] at hx
  rcases hx with rfl | ⟨t,ht,hx⟩
  ·exact h
  ·exact tree_sub C hC f t.2 (hC m h t ht) x hx
theorem tree_any {rows:List (List I3)} (hp:progOk rows=true) {f g:Nat} {m:V4} (hs:shapeOk m=true) (hf:leftN rows m≤f) (hg:leftN rows m≤g) (x:V4):x ∈ treeM rows f m↔x ∈ treeM rows g m:=
 ⟨tree_sub (· ∈ treeM rows g m) (fun y hy t ht=>tree_closed hp g m hs hg y hy t ht) f m (tree_head rows g m) x,tree_sub (· ∈ treeM rows f m) (fun y hy t ht=>tree_closed hp f m hs hf y hy t ht) g m (tree_head rows f m) x⟩
theorem cmB_rises (rows:List (List I3)) (f:Nat) (m:V4):Rises (cmB rows f m):=mergeB_rises _ _
theorem cmF_rises (rows:List (List I3)) (f:Nat) (m:V4):(cmF rows f m).Pairwise (· < ·):=mrgI_rises _
theorem entM_any {rows:List (List I3)} (hp:progOk rows=true) {f g:Nat} {m:V4} (hs:shapeOk m=true) (hf:leftN rows m≤f) (hg:leftN rows m≤g):entM rows f m=entM rows g m:=by
 have hB:cmB rows f m=cmB rows g m:=(cmB_rises rows f m).same (cmB_rises rows g m) (fun x=>by
  rw [mem_cmB,mem_cmB]
  constructor
  ·rintro ⟨s,h,hx⟩;exact ⟨s,(tree_any hp hs hf hg s).1 h,hx⟩
  ·rintro ⟨s,h,hx⟩;exact ⟨s,(tree_any hp hs hf hg s).2 h,hx⟩)
 have hF:cmF rows f m=cmF rows g m:=rises_eq (cmF_rises rows f m) (cmF_rises rows g m) (fun y=>by
  rw [mem_cmF,mem_cmF]
  constructor
  ·rintro ⟨s,h,hx⟩;exact ⟨s,(tree_any hp hs hf hg s).1 h,hx⟩
  ·rintro ⟨s,h,hx⟩;exact ⟨s,(tree_any hp hs hf hg s).2 h,hx⟩)
 unfold entM
 rw [hB,hF]
theorem foldl_pair {rows:List (List I3)} (f:Nat) (k:ByteArray):∀ (ts:List (Int × V4)) (b:List I3) (z:List Int),ts.foldl (fun (e:E3) t=>(e.1,mergeB e.2.1 (cmB rows f t.2),mrgI (e.2.2++cmF rows f t.2))) (k,b,z)=(k,ts.foldl (fun out t=>mergeB out (cmB rows f t.2)) b,ts.foldl (fun out t=>mrgI (out++cmF rows f t.2)) z)
 | [],b,z=>rfl
 | t::ts,b,z=>by
  rw [List.foldl_cons,List.foldl_cons,List.foldl_cons]
  exact foldl_pair f k ts _ _
theorem entM_fold {rows:List (List I3)} (f:Nat) {m:V4} (h:shapeOk m=true):(nxM rows m).foldl (fun (e:E3) t=>(e.1,mergeB e.2.1 (cmB rows f t.2),mrgI (e.2.2++cmF rows f t.2))) (keyT m,localS rows m,lookM m)=entM rows (f+1) m:=by
 rw [foldl_pair,cmB_step,cmF_step f h]
 rfl
def TrueM (rows:List (List I3)) (es:List E3):Prop:=memOk es=true∧∀ e ∈ es,∃ s,shapeOk s=true∧e=entM rows 18 s
theorem TrueM.found {rows:List (List I3)} {es:List E3} (h:TrueM rows es) {m:V4} (hs:shapeOk m=true) (hi:isE es (keyT m)=true):fndE es (keyT m)=entM rows 18 m:=by
 have hf:=hi
 unfold isE at hi
 simp only [Bool.and_eq_true,decide_eq_true_eq] at hi
 unfold fndE
 rw [if_pos hf]
 have hm:es.getD (plcE es (keyT m)) e3d ∈ es:=by rw [List.getD,List.getElem?_eq_getElem hi.1];exact List.getElem_mem _
 obtain ⟨s,h1,h2⟩:=h.2 _ hm
 have hk:(es.getD (plcE es (keyT m)) e3d).1=keyT m:=by
  have:=hi.2
  simpa using this
 rw [h2] at hk ⊢
 have:s=m:=key_inj6 h1 hs hk
 rw [this]


def Left11 (rows:List (List I3)) (L:Nat) (st st':Vs11):Prop:=TrueM rows st'.1∧(∀ e ∈ st.1,e ∈ st'.1)∧(∀ e ∈ st'.1,e ∈ st.1∨∃ s,shapeOk s=true∧leftN rows s<L∧e=entM rows 18 s)∧st'.1.length+st.2=st.1.length+st'.2
theorem Left11.refl {rows:List (List I3)} {L:Nat} {st:Vs11} (h:TrueM rows st.1):Left11 rows L st st:=⟨h,fun e he=>he,fun e he=>.inl he,rfl⟩
theorem Left11.trans {rows:List (List I3)} {L:Nat} {a b c:Vs11} (h:Left11 rows L a b) (k:Left11 rows L b c):Left11 rows L a c:=
 ⟨k.1,fun e he=>k.2.1 e (h.2.1 e he),fun e he=>by
  rcases k.2.2.1 e he with h9 | h9
  ·exact h.2.2.1 e h9
  ·exact .inr h9,by have:=h.2.2.2;have:=k.2.2.2;omega⟩
theorem Left11.mono {rows:List (List I3)} {L L':Nat} {a b:Vs11} (h:Left11 rows L a b) (hL:L≤L'):Left11 rows L' a b:=
 ⟨h.1,h.2.1,fun e he=>by
  rcases h.2.2.1 e he with h9 | ⟨s,h1,h2,h3⟩
  ·exact .inl h9
  ·exact .inr ⟨s,h1,by omega,h3⟩,h.2.2.2⟩
theorem visL_true {rows:List (List I3)} {L:Nat} {rec:V4→Vs11→E3 × Vs11 × Bool}:∀ (ts:List (Int × V4)) (e:E3) (st:Vs11),(∀ t ∈ ts,∀ st:Vs11,TrueM rows st.1→(rec t.2 st).2.2=true→(rec t.2 st).1=entM rows 18 t.2∧Left11 rows L st (rec t.2 st).2.1)→TrueM rows st.1→(visL rec ts e st).2.2=true →
  (visL rec ts e st).1=ts.foldl (fun (e:E3) t=>(e.1,mergeB e.2.1 (cmB rows 18 t.2),mrgI (e.2.2++cmF rows 18 t.2))) e∧Left11 rows L st (visL rec ts e st).2.1
 | [],e,st,hr,ht,hk=>⟨rfl,Left11.refl ht⟩
 | t::ts,e,st,hr,ht,hk=>by
  unfold visL at hk ⊢
  by_cases h:(rec t.2 st).2.2=true
  ·rw [if_pos h] at hk ⊢
   obtain ⟨h1,h2⟩:=hr t (List.mem_cons_self ..) st ht h
   obtain ⟨h3,h4⟩:=visL_true ts _ _ (fun t' ht'=>hr t' (List.mem_cons_of_mem _ ht')) h2.1 hk
   refine ⟨?_,h2.trans h4⟩
   rw [h3,h1]
   rfl
  ·rw [if_neg h] at hk
   cases hk
theorem vis_true {rows:List (List I3)} (hp:progOk rows=true) (hE:∀ s,shapeOk s=true→entOk (entM rows 18 s)=true) (hG:∀ m,shapeOk m=true→leftN rows m≤18) (hN:∀ m,shapeOk m=true→∀ t ∈ nxM rows m,shapeOk t.2=true∧leftN rows t.2<leftN rows m) :
  ∀ (f:Nat) (m:V4) (st:Vs11),shapeOk m=true→leftN rows m<f→TrueM rows st.1→(visM rows f m st).2.2=true→(visM rows f m st).1=entM rows 18 m∧Left11 rows (leftN rows m+1) st (visM rows f m st).2.1∧entM rows 18 m ∈ (visM rows f m st).2.1.1
 | 0,m,st,hs,hf,ht,hk=>by omega
 | f+1,m,st,hs,hf,ht,hk=>by
  unfold visM at hk ⊢
  by_cases h1:isE st.1 (keyT m)=true
  ·rw [if_pos h1]
   refine ⟨ht.found hs h1,Left11.refl ht,?_⟩
   obtain ⟨e,he,hek⟩:=(isE_iff ht.1 (k:=keyT m)).1 h1
   obtain ⟨s,g1,g2⟩:=ht.2 e he
   have:s=m:=key_inj6 g1 hs (by rw [g2] at hek;exact hek)
   subst this
   rw [← g2]
   exact he
  ·rw [if_neg h1] at hk ⊢
   by_cases h2:st.1.length=2000
   ·rw [if_pos h2] at hk
    cases hk
   ·rw [if_neg h2] at hk ⊢
    have key:=visL_true (rows:=rows) (L:=leftN rows m) (rec:=visM rows f) (nxM rows m) (keyT m,localS rows m,lookM m) (st.1,st.2+1) (fun t htm st' ht' hk'=>by
     obtain ⟨q1,q2⟩:=hN m hs t htm
     obtain ⟨r1,r2,_⟩:=vis_true hp hE hG hN f t.2 st' q1 (by omega) ht' hk'
     exact ⟨r1,r2.mono (by omega)⟩) ht
    generalize visL (visM rows f) (nxM rows m) (keyT m,localS rows m,lookM m) (st.1,st.2+1)=R at *
    by_cases h3:R.2.2=true
    ·rw [if_pos h3] at hk ⊢
     obtain ⟨k1,k2⟩:=key h3
     rw [entM_fold 18 hs,entM_any hp hs (Nat.le_trans (hG m hs) (by omega)) (hG m hs)] at k1
     by_cases h4:R.2.1.1.length=2000
     ·rw [if_pos h4] at hk
      cases hk
     ·rw [if_neg h4]
      simp only
      rw [k1]
      have hni:isE R.2.1.1 (keyT m)=false:=by
       cases hi:isE R.2.1.1 (keyT m)
       ·rfl
       ·exfalso
        obtain ⟨e,he,hek⟩:=(isE_iff k2.1.1 (k:=keyT m)).1 hi
        rcases k2.2.2.1 e he with h9 | ⟨s,s1,s2,s3⟩
        ·exact h1 ((isE_iff ht.1 (k:=keyT m)).2 ⟨e,h9,hek⟩)
        ·have:s=m:=key_inj6 s1 hs (by rw [s3] at hek;exact hek)
         subst this
         omega
      have hlen:=memOk_len k2.1.1
      have hput:memOk (putE R.2.1.1 (entM rows 18 m))=true:=putE_ok k2.1.1 (hE m hs) (.inr (by omega))
      have hmem:∀ e,e ∈ putE R.2.1.1 (entM rows 18 m)↔e=entM rows 18 m∨e ∈ R.2.1.1:=by
       intro e
       unfold putE
       rw [show (entM rows 18 m).1=keyT m from rfl,hni]
       simp only [List.mem_append,List.mem_singleton,Bool.false_eq_true,if_false]
       constructor
       ·rintro ((h | h) | h)
        ·exact .inr (List.mem_of_mem_take h)
        ·exact .inl h
        ·exact .inr (List.mem_of_mem_drop h)
       ·rintro (h | h)
        ·exact .inl (.inr h)
        ·rw [← List.take_append_drop (plcE R.2.1.1 (keyT m)) R.2.1.1] at h
         rcases List.mem_append.1 h with h | h
         ·exact .inl (.inl h)
         ·exact .inr h
      refine ⟨rfl,⟨⟨hput,fun e he=>?_⟩,fun e he=>(hmem e).2 (.inr (k2.2.1 e he)),fun e he=>?_,?_⟩,(hmem _).2 (.inl rfl)⟩
      ·rcases (hmem e).1 he with h9 | h9
       ·exact ⟨m,hs,h9⟩
       ·exact k2.1.2 e h9
      ·rcases (hmem e).1 he with h9 | h9
       ·exact .inr ⟨m,hs,by omega,h9⟩
       ·rcases k2.2.2.1 e h9 with h8 | ⟨s,s1,s2,s3⟩
        ·exact .inl h8
        ·exact .inr ⟨s,s1,by omega,s3⟩
      ·have hl:=putE_len (es:=R.2.1.1) (e:=entM rows 18 m)
       rw [show (entM rows 18 m).1=keyT m from rfl,hni] at hl
       have:=k2.2.2.2
       simp at hl this ⊢
       omega
    ·rw [if_neg h3] at hk
     cases hk


theorem left18 {rows:List (List I3)} (hp:progOk rows=true) (m:V4):leftN rows m≤18:=by
 obtain ⟨h3,hr⟩:=progOk_parts hp
 have hc:∀ k,k<3→(codeM rows k).length≤6:=fun k hk=>by
  unfold codeM
  rw [List.getD,List.getElem?_eq_getElem (by omega)]
  exact (hr _ (List.getElem_mem _)).1
 have h0:=hc 0 (by omega)
 have h1:=hc 1 (by omega)
 have h2:=hc 2 (by omega)
 unfold leftN remM
 omega
theorem nx_ok {rows:List (List I3)} (hp:progOk rows=true) {m:V4} (hs:shapeOk m=true):∀ t ∈ nxM rows m,shapeOk t.2=true∧leftN rows t.2<leftN rows m:=by
 intro t ht
 unfold nxM at ht
 obtain ⟨k,hk,rfl⟩:=List.mem_map.1 ht
 have hh:=enab_halt hk
 have:=left_step hp hs hh
 exact ⟨goM_shape hp hs hh,by show leftN rows (goM rows m k).1<leftN rows m;omega⟩
theorem visT {rows:List (List I3)} (hp:progOk rows=true) (hE:∀ s,shapeOk s=true→entOk (entM rows 18 s)=true) {f:Nat} {m:V4} {st:Vs11} (hs:shapeOk m=true) (hf:leftN rows m<f) (ht:TrueM rows st.1) (hk:(visM rows f m st).2.2=true):(visM rows f m st).1=entM rows 18 m∧Left11 rows (leftN rows m+1) st (visM rows f m st).2.1∧entM rows 18 m ∈ (visM rows f m st).2.1.1:=
 vis_true hp hE (fun m _=>left18 hp m) (fun m hs t ht=>nx_ok hp hs t ht) f m st hs hf ht hk


theorem putI_new:∀ (xs:List Int) (n:Int),n ∉ xs→(putI xs n).length=xs.length+1
 | [],n,_=>by simp [putI]
 | x::xs,n,h=>by
  have h1:n≠x:=fun e=>h (by rw [e];exact List.mem_cons_self ..)
  have ih:=putI_new xs n (fun e=>h (List.mem_cons_of_mem _ e))
  unfold putI
  repeat' split
  all_goals first | (simp only [List.length_cons,ih];done) | (simp only [List.length_cons];done) | (exfalso;omega)
theorem foldI_new:∀ (xs acc:List Int),xs.Nodup→(∀ x ∈ xs,x ∉ acc)→(xs.foldl putI acc).length=acc.length+xs.length
 | [],acc,_,_=>rfl
 | x::xs,acc,hn,ha=>by
  have h1:=List.nodup_cons.1 hn
  rw [List.foldl_cons,foldI_new xs _ h1.2 (fun y hy=>by
   rw [putI_mem]
   rintro (e | e)
   ·subst e;exact h1.1 hy
   ·exact ha y (List.mem_cons_of_mem _ hy) e),putI_new acc x (ha x (List.mem_cons_self ..)),List.length_cons]
  omega
theorem nodup_few {xs:List Int} {a b:Int} (hn:xs.Nodup) (hb:∀ x ∈ xs,a≤x∧x≤b):(xs.length:Int)≤max (b - a+1) 0:=by
 have h1:=foldI_new xs [] hn (fun x _=>by simp)
 have h2:=rise_len (mrgI xs) a b (mrgI_rises xs) (fun x hx=>hb x ((mrgI_mem xs x).1 hx))
 unfold mrgI at h2
 rw [h1] at h2
 simpa using h2


theorem chance_any (p T:Nat) (a:Option Addr) (n cap:Nat) (k:Int) (w:World) (hS:Src w p (.slice a n cap) T) (hC:Code w p a n cap) (hT:T≤900000) (hk0:0≤k) (hk:k≤1000000) :
  Calls Tryz.prog 56 #[.pointer (some ⟨p,0,none⟩),.int .i64 k] w fun e w'=>(∃ b:Bool,Hid True∧e=.returned (.bool b))∧Src w' p (.slice a n cap) (T+3)∧Went p w w':=by
 go_enter Tryz.func56,Tryz.ntmps56
 go_wp2_with fail
 refine (next_any p T a n cap k _ hS hC (by omega) (by omega)).mono ?_
 rintro e w1 ⟨⟨v,hv,rfl⟩,hS1,hW⟩
 clear hS hC
 go_wp2
 go_ret
 exact ⟨⟨_,trivial,rfl⟩,hS1,hW⟩

theorem okBD_cases {x:I3} (h:okB x=true):x=(14,0,0)∨∃ k a b:Nat,(k=12∨k=13)∧a<3∧b<6∧x=((k:Int),(a:Int),(b:Int)):=by
 obtain ⟨c,a,b⟩:=x
 unfold okB at h
 simp only at h
 split at h
 ·rename_i e
  simp at h
  exact .inl (by rw [e,h.1,h.2])
 ·split at h
  ·rename_i e
   simp [inB_true] at h
   refine .inr ⟨c.toNat,a.toNat,b.toNat,by omega,by omega,by omega,?_⟩
   rw [Int.toNat_of_nonneg (by omega),Int.toNat_of_nonneg (by omega),Int.toNat_of_nonneg (by omega)]
  ·cases h
theorem okB_fits {x:I3} (h:okB x=true):I3.fits x:=by
 rcases okBD_cases h with rfl | ⟨k,a,b,hk,ha,hb,rfl⟩
 ·unfold I3.fits;decide
 ·have h2:a=0∨a=1∨a=2:=by omega
  have h3:b=0∨b=1∨b=2∨b=3∨b=4∨b=5:=by omega
  rcases hk with rfl | rfl<;>rcases h2 with rfl | rfl | rfl<;>rcases h3 with rfl | rfl | rfl | rfl | rfl | rfl<;>(unfold I3.fits;decide)


def OwnE (w:World) (B:Nat) (vb vf:Value) (e:E3):Prop:=w.ownsRow B 103 3 vb e.2.1.length (flat e.2.1)∧w.ownsRow B 3 1 vf e.2.2.length (e.2.2.map (Value.int .i64))
theorem OwnE.below {w w':World} {B:Nat} {vb vf:Value} {e:E3} (h:OwnE w B vb vf e) (hb:Below w.heap.size w w'):OwnE w' B vb vf e:=⟨owns8 h.1 hb,owns8 h.2 hb⟩
theorem OwnE.lower {w:World} {B B':Nat} {vb vf:Value} {e:E3} (h:OwnE w B vb vf e) (hB:B'≤B):OwnE w B' vb vf e:=⟨lower8 h.1 hB,lower8 h.2 hB⟩
theorem OwnE.slices {w:World} {B:Nat} {vb vf:Value} {e:E3} (h:OwnE w B vb vf e):∃ s:Sl2,vb=.slice s.1.1 s.1.2.1 s.1.2.2∧vf=.slice s.2.1 s.2.2.1 s.2.2.2:=by
 obtain ⟨a,c,e1⟩:=slice8 h.1
 obtain ⟨a',c',e2⟩:=slice8 h.2
 exact ⟨((a,_,c),(a',_,c')),e1,e2⟩
theorem Instrs.of_ownB9 {w:World} {B:Nat} {v:Value} {xs:List I3} (h:w.ownsRow B 103 3 v xs.length (flat xs)) (hf:∀ x ∈ xs,I3.fits x):∃ a cap,v=.slice a xs.length cap∧Instrs w a xs.length cap xs:=by
 rcases h.2 with ⟨hv,h0⟩ | ⟨g,cap,cur,hv,_⟩
 ·obtain rfl:xs=[]:=List.eq_nil_of_length_eq_zero h0
  exact ⟨none,0,hv,rfl,Nat.le_refl _,by unfold maxLen;omega,by simp,.inl rfl⟩
 ·subst hv
  exact ⟨_,_,rfl,Instrs.of_owns h rfl hf rfl⟩
def E3.fits (e:E3):Prop:=e.1.size≤maxLen∧(∀ x ∈ e.2.1,I3.fits x)∧∀ z ∈ e.2.2,(Lit.int .i64 z).wf=true
theorem Emem.fits {w:World} {s:Sl2} {e:E3} (h:Emem w s e):e.fits:=⟨h.1.1,h.2.1.2.2.2.1,h.2.2.2⟩
theorem own_nil0 {w:World} {B e s n:Nat} {a:Option Addr} {m c:Nat} {xs:List Value} (h:w.ownsRow B e s (.slice a m c) n xs):a=none→c=0:=by
 rcases h.2 with ⟨hv,_⟩ | ⟨g,cap,cur,hv,_⟩
 ·injection hv with e1 e2 e3
  exact fun _=>e3
 ·injection hv with e1 e2 e3
  intro ha
  rw [ha] at e1
  cases e1
theorem OwnE.mem {w:World} {B:Nat} {s:Sl2} {e:E3} (h:OwnE w B (.slice s.1.1 s.1.2.1 s.1.2.2) (.slice s.2.1 s.2.2.1 s.2.2.2) e) (hf:e.fits):Emem w s e:=by
 obtain ⟨⟨a1,n1,c1⟩,⟨a2,n2,c2⟩⟩:=s
 obtain ⟨h1,h2⟩:=h
 simp only at h1 h2
 refine ⟨⟨hf.1,own_nil0 h1,own_nil0 h2⟩,?_,?_,hf.2.2⟩
 ·obtain ⟨a,cap,hv,hI⟩:=Instrs.of_ownB9 h1 hf.2.1
  injection hv with e1 e2 e3
  subst e1 e2 e3
  exact hI
 ·obtain ⟨a,cap,hv⟩:=slice8 h2
  injection hv with e1 e2 e3
  subst e1 e2 e3
  exact ints8 h2


theorem info_entry:(Tryz.prog.info? 45).map (fun i=>(i.zero,i.size,i.bytes))=some (some (.agg #[.string ⟨#[]⟩,.slice none 0 0,.slice none 0 0]),3,64):=by kernel_rfl

def Aprt (u v:Value):Prop:=u.ownBlock=none∨u.ownBlock≠v.ownBlock
def EntsTo (w:World) (B k:Nat) (cs:List Value) (es:List E3):Prop:=
 (∀ t,t<k→cs[t*3]?=some (.string (es.getD t e3d).1)∧OwnE w B (cs.getD (t*3+1) undef) (cs.getD (t*3+2) undef) (es.getD t e3d)) ∧
 ∀ t t',t<k→t'<k→t≠t'→Aprt (cs.getD (t*3+1) undef) (cs.getD (t'*3+1) undef)∧Aprt (cs.getD (t*3+2) undef) (cs.getD (t'*3+2) undef)
theorem EntsTo.below {w w':World} {B k:Nat} {cs:List Value} {es:List E3} (h:EntsTo w B k cs es) (hb:Below w.heap.size w w'):EntsTo w' B k cs es:=⟨fun t ht=>⟨(h.1 t ht).1,(h.1 t ht).2.below hb⟩,h.2⟩
theorem OwnE.setP {w:World} {B P j:Nat} {vb vf:Value} {e:E3} (h:OwnE w B vb vf e) (h1:vb.ownBlock≠some P) (h2:vf.ownBlock≠some P) (u:Value):OwnE (w.setCell ⟨P,j,none⟩ u) B vb vf e:=
 ⟨ownsRow_setCell_other h.1 h1 u,ownsRow_setCell_other h.2 h2 u⟩
theorem aprt_new {w:World} {B B' e s n:Nat} {u v:Value} {xs:List Value} (hu:w.ownsRow B e s u n xs) (hv:∀ x,v.ownBlock=some x→w.heap.size≤x):Aprt u v∧Aprt v u:=by
 constructor
 ·rcases hb:u.ownBlock with _ | x
  ·exact .inl hb
  ·refine .inr ?_
   rw [hb]
   intro h
   have:=(hu.lt x hb).2
   have:=hv x h.symm
   omega
 ·rcases hb:v.ownBlock with _ | x
  ·exact .inl hb
  ·refine .inr ?_
   rw [hb]
   intro h
   have:=(hu.lt x h.symm).2
   have:=hv x hb
   omega
theorem getD_set3 {cs:List Value} {i:Nat} {a b c:Value} (h:i+2<cs.length) :
  (∀ j,j<i∨i+2<j→(((cs.set i a).set (i+1) b).set (i+2) c)[j]?=cs[j]?)∧(((cs.set i a).set (i+1) b).set (i+2) c)[i]?=some a∧(((cs.set i a).set (i+1) b).set (i+2) c)[i+1]?=some b∧(((cs.set i a).set (i+1) b).set (i+2) c)[i+2]?=some c:=by
 refine ⟨fun j hj=>?_,?_,?_,?_⟩
 ·rw [List.getElem?_set_ne (by omega),List.getElem?_set_ne (by omega),List.getElem?_set_ne (by omega)]
 ·rw [List.getElem?_set_ne (by omega),List.getElem?_set_ne (by omega),List.getElem?_set_self (by omega)]
 ·rw [List.getElem?_set_ne (by omega),List.getElem?_set_self (by simp;omega)]
 ·rw [List.getElem?_set_self (by simp;omega)]
theorem EntsTo.put {w w':World} {B P k:Nat} {cs:List Value} {es:List E3} {vb vf:Value} (h:EntsTo w B k cs es) (hb:Below w.heap.size w w') (hk:k*3+2<cs.length)
  (hn:OwnE w' w.heap.size vb vf (es.getD k e3d)) (hB:B≤w.heap.size) (hP:P<w.heap.size) (hPn:∀ t,t<k→(cs.getD (t*3+1) undef).ownBlock≠some P∧(cs.getD (t*3+2) undef).ownBlock≠some P) :
  EntsTo (((w'.setCell ⟨P,k*3,none⟩ (.string (es.getD k e3d).1)).setCell ⟨P,k*3+1,none⟩ vb).setCell ⟨P,k*3+2,none⟩ vf) B (k+1) (((cs.set (k*3) (.string (es.getD k e3d).1)).set (k*3+1) vb).set (k*3+2) vf) es:=by
 obtain ⟨g1,g2,g3,g4⟩:=getD_set3 (a:=.string (es.getD k e3d).1) (b:=vb) (c:=vf) hk
 generalize ((cs.set (k*3) (.string (es.getD k e3d).1)).set (k*3+1) vb).set (k*3+2) vf=ds at *
 have old:∀ t,t<k→ds[t*3]?=cs[t*3]?∧ds.getD (t*3+1) undef=cs.getD (t*3+1) undef∧ds.getD (t*3+2) undef=cs.getD (t*3+2) undef:=fun t ht =>
  ⟨g1 _ (by omega),by rw [List.getD,List.getD,g1 _ (by omega)],by rw [List.getD,List.getD,g1 _ (by omega)]⟩
 have nb:ds.getD (k*3+1) undef=vb:=by rw [List.getD,g3];rfl
 have nf:ds.getD (k*3+2) undef=vf:=by rw [List.getD,g4];rfl
 have lb:∀ x,vb.ownBlock=some x→w.heap.size≤x:=fun x hx=>(hn.1.lt x hx).1
 have lf:∀ x,vf.ownBlock=some x→w.heap.size≤x:=fun x hx=>(hn.2.lt x hx).1
 have pb:vb.ownBlock≠some P:=fun e=>by have:=lb P e;omega
 have pf:vf.ownBlock≠some P:=fun e=>by have:=lf P e;omega
 refine ⟨fun t ht=>?_,fun t t' ht ht' hne=>?_⟩
 ·by_cases e:t=k
  ·subst e
   rw [nb,nf]
   exact ⟨g2,(((hn.lower hB).setP pb pf _).setP pb pf _).setP pb pf _⟩
  ·obtain ⟨o1,o2,o3⟩:=old t (by omega)
   obtain ⟨h1,h2⟩:=h.1 t (by omega)
   obtain ⟨q1,q2⟩:=hPn t (by omega)
   rw [o1,o2,o3]
   exact ⟨h1,(((h2.below hb).setP q1 q2 _).setP q1 q2 _).setP q1 q2 _⟩
 ·by_cases e:t=k
  ·subst e
   obtain ⟨_,o2,o3⟩:=old t' (by omega)
   obtain ⟨_,h2⟩:=h.1 t' (by omega)
   rw [nb,nf,o2,o3]
   exact ⟨(aprt_new (B':=0) h2.1 lb).2,(aprt_new (B':=0) h2.2 lf).2⟩
  ·obtain ⟨_,o2,o3⟩:=old t (by omega)
   by_cases e':t'=k
   ·subst e'
    obtain ⟨_,h2⟩:=h.1 t (by omega)
    rw [nb,nf,o2,o3]
    exact ⟨(aprt_new (B':=0) h2.1 lb).1,(aprt_new (B':=0) h2.2 lf).1⟩
   ·obtain ⟨_,o2',o3'⟩:=old t' (by omega)
    rw [o2,o3,o2',o3']
    exact h.2 t t' (by omega) (by omega) hne

def OwnM (w:World) (B:Nat) (v:Value) (es:List E3):Prop:=∃ cs,w.ownsRow B 45 3 v es.length cs∧EntsTo w B es.length cs es
theorem OwnM.below {w w':World} {B:Nat} {v:Value} {es:List E3} (h:OwnM w B v es) (hb:Below w.heap.size w w'):OwnM w' B v es:=by
 obtain ⟨cs,h1,h2⟩:=h
 exact ⟨cs,owns8 h1 hb,h2.below hb⟩
theorem OwnM.ents {w:World} {B:Nat} {a:Option Addr} {len cap:Nat} {es:List E3} (h:OwnM w B (.slice a len cap) es) (hf:∀ e ∈ es,e.fits):Ents w a len cap es:=by
 obtain ⟨cs,h1,h2⟩:=h
 rcases h1.2 with ⟨hv,h0⟩ | ⟨g,cap',cur,hv,_,hh,hn,hcm,_⟩
 ·injection hv with e1 e2 e3
  subst e1 e2 e3
  obtain rfl:es=[]:=List.eq_nil_of_length_eq_zero h0
  exact ⟨rfl,Nat.le_refl _,by unfold maxLen;omega,.inl rfl⟩
 ·injection hv with e1 e2 e3
  subst e1 e2 e3
  have hl:=h1.1
  refine ⟨rfl,hn,hcm,.inr ⟨g,0,rfl,(h1.lt g rfl).2,fun t ht=>?_⟩⟩
  have hc:=fun j (hj:j<es.length*3)=>h1.cellAt j hj
  obtain ⟨k1,k2⟩:=h2.1 t ht
  obtain ⟨s,e1,e2⟩:=k2.slices
  have hg:∀ j,j<cs.length→cs[j]?=some (cs.getD j undef):=fun j hj=>by simp [List.getD,List.getElem?_eq_getElem hj]
  refine ⟨s,?_,?_,?_,?_⟩
  ·rw [Nat.zero_add,hc _ (by omega)];exact k1
  ·rw [Nat.zero_add,hc _ (by omega),hg _ (by omega),e1]
  ·rw [Nat.zero_add,hc _ (by omega),hg _ (by omega),e2]
  ·rw [e1,e2] at k2
   exact k2.mem (hf _ (by simp [List.getD,List.getElem?_eq_getElem ht]))
theorem Ents.fits {w:World} {a:Option Addr} {len cap:Nat} {es:List E3} (h:Ents w a len cap es):∀ e ∈ es,e.fits:=by
 intro e he
 obtain ⟨t,ht,rfl⟩:=List.getElem_of_mem he
 obtain ⟨h1,_,_,hc⟩:=h
 rcases hc with h0 | ⟨b,off,_,_,hc⟩
 ·omega
 ·obtain ⟨s,_,_,_,hm⟩:=hc t (by omega)
  have e2:es.getD t e3d=es[t]:=by simp [List.getD,List.getElem?_eq_getElem ht]
  rw [e2] at hm
  exact hm.fits

theorem OwnE.low {w:World} {B:Nat} {vb vf:Value} {e:E3} (h:OwnE w B vb vf e) {p:Addr} (hp:p.block<B) (u:Value):OwnE (w.setCell p u) B vb vf e:=⟨ownsRow_setCell_below h.1 hp u,ownsRow_setCell_below h.2 hp u⟩
theorem OwnM.low {w:World} {B:Nat} {v:Value} {es:List E3} (h:OwnM w B v es) {p:Addr} (hp:p.block<B) (u:Value):OwnM (w.setCell p u) B v es:=by
 obtain ⟨cs,h1,h2,h3⟩:=h
 exact ⟨cs,ownsRow_setCell_below h1 hp u,fun t ht=>⟨(h2 t ht).1,(h2 t ht).2.low hp u⟩,h3⟩


def Mid9 (B T:Nat) (w w':World):Prop:=Below B w w'∧∀ j,T≤j→j<w.heap.size→w'.heap[j]?=w.heap[j]?
theorem Mid9.refl (B T:Nat) (w:World):Mid9 B T w w:=⟨Below.refl _ _,fun _ _ _=>rfl⟩
theorem Mid9.step {B T:Nat} {w wr w1:World} {u:Value} (h:Mid9 B T w wr) (hg:wr.grownBy w1 u.ownBlock) (hsz:B≤wr.heap.size) (hlow:∀ x,u.ownBlock=some x→B≤x) (htop:∀ x,u.ownBlock=some x→x<T):Mid9 B T w w1:=
 ⟨h.1.grown hg hsz hlow,fun j hj hl=>by
  rw [hg.block j (Nat.lt_of_lt_of_le hl h.1.size) (fun e=>absurd (htop j e.symm) (by omega))]
  exact h.2 j hj hl⟩
theorem Mid9.blk {B T g t:Nat} {w w':World} {cs:List Value} (h:Mid9 B T w w') (hB:Blk w g t cs) (hg:T≤g):Blk w' g t cs:=(h.2 g hg hB.lt).trans hB
def OwnProgT (w:World) (B T:Nat) (v:Value) (rows:List (List I3)):Prop:=∃ vs,w.ownsRow B 91 1 v rows.length vs∧OwnRows w B vs rows∧∀ u ∈ vs,∀ x,u.ownBlock=some x→x<T
theorem OwnProgT.own {w:World} {B T:Nat} {v:Value} {rows:List (List I3)} (h:OwnProgT w B T v rows):OwnProg w B v rows:=by
 obtain ⟨vs,h1,h2,_⟩:=h
 exact ⟨vs,h1,h2⟩
theorem OwnProgT.below {w w':World} {B T:Nat} {v:Value} {rows:List (List I3)} (h:OwnProgT w B T v rows) (hb:Below w.heap.size w w'):OwnProgT w' B T v rows:=by
 obtain ⟨vs,h1,h2,h3⟩:=h
 exact ⟨vs,owns_below h1 hb,h2.below hb,h3⟩


def OwnMT (w:World) (B T:Nat) (v:Value) (es:List E3):Prop:=∃ cs,w.ownsRow B 45 3 v es.length cs∧EntsTo w B es.length cs es∧(∀ x,v.ownBlock=some x→x<T)∧∀ t,t<es.length→(∀ x,(cs.getD (t*3+1) undef).ownBlock=some x→x<T)∧∀ x,(cs.getD (t*3+2) undef).ownBlock=some x→x<T
theorem OwnMT.own {w:World} {B T:Nat} {v:Value} {es:List E3} (h:OwnMT w B T v es):OwnM w B v es:=by
 obtain ⟨cs,h1,h2,_⟩:=h
 exact ⟨cs,h1,h2⟩
theorem OwnMT.below {w w':World} {B T:Nat} {v:Value} {es:List E3} (h:OwnMT w B T v es) (hb:Below w.heap.size w w'):OwnMT w' B T v es:=by
 obtain ⟨cs,h1,h2,h3,h4⟩:=h
 exact ⟨cs,owns8 h1 hb,h2.below hb,h3,h4⟩
theorem getD_setE {L:List E3} {j t:Nat} {x:E3} (hj:j<L.length):(L.set j x).getD t e3d=if t=j then x else L.getD t e3d:=by
 by_cases e:t=j
 ·subst e;simp [List.getD,hj]
 ·rw [if_neg e];simp [List.getD,List.getElem?_set_ne (Ne.symm e)]

theorem EntsTo.key {w:World} {B P j:Nat} {cs:List Value} {L:List E3} {s:ByteArray} (h:EntsTo w B L.length cs L) (hj:j<L.length) (hc:j*3+2<cs.length) (hP:∀ t,t<L.length→(cs.getD (t*3+1) undef).ownBlock≠some P∧(cs.getD (t*3+2) undef).ownBlock≠some P) :
  EntsTo (w.setCell ⟨P,j*3,none⟩ (.string s)) B (L.set j (s,(L.getD j e3d).2)).length (cs.set (j*3) (.string s)) (L.set j (s,(L.getD j e3d).2)):=by
 rw [List.length_set]
 have o:∀ i,i≠j*3→(cs.set (j*3) (.string s))[i]?=cs[i]?:=fun i hi=>List.getElem?_set_ne (Ne.symm hi)
 have o1:∀ t,(cs.set (j*3) (.string s)).getD (t*3+1) undef=cs.getD (t*3+1) undef:=fun t=>by rw [List.getD,List.getD,o _ (by omega)]
 have o2:∀ t,(cs.set (j*3) (.string s)).getD (t*3+2) undef=cs.getD (t*3+2) undef:=fun t=>by rw [List.getD,List.getD,o _ (by omega)]
 refine ⟨fun t ht=>?_,fun t t' ht ht' hne=>by rw [o1,o1,o2,o2];exact h.2 t t' ht ht' hne⟩
 rw [o1,o2,getD_setE hj]
 obtain ⟨q1,q2⟩:=hP t ht
 have h2:=(h.1 t ht).2.setP (j:=j*3) q1 q2 (.string s)
 by_cases e:t=j
 ·subst e
  rw [if_pos rfl]
  exact ⟨by rw [List.getElem?_set_self (by omega)],h2⟩
 ·rw [if_neg e,o _ (by omega)]
  exact ⟨(h.1 t ht).1,h2⟩
theorem EntsTo.bugs {w w':World} {B j:Nat} {cs:List Value} {L:List E3} {bs:List I3} (h:EntsTo w B L.length cs L) (hj:j<L.length) (hl:bs.length=(L.getD j e3d).2.1.length)
  (hr:w'.ownsRow B 103 3 (cs.getD (j*3+1) undef) bs.length (flat bs)) (hg:w.grownBy w' (cs.getD (j*3+1) undef).ownBlock) :
  EntsTo w' B (L.set j ((L.getD j e3d).1,bs,(L.getD j e3d).2.2)).length cs (L.set j ((L.getD j e3d).1,bs,(L.getD j e3d).2.2)):=by
 rw [List.length_set]
 have hb:=(h.1 j hj).2.1
 refine ⟨fun t ht=>?_,h.2⟩
 rw [getD_setE hj]
 obtain ⟨k1,k2,k3⟩:=h.1 t ht
 have k3':=k3.kept hg (owns_ne k3 hb (by decide))
 by_cases e:t=j
 ·subst e
  rw [if_pos rfl]
  exact ⟨k1,hr,k3'⟩
 ·rw [if_neg e]
  exact ⟨k1,k2.kept hg ((h.2 t j ht hj e).1),k3'⟩
theorem EntsTo.foot {w w':World} {B j:Nat} {cs:List Value} {L:List E3} {zs:List Int} (h:EntsTo w B L.length cs L) (hj:j<L.length)
  (hr:w'.ownsRow B 3 1 (cs.getD (j*3+2) undef) zs.length (zs.map (Value.int .i64))) (hg:w.grownBy w' (cs.getD (j*3+2) undef).ownBlock) :
  EntsTo w' B (L.set j ((L.getD j e3d).1,(L.getD j e3d).2.1,zs)).length cs (L.set j ((L.getD j e3d).1,(L.getD j e3d).2.1,zs)):=by
 rw [List.length_set]
 have hb:=(h.1 j hj).2.2
 refine ⟨fun t ht=>?_,h.2⟩
 rw [getD_setE hj]
 obtain ⟨k1,k2,k3⟩:=h.1 t ht
 have k2':=k2.kept hg (owns_ne k2 hb (by decide))
 by_cases e:t=j
 ·subst e
  rw [if_pos rfl]
  exact ⟨k1,k2',hr⟩
 ·rw [if_neg e]
  exact ⟨k1,k2',k3.kept hg ((h.2 t j ht hj e).2)⟩


theorem Mid9.bel {B T:Nat} {w wr w1:World} (h:Mid9 B T w wr) (hb:Below wr.heap.size wr w1) (hB:B≤wr.heap.size):Mid9 B T w w1:=
 ⟨h.1.trans (hb.mono hB),fun j hj hl=>(hb.block j (Nat.lt_of_lt_of_le hl h.1.size)).trans (h.2 j hj hl)⟩


theorem own_ne_blk9' {w:World} {B e s n g t:Nat} {v:Value} {xs cs:List Value} (h:w.ownsRow B e s v n xs) (hB:Blk w g t cs) (he:e≠t):v.ownBlock≠some g:=by
 rcases h.2 with ⟨rfl,_⟩ | ⟨g',cap,cur,rfl,_,hh,_⟩
 ·simp [Value.ownBlock]
 ·simp only [Value.ownBlock,ne_eq,Option.some.injEq]
  rintro rfl
  unfold Blk at hB
  rw [hh] at hB
  simp at hB
  exact he hB.2
def OwnET (w:World) (B T:Nat) (vb vf:Value) (e:E3):Prop:=OwnE w B vb vf e∧(∀ x,vb.ownBlock=some x→x<T)∧∀ x,vf.ownBlock=some x→x<T
theorem OwnET.below {w w':World} {B T:Nat} {vb vf:Value} {e:E3} (h:OwnET w B T vb vf e) (hb:Below w.heap.size w w'):OwnET w' B T vb vf e:=⟨h.1.below hb,h.2⟩


def OwnL9 (w:World) (B:Nat) (v:Value) (z:List Int):Prop:=w.ownsRow B 3 1 v z.length (z.map (Value.int .i64))
def HeldL9 (w:World) (B:Nat) (v:Value) (z:List Int):Prop:=w.ownsRow B 3 1 v z.length ((mkTo 1 z z.length).map (Value.int .i64))
theorem OwnL9.below {w w':World} {B:Nat} {v:Value} {z:List Int} (h:OwnL9 w B v z) (hb:Below w.heap.size w w'):OwnL9 w' B v z:=owns8 h hb
theorem HeldL9.below {w w':World} {B:Nat} {v:Value} {z:List Int} (h:HeldL9 w B v z) (hb:Below w.heap.size w w'):HeldL9 w' B v z:=owns8 h hb


theorem OwnM.nil9 (w:World) (B:Nat):OwnM w B (.slice none 0 0) []:=⟨[],World.ownsRow_nil _ _ _ _,fun t ht=>by simp at ht,fun t _ ht=>by simp at ht⟩
theorem OwnM.lower {w:World} {B B':Nat} {v:Value} {es:List E3} (h:OwnM w B v es) (hB:B'≤B):OwnM w B' v es:=by
 obtain ⟨cs,h1,h2,h3⟩:=h
 exact ⟨cs,lower8 h1 hB,fun t ht=>⟨(h2 t ht).1,(h2 t ht).2.lower hB⟩,h3⟩
theorem OwnM.slice9 {w:World} {B:Nat} {v:Value} {es:List E3} (h:OwnM w B v es):∃ a c,v=.slice a es.length c:=by
 obtain ⟨cs,h1,_⟩:=h
 exact slice8 h1


theorem newsB9 {w:World} {ad:Addr} {n c:Nat} {xs:List I3} (h:Instrs w (some ad) n c xs):∀ j u,(flat xs)[j]?=some u→w.cell? (ad.add j)=some u:=by
 have h':=h
 obtain ⟨hl,_,_,_,hc⟩:=h
 rcases hc with h0 | ⟨b,off,ha,_⟩
 ·obtain rfl:xs=[]:=List.eq_nil_of_length_eq_zero (hl.trans h0)
  intro j u hj
  simp [flat] at hj
 ·cases ha
  exact instrs_news h'
theorem newsI9 {w:World} {ad:Addr} {n c:Nat} {xs:List Int} (h:Ints .i64 w (some ad) n c xs):∀ j u,(xs.map (Value.int .i64))[j]?=some u→w.cell? (ad.add j)=some u:=by
 have h':=h
 obtain ⟨hl,_,_,hc⟩:=h
 rcases hc with h0 | ⟨b,off,ha,_⟩
 ·obtain rfl:xs=[]:=List.eq_nil_of_length_eq_zero (hl.trans h0)
  intro j u hj
  simp at hj
 ·cases ha
  exact news8 h'

theorem run_app9 {P:Program} {w:World} (base:Nat) (t ty e:TypeId) (i:TypeInfo) (z:Value) (size bytes:Nat) (ht:P.underlying t=some (.slice e)) (hi:P.info? e=some i) (hz:i.zero=some z)
  (hsize:i.size=size) (hby:i.bytes=bytes) (hzs:z.cells.size=size) (hsz:0<size)
  (v:Value) (n:Nat) (xs:List Value) (hown:w.ownsRow base e size v n xs)
  (a:Option Addr) (m c:Nat) (hno:a=none→m=0∧c=0) (news:List Value) (hl:news.length=m*size) (hnews:∀ ad,a=some ad→∀ j u,news[j]?=some u→w.cell? (ad.add j)=some u) (h1:∀ u ∈ news,u.oneCell'=true)
  (h63:n+m≤maxLen) (hbytes:(n+m)*bytes≤140737488355328) (hbase:base≤w.heap.size) :
  ∃ v' w',(Builtin.append_ #[t,t] ty #[v,.slice a m c]).run P w=.ok v' w'∧w'.ownsRow base e size v' (n+m) (xs++news)∧w.grownBy w' v.ownBlock∧(v'.ownBlock=v.ownBlock∨v'.ownBlock=some w.heap.size):=by
 cases a with
 | none =>
  obtain ⟨rfl,rfl⟩:=hno rfl
  obtain rfl:news=[]:=List.eq_nil_of_length_eq_zero (by rw [hl,Nat.zero_mul])
  exact ⟨v,w,run_append_owned_none (P:=P) (w:=w) base t ty e i size ht hi v n xs hown,by simpa using hown,⟨rfl,rfl,rfl,Nat.le_refl _,fun _ _ _=>rfl⟩,.inl rfl⟩
 | some ad =>
  obtain ⟨v',w',hrun,r1,r2,_,r4⟩:=run_append_own_at (P:=P) (w:=w) base t ty e i z size bytes ht hi hz hsize hby hzs hsz v n xs hown ad m c news hl (hnews ad rfl) h1 h63 hbytes hbase
  exact ⟨v',w',hrun,r1,r2,r4⟩
theorem wpList_app9 {P:Program} {w:World} {ops:Array Oper} {rest:List Oper} {o:Oper} {act:Act} {Q:Exit→Act→World→Prop} (hgd:o.guard=none) (s x:Operand) (t:TypeId)
  (ho:o.op=.call { callee:=.builtin .append,args:=#[s,x],argTypes:=#[t,t] })
  (base:Nat) (e:TypeId) (i:TypeInfo) (z:Value) (size bytes:Nat) (ht:P.underlying t=some (.slice e)) (hi:P.info? e=some i) (hz:i.zero=some z)
  (hsize:i.size=size) (hby:i.bytes=bytes) (hzs:z.cells.size=size) (hsz:0<size)
  (v:Value) (n:Nat) (xs:List Value) (hs:act.eval s=v) (hown:w.ownsRow base e size v n xs)
  (a:Option Addr) (m c:Nat) (hx:act.eval x=.slice a m c) (hno:a=none→m=0∧c=0) (news:List Value) (hl:news.length=m*size) (hnews:∀ ad,a=some ad→∀ j u,news[j]?=some u→w.cell? (ad.add j)=some u) (h1:∀ u ∈ news,u.oneCell'=true)
  (h63:n+m≤maxLen) (hbytes:(n+m)*bytes≤140737488355328) (hbase:base≤w.heap.size)
  (h:∀ v' w',w'.ownsRow base e size v' (n+m) (xs++news)→w.grownBy w' v.ownBlock→(v'.ownBlock=v.ownBlock∨v'.ownBlock=some w.heap.size)→wpList P ops Q rest (act.put o.dst v') w'):wpList P ops Q (o::rest) act w:=by
 refine wpList_plain hgd fun K hK=>?_
 obtain ⟨v',w',hrun,r1,r2,r4⟩:=run_app9 (P:=P) (w:=w) base t o.type e i z size bytes ht hi hz hsize hby hzs hsz v n xs hown a m c hno news hl hnews h1 h63 hbytes hbase
 unfold Oper.wp
 simp [execOp,ho,resolve,invoke,builtin,hs,hx,hrun,Result.andThen]
 exact hK _ _ (h v' w' r1 r2 r4)
theorem step_app9 {P:Program} {ops:Array Oper} {o:Oper} {act:Act} {w:World} {K:Act→World→Prop} {Q:Exit→Act→World→Prop} {E:Prop}
  (hg:o.guard=none) (s x:Operand) (t:TypeId) (hop:o.op=Op.call { callee:=Callee.builtin Builtin.append,args:=#[s,x],argTypes:=#[t,t] })
  (base:Nat) (e:TypeId) (i:TypeInfo) (z:Value) (size bytes:Nat) (ht:P.underlying t=some (.slice e)) (hi:P.info? e=some i) (hz:i.zero=some z)
  (hsize:i.size=size) (hby:i.bytes=bytes) (hzs:z.cells.size=size) (hsz:0<size)
  (v:Value) (n:Nat) (xs:List Value) (hs:act.eval s=v) (hown:w.ownsRow base e size v n xs)
  (a:Option Addr) (m c:Nat) (hx:act.eval x=.slice a m c) (hno:a=none→m=0∧c=0) (news:List Value) (hl:news.length=m*size) (hnews:∀ ad,a=some ad→∀ j u,news[j]?=some u→w.cell? (ad.add j)=some u) (h1:∀ u ∈ news,u.oneCell'=true)
  (h63:n+m≤maxLen) (hbytes:(n+m)*bytes≤140737488355328) (hbase:base≤w.heap.size)
  (hK:∀ v' w',w'.ownsRow base e size v' (n+m) (xs++news)→w.grownBy w' v.ownBlock→(v'.ownBlock=v.ownBlock∨v'.ownBlock=some w.heap.size)→K (act.put o.dst v') w') :
  if Region.wanted o (yielded ops act.tmps)=true then Oper.wp P o act w K Q else E:=by
 have hw:Region.wanted o (yielded ops act.tmps)=true:=by simp [Region.wanted,hg]
 rw [if_pos hw]
 obtain ⟨v',w',hrun,r1,r2,r4⟩:=run_app9 (P:=P) (w:=w) base t o.type e i z size bytes ht hi hz hsize hby hzs hsz v n xs hown a m c hno news hl hnews h1 h63 hbytes hbase
 subst hs
 unfold Oper.wp
 simp [execOp,hop,resolve,invoke,builtin,hx,hrun,Result.andThen]
 exact hK v' w' r1 r2 r4

abbrev EQ:=E3 × Sl2
def entL (L:List EQ):List Value:=L.flatMap fun x=>entC x.1.1 x.2
theorem entL_append (L M:List EQ):entL (L++M)=entL L++entL M:=by simp [entL]
theorem entL_length (L:List EQ):(entL L).length=L.length*3:=by
 induction L with
 | nil=>rfl
 | cons x L ih =>
  have:entL (x::L)=entC x.1.1 x.2++entL L:=rfl
  rw [this,List.length_append,ih]
  simp [entC]
  omega
theorem entL_at:∀ {L:List EQ} {t j:Nat} {x:EQ},L[t]?=some x→j<3→(entL L)[t*3+j]?=(entC x.1.1 x.2)[j]?
 | [],t,j,x,h,_=>by simp at h
 | y::L,0,j,x,h,hj=>by
  simp at h
  subst h
  have:entL (y::L)=entC y.1.1 y.2++entL L:=rfl
  rw [this,Nat.zero_mul,Nat.zero_add,List.getElem?_append_left (by simp [entC];omega)]
 | y::L,t+1,j,x,h,hj=>by
  simp at h
  have:entL (y::L)=entC y.1.1 y.2++entL L:=rfl
  rw [this,List.getElem?_append_right (by simp [entC];omega)]
  rw [show (t+1)*3+j - (entC y.1.1 y.2).length=t*3+j by simp [entC];omega]
  exact entL_at h hj
def EntQ (w:World) (a:Option Addr) (n c:Nat) (L:List EQ):Prop:=
 L.length=n∧n≤c∧c≤maxLen∧(∀ x ∈ L,Emem w x.2 x.1)∧(n=0∨∃ b off,a=some ⟨b,off,none⟩∧b<w.heap.size∧∀ j u,(entL L)[j]?=some u→w.cell? ⟨b,off+j,none⟩=some u)
theorem EntQ.below {w w':World} {a:Option Addr} {n c:Nat} {L:List EQ} (h:EntQ w a n c L) (hb:Below w.heap.size w w'):EntQ w' a n c L:=by
 obtain ⟨h1,h2,h3,h4,h5⟩:=h
 refine ⟨h1,h2,h3,fun x hx=>(h4 x hx).below hb,?_⟩
 rcases h5 with h0 | ⟨b,off,ha,hlt,hc⟩
 ·exact .inl h0
 ·exact .inr ⟨b,off,ha,by have:=hb.size;omega,fun j u hj=>by rw [hb.cell (p:=⟨b,_,none⟩) hlt];exact hc j u hj⟩
theorem getD_map9 {L:List EQ} {t:Nat} {x:EQ} (h:L[t]?=some x):(L.map (·.1)).getD t e3d=x.1:=by simp [List.getD,List.getElem?_map,h]
theorem EntQ.ents {w:World} {a:Option Addr} {n c:Nat} {L:List EQ} (h:EntQ w a n c L):Ents w a n c (L.map (·.1)):=by
 obtain ⟨h1,h2,h3,h4,h5⟩:=h
 refine ⟨by simpa using h1,h2,h3,?_⟩
 rcases h5 with h0 | ⟨b,off,ha,hlt,hc⟩
 ·exact .inl h0
 ·refine .inr ⟨b,off,ha,hlt,fun t ht=>?_⟩
  have hx:L[t]?=some L[t]:=List.getElem?_eq_getElem (by omega)
  rw [getD_map9 hx]
  refine ⟨L[t].2,?_,?_,?_,h4 _ (List.getElem_mem _)⟩
  ·exact hc _ _ (by have:=entL_at hx (j:=0) (by omega);rw [Nat.add_zero] at this;rw [this];rfl)
  ·rw [Nat.add_assoc];exact hc _ _ (by rw [entL_at hx (j:=1) (by omega)];rfl)
  ·rw [Nat.add_assoc];exact hc _ _ (by rw [entL_at hx (j:=2) (by omega)];rfl)
theorem EntQ.of_owns {w:World} {B:Nat} {a:Option Addr} {n c:Nat} {L:List EQ} (h:w.ownsRow B 45 3 (.slice a n c) n (entL L)) (hm:∀ x ∈ L,Emem w x.2 x.1):EntQ w a n c L:=by
 have hl:=h.1
 rw [entL_length] at hl
 have hl2:L.length=n:=by omega
 rcases h.2 with ⟨hv,h0⟩ | ⟨g,cap,cur,hv,_,hg,hn,hcm,_,_⟩
 ·injection hv with e1 e2 e3
  exact ⟨hl2,by omega,by unfold maxLen;omega,hm,.inl h0⟩
 ·injection hv with e1 e2 e3
  subst e1 e3
  refine ⟨hl2,hn,hcm,hm,.inr ⟨g,0,rfl,(h.lt g rfl).2,fun j u hj=>?_⟩⟩
  have hjl:j<n*3:=by
   have:=(List.getElem?_eq_some_iff.1 hj).1
   rw [entL_length] at this
   omega
  rw [Nat.zero_add,h.cellAt j hjl]
  exact hj
theorem OwnE.kept9 {w w':World} {B B' n:Nat} {vb vf v:Value} {e:E3} {cs:List Value} (h:OwnE w B vb vf e) (hg:w.grownBy w' v.ownBlock) (ho:w.ownsRow B' 45 3 v n cs):OwnE w' B vb vf e:=
 ⟨h.1.kept hg (owns_ne h.1 ho (by decide)),h.2.kept hg (owns_ne h.2 ho (by decide))⟩
theorem OwnM.snoc9 {w w1 w2 w3:World} {B:Nat} {v v':Value} {es:List E3} {e:E3} {s:Sl2} {cs:List Value} (h:w.ownsRow B 45 3 v es.length cs) (hE:EntsTo w B es.length cs es) (hb:Below w.heap.size w w1)
  (hn:OwnE w1 w.heap.size (.slice s.1.1 s.1.2.1 s.1.2.2) (.slice s.2.1 s.2.2.1 s.2.2.2) e) (hb2:Below w1.heap.size w1 w2) (hg:w2.grownBy w3 v.ownBlock) (ho:w3.ownsRow B 45 3 v' (es.length+1) (cs++entC e.1 s)) (hB:B≤w.heap.size):OwnM w3 B v' (es++[e]):=by
 have hl:=h.1
 have h2:w2.ownsRow B 45 3 v es.length cs:=owns8 (owns8 h hb) hb2
 have old:∀ t,t<es.length→(cs++entC e.1 s)[t*3]?=cs[t*3]?∧(cs++entC e.1 s).getD (t*3+1) undef=cs.getD (t*3+1) undef∧(cs++entC e.1 s).getD (t*3+2) undef=cs.getD (t*3+2) undef:=fun t ht =>
  ⟨List.getElem?_append_left (by omega),by rw [List.getD,List.getD,List.getElem?_append_left (by omega)],by rw [List.getD,List.getD,List.getElem?_append_left (by omega)]⟩
 have n0:(cs++entC e.1 s)[es.length*3]?=some (.string e.1):=by rw [← hl,List.getElem?_append_right (Nat.le_refl _),Nat.sub_self];rfl
 have n1:(cs++entC e.1 s).getD (es.length*3+1) undef=.slice s.1.1 s.1.2.1 s.1.2.2:=by rw [List.getD,← hl,List.getElem?_append_right (by omega),Nat.add_sub_cancel_left];rfl
 have n2:(cs++entC e.1 s).getD (es.length*3+2) undef=.slice s.2.1 s.2.2.1 s.2.2.2:=by rw [List.getD,← hl,List.getElem?_append_right (by omega),Nat.add_sub_cancel_left];rfl
 have eo:∀ t,t<es.length→(es++[e]).getD t e3d=es.getD t e3d:=fun t ht=>by rw [List.getD,List.getD,List.getElem?_append_left ht]
 have en:(es++[e]).getD es.length e3d=e:=by simp [List.getD]
 have lb:∀ x,(Value.slice s.1.1 s.1.2.1 s.1.2.2).ownBlock=some x→w.heap.size≤x:=fun x hx=>(hn.1.lt x hx).1
 have lf:∀ x,(Value.slice s.2.1 s.2.2.1 s.2.2.2).ownBlock=some x→w.heap.size≤x:=fun x hx=>(hn.2.lt x hx).1
 refine ⟨cs++entC e.1 s,by simpa using ho,?_⟩
 rw [List.length_append,List.length_singleton]
 refine ⟨fun t ht=>?_,fun t t' ht ht' hne=>?_⟩
 ·by_cases e9:t=es.length
  ·subst e9
   rw [n0,n1,n2,en]
   exact ⟨rfl,((hn.lower hB).below hb2).kept9 hg h2⟩
  ·obtain ⟨o1,o2,o3⟩:=old t (by omega)
   rw [o1,o2,o3,eo t (by omega)]
   obtain ⟨k1,k2⟩:=hE.1 t (by omega)
   exact ⟨k1,((k2.below hb).below hb2).kept9 hg h2⟩
 ·by_cases e9:t=es.length
  ·subst e9
   obtain ⟨_,o2,o3⟩:=old t' (by omega)
   obtain ⟨_,k2⟩:=hE.1 t' (by omega)
   rw [n1,n2,o2,o3]
   exact ⟨(aprt_new (B':=0) k2.1 lb).2,(aprt_new (B':=0) k2.2 lf).2⟩
  ·obtain ⟨_,o2,o3⟩:=old t (by omega)
   by_cases e9':t'=es.length
   ·subst e9'
    obtain ⟨_,k2⟩:=hE.1 t (by omega)
    rw [n1,n2,o2,o3]
    exact ⟨(aprt_new (B':=0) k2.1 lb).1,(aprt_new (B':=0) k2.2 lf).1⟩
   ·obtain ⟨_,o2',o3'⟩:=old t' (by omega)
    rw [o2,o3,o2',o3']
    exact hE.2 t t' (by omega) (by omega) hne
end Go.Proofs.YtgmhhegckcionaaGreatDoor
