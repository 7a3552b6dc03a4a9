/-
  Joined: OwnQ.
-/
import Derived.Lib.Overlaps
import Derived.Test.YthlcdhddickdiaaDoorE43

namespace Go.Proofs.YthlcdhddickdiaaDoor
set_option maxRecDepth 100000
set_option maxHeartbeats 16000000
open Go.RowKit
set_option linter.unusedVariables false
set_option linter.unusedSimpArgs false

theorem row_ne_blkQ {w:World} {B e s n X t:Nat} {v:Value} {xs cs:List Value} (h:w.ownsRow B e s v n xs) (hb:Blk w X t cs) (hne:e≠t):v.ownBlock≠some X:=by
 rcases h.2 with ⟨rfl,_⟩ | ⟨g,cap,cur,rfl,_,hg,_⟩
 ·simp [Value.ownBlock]
 ·intro h9
  simp [Value.ownBlock] at h9
  subst h9
  unfold Blk at hb
  rw [hg] at hb
  simp at hb
  exact hne hb.2
def vb9 (x:EQ):Value:=.slice x.2.1.1 x.2.1.2.1 x.2.1.2.2
def vf9 (x:EQ):Value:=.slice x.2.2.1 x.2.2.2.1 x.2.2.2.2
def Apq (x y:EQ):Prop:=Aprt (vb9 x) (vb9 y)∧Aprt (vf9 x) (vf9 y)
theorem Aprt.symm {u v:Value} (h:Aprt u v):Aprt v u:=by
 rcases h with h | h
 ·rcases hv:v.ownBlock with _ | x
  ·exact .inl hv
  ·exact .inr (by rw [hv,h];simp)
 ·exact .inr (fun e=>h e.symm)
theorem Apq.symm {x y:EQ} (h:Apq x y):Apq y x:=⟨h.1.symm,h.2.symm⟩
def OwnQ (w:World) (B:Nat) (L:List EQ):Prop:=(∀ x ∈ L,OwnE w B (vb9 x) (vf9 x) x.1)∧L.Pairwise Apq
theorem entL_getD {L:List EQ} {t:Nat} {x:EQ} (h:L[t]?=some x):(entL L)[t*3]?=some (.string x.1.1)∧(entL L).getD (t*3+1) undef=vb9 x∧(entL L).getD (t*3+2) undef=vf9 x:=by
 have h0:=entL_at h (j:=0) (by omega)
 have h1:=entL_at h (j:=1) (by omega)
 have h2:=entL_at h (j:=2) (by omega)
 rw [Nat.add_zero] at h0
 exact ⟨by rw [h0];rfl,by rw [List.getD,h1];rfl,by rw [List.getD,h2];rfl⟩
theorem OwnQ.to {w:World} {B:Nat} {L:List EQ} (h:OwnQ w B L):EntsTo w B (L.map (·.1)).length (entL L) (L.map (·.1)):=by
 rw [List.length_map]
 refine ⟨fun t ht=>?_,fun t t' ht ht' hne=>?_⟩
 ·have hx:L[t]?=some L[t]:=List.getElem?_eq_getElem ht
  obtain ⟨a,b,c⟩:=entL_getD hx
  rw [a,b,c,getD_map9 hx]
  exact ⟨rfl,h.1 _ (List.getElem_mem _)⟩
 ·have hx:L[t]?=some L[t]:=List.getElem?_eq_getElem ht
  have hy:L[t']?=some L[t']:=List.getElem?_eq_getElem ht'
  obtain ⟨_,b,c⟩:=entL_getD hx
  obtain ⟨_,b',c'⟩:=entL_getD hy
  rw [b,c,b',c']
  rcases Nat.lt_or_gt_of_ne hne with h9 | h9
  ·exact List.pairwise_iff_getElem.1 h.2 t t' ht ht' h9
  ·exact (List.pairwise_iff_getElem.1 h.2 t' t ht' ht h9).symm
theorem OwnM.q9 {w:World} {B:Nat} {v:Value} {es:List E3} (h:OwnM w B v es):∃ L:List EQ,L.map (·.1)=es∧w.ownsRow B 39 3 v L.length (entL L)∧OwnQ w B L:=by
 obtain ⟨cs,h1,h2⟩:=h
 have hl:=h1.1
 obtain ⟨Y,hY⟩:=Go.Deep.choose_lt (α:=Sl2) (n:=es.length) (p:=fun t s=>cs[t*3+1]?=some (.slice s.1.1 s.1.2.1 s.1.2.2)∧cs[t*3+2]?=some (.slice s.2.1 s.2.2.1 s.2.2.2)) (fun t ht=>by
  obtain ⟨_,k2⟩:=h2.1 t ht
  obtain ⟨s,e1,e2⟩:=k2.slices
  have hg:∀ j,j<cs.length→cs[j]?=some (cs.getD j undef):=fun j hj=>by simp [List.getD,List.getElem?_eq_getElem hj]
  exact ⟨s,by rw [hg _ (by omega),e1],by rw [hg _ (by omega),e2]⟩)
 have hat:∀ t,t<es.length→((List.range es.length).map fun i=>((es.getD i e3d,Y i):EQ))[t]?=some (es.getD t e3d,Y t):=fun t ht=>by simp [List.getElem?_map,List.getElem?_range ht]
 have hLl:((List.range es.length).map fun i=>((es.getD i e3d,Y i):EQ)).length=es.length:=by simp
 have key:∀ t,t<es.length→∀ i,i<3→cs[t*3+i]?=(entC (es.getD t e3d).1 (Y t))[i]?:=fun t ht i hi=>by
  obtain ⟨y1,y2⟩:=hY t ht
  have k1:=(h2.1 t ht).1
  match i,hi with
  | 0,_=>rw [Nat.add_zero,k1];rfl
  | 1,_=>rw [y1];rfl
  | 2,_=>rw [y2];rfl
 have hcs:entL ((List.range es.length).map fun i=>((es.getD i e3d,Y i):EQ))=cs:=by
  apply List.ext_getElem?
  intro j
  by_cases hj:j<es.length*3
  ·have ht:j / 3<es.length:=by omega
   have e9:j / 3*3+j % 3=j:=by omega
   have h9:=entL_at (hat (j / 3) ht) (j:=j % 3) (by omega)
   have h8:=key (j / 3) ht (j % 3) (by omega)
   rw [e9] at h9 h8
   rw [h9,h8]
  ·rw [List.getElem?_eq_none (by rw [entL_length,hLl];omega),List.getElem?_eq_none (by omega)]
 have gb:∀ t,t<es.length→cs.getD (t*3+1) undef=vb9 (es.getD t e3d,Y t)∧cs.getD (t*3+2) undef=vf9 (es.getD t e3d,Y t):=fun t ht=>by
  refine ⟨?_,?_⟩
  ·rw [List.getD,(hY t ht).1];rfl
  ·rw [List.getD,(hY t ht).2];rfl
 refine ⟨(List.range es.length).map fun i=>(es.getD i e3d,Y i),?_,by rw [hLl,hcs];exact h1,?_,?_⟩
 ·apply List.ext_getElem?
  intro t
  by_cases ht:t<es.length
  ·rw [List.getElem?_map,hat t ht,List.getElem?_eq_getElem ht]
   simp [List.getD,List.getElem?_eq_getElem ht]
  ·rw [List.getElem?_eq_none (by simp;omega),List.getElem?_eq_none (by omega)]
 ·intro x hx
  obtain ⟨t,ht,rfl⟩:=List.mem_map.1 hx
  have ht':=List.mem_range.1 ht
  have k2:=(h2.1 t ht').2
  rw [(gb t ht').1,(gb t ht').2] at k2
  exact k2
 ·rw [List.pairwise_iff_getElem]
  intro i j hi hj hij
  rw [hLl] at hi hj
  have k:=h2.2 i j hi hj (by omega)
  rw [(gb i hi).1,(gb i hi).2,(gb j hj).1,(gb j hj).2] at k
  simpa [Apq] using k
theorem OwnQ.own {w:World} {B:Nat} {v:Value} {L:List EQ} (h:OwnQ w B L) (ho:w.ownsRow B 39 3 v L.length (entL L)):OwnM w B v (L.map (·.1)):=⟨entL L,by rw [List.length_map];exact ho,h.to⟩
theorem OwnQ.kept9 {w w':World} {B B' n:Nat} {v:Value} {L:List EQ} {cs:List Value} (h:OwnQ w B L) (hg:w.grownBy w' v.ownBlock) (ho:w.ownsRow B' 39 3 v n cs):OwnQ w' B L:=⟨fun x hx=>(h.1 x hx).kept9 hg ho,h.2⟩
theorem OwnQ.below {w w':World} {B:Nat} {L:List EQ} (h:OwnQ w B L) (hb:Below w.heap.size w w'):OwnQ w' B L:=⟨fun x hx=>(h.1 x hx).below hb,h.2⟩
theorem OwnQ.lower {w:World} {B B':Nat} {L:List EQ} (h:OwnQ w B L) (hB:B'≤B):OwnQ w B' L:=⟨fun x hx=>(h.1 x hx).lower hB,h.2⟩
theorem OwnQ.setP {w:World} {B X:Nat} {t:TypeId} {L:List EQ} {cs:List Value} (h:OwnQ w B L) (hb:Blk w X t cs) (h1:93≠t) (h2:3≠t) (j:Nat) (u:Value):OwnQ (w.setCell ⟨X,j,none⟩ u) B L:=
 ⟨fun x hx=>(h.1 x hx).setP (row_ne_blkQ (h.1 x hx).1 hb h1) (row_ne_blkQ (h.1 x hx).2 hb h2) u,h.2⟩
theorem OwnQ.put {w w0:World} {B:Nat} {L:List EQ} {e:E3} {s:Sl2} (h:OwnQ w B L) (h0:OwnQ w0 B L) (hn:OwnE w w0.heap.size (.slice s.1.1 s.1.2.1 s.1.2.2) (.slice s.2.1 s.2.2.1 s.2.2.2) e) (hB:B≤w0.heap.size):OwnQ w B (putQ L e s):=by
 have hx:∀ x ∈ L,Apq x (e,s):=fun x hx=>⟨(aprt_new (B':=0) (h0.1 x hx).1 (fun y hy=>(hn.1.lt y hy).1)).1,(aprt_new (B':=0) (h0.1 x hx).2 (fun y hy=>(hn.2.lt y hy).1)).1⟩
 refine ⟨fun x hx9=>?_,?_⟩
 ·rcases putQ_mem hx9 with h9 | h9
  ·exact h.1 x h9
  ·rw [h9];exact hn.lower hB
 ·unfold putQ
  rw [List.pairwise_append,List.pairwise_append]
  refine ⟨⟨h.2.sublist (List.take_sublist _ _),by simp,fun a ha b hb=>?_⟩,h.2.sublist (List.drop_sublist _ _),fun a ha b hb=>?_⟩
  ·rw [List.mem_singleton.1 hb];exact hx a (List.mem_of_mem_take ha)
  ·rcases List.mem_append.1 ha with ha | ha
   ·have hp:=h.2
    rw [← List.take_append_drop (plcE (L.map (·.1)) e.1) L,List.pairwise_append] at hp
    refine hp.2.2 a ha b ?_
    split at hb
    ·rw [← List.drop_drop] at hb
     exact List.mem_of_mem_drop hb
    ·exact hb
   ·rw [List.mem_singleton.1 ha];exact (hx b (List.mem_of_mem_drop hb)).symm
end Go.Proofs.YthlcdhddickdiaaDoor
