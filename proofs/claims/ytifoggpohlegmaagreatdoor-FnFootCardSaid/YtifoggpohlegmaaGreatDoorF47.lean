/-
  Joined: SmlP, SmlW.
-/
import Derived.Deep.CutRange
import Derived.Deep.LoopGhost
import Derived.Test.YtifoggpohlegmaaGreatDoorF38

namespace Go.Proofs.YtifoggpohlegmaaGreatDoor
set_option maxRecDepth 100000
set_option maxHeartbeats 16000000
open Go.RowKit
set_option linter.unusedVariables false
set_option linter.unusedSimpArgs false

def smI (n:Int) (x:I3):I3:=if x.1=7 then (x.1,x.2.1,n) else x
def smN (r:List I3):Nat:=(r.take 2).length
def smR (r:List I3):List I3:=(r.take 2).map (smI (smN r))
def smJ (r:List I3) (j:Nat):List I3:=((r.take 2).take j).map (smI (smN r))++(r.take 2).drop j
theorem smN_le (r:List I3):smN r≤2:=by unfold smN;rw [List.length_take];omega
theorem smN_eq (r:List I3):smN r=min r.length 2:=by unfold smN;rw [List.length_take];omega
theorem smJ_len (r:List I3) (j:Nat):(smJ r j).length=smN r:=by unfold smJ smN;simp;omega
theorem smJ_zero (r:List I3):smJ r 0=r.take 2:=by unfold smJ;simp
theorem smJ_all {r:List I3} {j:Nat} (h:smN r≤j):smJ r j=smR r:=by
 unfold smJ smR
 unfold smN at h
 rw [List.take_of_length_le h,List.drop_of_length_le h,List.append_nil]
theorem smJ_at {r:List I3} {j:Nat} (h:j<smN r):(smJ r j).getD j (0,0,0)=(r.take 2).getD j (0,0,0):=by
 unfold smJ
 unfold smN at h
 have hl:(((r.take 2).take j).map (smI (smN r))).length=j:=by rw [List.length_map,List.length_take];omega
 simp only [List.getD]
 rw [List.getElem?_append_right (by omega),hl,Nat.sub_self,List.getElem?_drop,Nat.add_zero]
theorem smJ_succ {r:List I3} {j:Nat} (h:j<smN r):smJ r (j+1)=(smJ r j).set j (smI (smN r) ((r.take 2).getD j (0,0,0))):=by
 have h':=h
 unfold smN at h'
 have hl:(((r.take 2).take j).map (smI (smN r))).length=j:=by rw [List.length_map,List.length_take];omega
 have e:(r.take 2).getD j (0,0,0)=(r.take 2)[j]:=by simp only [List.getD,List.getElem?_eq_getElem h',Option.getD_some]
 unfold smJ
 rw [e,List.set_append_right _ _ (by omega),hl,Nat.sub_self,List.drop_eq_getElem_cons h',List.set_cons_zero,List.take_succ_eq_append_getElem h',List.map_append]
 simp
theorem smI_ok {x:I3} {n:Int} (h:okI x=true) (h1:1≤n) (h6:n≤6):okI (smI n x)=true:=by
 unfold smI
 split
 ·rename_i e
  unfold okI inB at h ⊢
  simp [e] at h ⊢
  omega
 ·exact h
theorem smI_leads {x:I3} {n k:Int} (h:k<n):leads (smI n x) k n=true:=by
 unfold smI leads
 split
 ·rename_i e
  simp only [e,if_true]
  unfold inB
  simp
  omega
 ·rfl
theorem smR_ok {r:List I3} (h:codeOk r=true):codeOk (smR r)=true:=by
 match r,h with
 | [],_=>rfl
 | [x],h =>
  have h1:okI x=true:=by
   unfold codeOk okFrom at h
   simp only [Bool.and_eq_true] at h
   exact h.2.1.1
  show codeOk [smI 1 x]=true
  unfold codeOk okFrom okFrom
  rw [smI_ok h1 (by omega) (by omega)]
  have:=smI_leads (x:=x) (n:=1) (k:=0) (by omega)
  simp only [List.length_cons,List.length_nil]
  simp [this]
 | x::y::rs,h =>
  have h1:okI x=true∧okI y=true:=by
   unfold codeOk okFrom okFrom at h
   simp only [Bool.and_eq_true] at h
   exact ⟨h.2.1.1,h.2.2.1.1⟩
  show codeOk [smI 2 x,smI 2 y]=true
  unfold codeOk okFrom okFrom okFrom
  rw [smI_ok h1.1 (by omega) (by omega),smI_ok h1.2 (by omega) (by omega)]
  have a:=smI_leads (x:=x) (n:=2) (k:=0) (by omega)
  have b:=smI_leads (x:=y) (n:=2) (k:=1) (by omega)
  simp only [List.length_cons,List.length_nil]
  simp [a,b]
def smK (rows:List (List I3)) (k:Nat):List (List I3):=(rows.take k).map smR++rows.drop k
theorem smK_len (rows:List (List I3)) (k:Nat):(smK rows k).length=rows.length:=by unfold smK;simp;omega
theorem smK_zero (rows:List (List I3)):smK rows 0=rows:=by unfold smK;simp
theorem smK_at {rows:List (List I3)} {k:Nat} (h:k<rows.length):(smK rows k).getD k []=rows.getD k []:=by
 have hl:((rows.take k).map smR).length=k:=by rw [List.length_map,List.length_take];omega
 unfold smK
 simp only [List.getD]
 rw [List.getElem?_append_right (by omega),hl,Nat.sub_self,List.getElem?_drop,Nat.add_zero]
theorem smK_succ {rows:List (List I3)} {k:Nat} (h:k<rows.length):smK rows (k+1)=(smK rows k).set k (smR (rows.getD k [])):=by
 have hl:((rows.take k).map smR).length=k:=by rw [List.length_map,List.length_take];omega
 unfold smK
 rw [List.set_append_right _ _ (by omega),hl,Nat.sub_self,List.drop_eq_getElem_cons h,List.set_cons_zero,List.take_succ_eq_append_getElem h,List.map_append]
 simp [List.getD,h]
theorem smK_all {rows:List (List I3)} (h:progOk rows=true):ProgS (smK rows 3):=by
 unfold progOk at h
 simp only [Bool.and_eq_true,decide_eq_true_eq,List.all_eq_true] at h
 have e:smK rows 3=rows.map smR:=by
  unfold smK
  rw [List.take_of_length_le (by omega),List.drop_of_length_le (by omega),List.append_nil]
 have hs:∀ k,(codeM (smK rows 3) k).length≤2:=fun k=>by
  rw [e]
  unfold codeM
  simp only [List.getD,List.getElem?_map]
  cases rows[k]? with
  | none=>simp
  | some r=>simp [smR,List.length_take];omega
 refine ⟨?_,Nat.le_trans (hs 0) (by omega),Nat.le_trans (hs 1) (by omega),hs 2⟩
 unfold progOk
 simp only [Bool.and_eq_true,decide_eq_true_eq,List.all_eq_true]
 rw [e]
 refine ⟨by simpa using h.1,fun r hr=>?_⟩
 obtain ⟨q,hq,rfl⟩:=List.mem_map.1 hr
 exact smR_ok (h.2 q hq)

theorem flat_setB:∀ (xs:List I3) (i:Nat) (z:Int),i<xs.length→(flat xs).set (i*3+2) (.int .i64 z)=flat (xs.set i ((xs.getD i (0,0,0)).1,(xs.getD i (0,0,0)).2.1,z))
 | [],i,z,h=>by simp at h
 | x::xs,0,z,_=>by simp [flat,I3.cells]
 | x::xs,i+1,z,h=>by
  have ih:=flat_setB xs i z (by simpa using h)
  have e2:(i+1)*3+2=(i*3+2)+1+1+1:=by omega
  simp only [flat,List.flatMap_cons,I3.cells,List.cons_append,List.nil_append] at ih ⊢
  rw [e2]
  simp only [List.set_cons_succ,List.flatMap_cons,I3.cells,List.cons_append,List.nil_append]
  rw [ih]
  simp
theorem own_ne_own6 {w:World} {B B' e e' s s' n n' g c:Nat} {v:Value} {xs ys:List Value} (h:w.ownsRow B e s v n xs) (h':w.ownsRow B' e' s' (.slice (some ⟨g,0,none⟩) n' c) n' ys) (he:e≠e'):v.ownBlock≠some g:=by
 rcases h'.2 with ⟨q,_⟩ | ⟨g',c',cur',q,_,hh',_⟩
 ·cases q
 ·cases q
  rcases h.2 with ⟨q,_⟩ | ⟨g2,c2,cur2,q,_,hh,_⟩
  ·rw [q];simp [Value.ownBlock]
  ·rw [q]
   simp only [Value.ownBlock,ne_eq,Option.some.injEq]
   rintro rfl
   rw [hh] at hh'
   simp at hh'
   exact he hh'.2
theorem getD_set6 {α:Type} (l:List α) (k t:Nat) (x d:α):(l.set k x).getD t d=if t=k∧k<l.length then x else l.getD t d:=by
 simp only [List.getD,List.getElem?_set]
 by_cases h:k=t
 ·subst h
  by_cases h2:k<l.length
  ·simp [h2]
  ·simp [h2]
 ·rw [if_neg h,if_neg (fun q=>h q.1.symm)]
theorem OwnRows.put {w:World} {B:Nat} {vs:List Value} {rows:List (List I3)} (h:OwnRows w B vs rows) {k:Nat} (hk:k<rows.length) {nv:Value} {xs:List I3} (hn:w.ownsRow B 159 3 nv xs.length (flat xs)) (hd:∀ t,t<rows.length→t≠k→nv.ownBlock=none∨nv.ownBlock≠(vs.getD t undef).ownBlock):OwnRows w B (vs.set k nv) (rows.set k xs):=by
 obtain ⟨h1,h2,h3⟩:=h
 refine ⟨by simp [h1],fun t ht=>?_,fun t t' ht ht' hne=>?_⟩
 ·rw [List.length_set] at ht
  rw [getD_set6,getD_set6]
  by_cases e:t=k
  ·rw [if_pos ⟨e,by omega⟩,if_pos ⟨e,hk⟩];exact hn
  ·rw [if_neg (fun q=>e q.1),if_neg (fun q=>e q.1)];exact h2 t ht
 ·rw [List.length_set] at ht ht'
  rw [getD_set6,getD_set6]
  by_cases e:t=k
  ·rw [if_pos ⟨e,by omega⟩,if_neg (fun q=>hne (e.trans q.1.symm))]
   exact hd t' ht' (fun q=>hne (e.trans q.symm))
  ·rw [if_neg (fun q=>e q.1)]
   by_cases e':t'=k
   ·rw [if_pos ⟨e',by omega⟩]
    rcases hd t ht e with q | q
    ·rw [q]
     cases hb:(vs.getD t undef).ownBlock with
     | none=>exact .inl rfl
     | some x=>exact .inr (by simp)
    ·exact .inr (fun x=>q x.symm)
   ·rw [if_neg (fun q=>e' q.1)];exact h3 t t' ht ht' hne
theorem OwnRows.grown6 {w w':World} {B:Nat} {vs:List Value} {rows:List (List I3)} {g:Nat} (h:OwnRows w B vs rows) (hg:w.grownBy w' (some g)) (hne:∀ t,t<rows.length→(vs.getD t undef).ownBlock≠some g):OwnRows w' B vs rows:=
 ⟨h.1,fun t ht=>(h.2.1 t ht).kept hg (.inr (hne t ht)),h.2.2⟩
def ProgAt (w:World) (B g c:Nat) (vs:List Value) (rows:List (List I3)):Prop:=w.ownsRow B 82 1 (.slice (some ⟨g,0,none⟩) 3 c) 3 vs∧OwnRows w B vs rows∧rows.length=3
theorem ProgAt.below {w w':World} {B g c:Nat} {vs:List Value} {rows:List (List I3)} (h:ProgAt w B g c vs rows) (hb:Below w.heap.size w w'):ProgAt w' B g c vs rows:=⟨owns_below h.1 hb,h.2.1.below hb,h.2.2⟩
theorem ProgAt.cell {w:World} {B g c:Nat} {vs:List Value} {rows:List (List I3)} (h:ProgAt w B g c vs rows) {k:Nat} (hk:k<3):w.cell? ⟨g,k,none⟩=some (vs.getD k undef):=by
 rw [h.1.cellAt k (by omega)]
 have:=h.2.1.1
 have:=h.2.2
 simp [List.getD,show k<vs.length by omega]
theorem ProgAt.own {w:World} {B g c:Nat} {vs:List Value} {rows:List (List I3)} (h:ProgAt w B g c vs rows):OwnProg w B (.slice (some ⟨g,0,none⟩) 3 c) rows:=by
 obtain ⟨h1,h2,h3⟩:=h
 exact ⟨vs,by rw [h3];exact h1,h2⟩
theorem ProgAt.of {w:World} {B:Nat} {v:Value} {rows:List (List I3)} (h:OwnProg w B v rows) (h3:rows.length=3):∃ g c vs,v=.slice (some ⟨g,0,none⟩) 3 c∧ProgAt w B g c vs rows:=by
 obtain ⟨vs,h1,h2⟩:=h
 rw [h3] at h1
 rcases h1.2 with ⟨q,q0⟩ | ⟨g,c,cur,q,_⟩
 ·omega
 ·subst q
  exact ⟨g,c,vs,rfl,h1,h2,h3⟩
theorem ProgAt.lay {w:World} {B g c:Nat} {vs:List Value} {rows:List (List I3)} (h:ProgAt w B g c vs rows) {k:Nat} (hk:k<3) {nv:Value} {xs:List I3} (hn:w.ownsRow B 159 3 nv xs.length (flat xs)) (hd:∀ t,t<3→nv.ownBlock=none∨nv.ownBlock≠(vs.getD t undef).ownBlock):ProgAt (w.setCell ⟨g,k,none⟩ nv) B g c (vs.set k nv) (rows.set k xs):=by
 obtain ⟨h1,h2,h3⟩:=h
 have hg:=(h1.stored k nv).2
 refine ⟨(h1.stored k nv).1,(h2.put (by omega) hn (fun t ht _=>hd t (by omega))).grown6 hg (fun t ht=>?_),by simp [h3]⟩
 rw [getD_set6]
 split
 ·exact own_ne_own6 hn h1 (by decide)
 ·rw [List.length_set] at ht
  exact own_ne_own6 (h2.2.1 t ht) h1 (by decide)
theorem ProgAt.turn {w:World} {B g c b n cc:Nat} {vs:List Value} {rows:List (List I3)} (h:ProgAt w B g c vs rows) {k i:Nat} (hk:k<3) (hv:vs.getD k undef=.slice (some ⟨b,0,none⟩) n cc) (hi:i<(rows.getD k []).length) (z:Int) :
  ProgAt (w.setCell ⟨b,i*3+2,none⟩ (.int .i64 z)) B g c vs (rows.set k ((rows.getD k []).set i (((rows.getD k []).getD i (0,0,0)).1,((rows.getD k []).getD i (0,0,0)).2.1,z))):=by
 obtain ⟨h1,h2,h3⟩:=h
 have hr:=h2.2.1 k (by omega)
 rw [hv] at hr
 have hn:n=(rows.getD k []).length:=by
  rcases hr.2 with ⟨q,_⟩ | ⟨g',c',cur',q,_⟩
  ·cases q
  ·cases q;rfl
 subst hn
 obtain ⟨s1,s2⟩:=hr.stored (i*3+2) (.int .i64 z)
 rw [flat_setB _ _ _ hi] at s1
 have hbg:b≠g:=fun e=>own_ne_own6 hr h1 (by decide) (by simp [Value.ownBlock,e])
 have hvs:vs.length=3:=by rw [h2.1];exact h3
 refine ⟨h1.kept s2 (.inr (by simp [Value.ownBlock];omega)),⟨by simp [h2.1],fun t ht=>?_,fun t t' ht ht' hne=>h2.2.2 t t' (by simpa using ht) (by simpa using ht') hne⟩,by simp [h3]⟩
 rw [List.length_set] at ht
 rw [getD_set6]
 by_cases e:t=k
 ·rw [if_pos ⟨e,by omega⟩,e,hv,List.length_set]
  exact s1
 ·rw [if_neg (fun q=>e q.1)]
  refine (h2.2.1 t ht).kept s2 (.inr ?_)
  rcases h2.2.2 t k ht (by omega) e with q | q
  ·rw [q];simp
  ·rw [hv] at q;exact q
theorem flat_one7 (xs:List I3):∀ u ∈ flat xs,u.oneCell'=true:=fun u hu=>by
 unfold flat at hu
 obtain ⟨x,_,hx⟩:=List.mem_flatMap.1 hu
 simp [I3.cells] at hx
 rcases hx with rfl | rfl | rfl<;>rfl
theorem flat_get7:∀ (xs:List I3) (j:Nat),j<xs.length→(flat xs)[j*3]?=some (.int .i64 (xs.getD j (0,0,0)).1)
 | [],j,h=>by simp at h
 | x::xs,0,_=>by simp [flat,I3.cells]
 | x::xs,j+1,h=>by
  have ih:=flat_get7 xs j (by simpa using h)
  have e2:(j+1)*3=j*3+1+1+1:=by omega
  simp only [flat,List.flatMap_cons,I3.cells,List.cons_append,List.nil_append] at ih ⊢
  rw [e2]
  simp only [List.getElem?_cons_succ]
  rw [ih]
  simp
theorem own_news7 {w:World} {B b n c:Nat} {r:List I3} (h:w.ownsRow B 159 3 (.slice (some ⟨b,0,none⟩) n c) n (flat r)):∀ j u,(flat (r.take 2))[j]?=some u→w.cell? ((⟨b,0,none⟩:Addr).add j)=some u:=fun j u hj=>by
 have e:flat r=flat (r.take 2)++flat (r.drop 2):=by unfold flat;rw [← List.flatMap_append,List.take_append_drop]
 have hl:=(List.getElem?_eq_some_iff.1 hj).1
 have h1:(flat r)[j]?=some u:=by rw [e,List.getElem?_append_left hl];exact hj
 have h2:=(List.getElem?_eq_some_iff.1 h1).1
 have h3:=h.1
 have h4:=h.cellAt j (by omega)
 rw [h1] at h4
 by_cases e0:j=0
 ·subst e0;simpa [Addr.add] using h4
 ·simpa [Addr.add,e0] using h4
theorem smJ_same {r:List I3} {j:Nat} (h:j<smN r) (h7:((r.take 2).getD j (0,0,0)).1≠7):smJ r (j+1)=smJ r j:=by
 rw [smJ_succ h]
 have e:smI (smN r) ((r.take 2).getD j (0,0,0))=(smJ r j).getD j (0,0,0):=by rw [smJ_at h];unfold smI;rw [if_neg h7]
 rw [e]
 have hl:j<(smJ r j).length:=by rw [smJ_len];exact h
 simp only [List.getD,List.getElem?_eq_getElem hl,Option.getD_some]
 exact List.set_getElem_self hl
theorem smJ_turn {r:List I3} {j:Nat} (h:j<smN r) (h7:((r.take 2).getD j (0,0,0)).1=7):(smJ r j).set j (((smJ r j).getD j (0,0,0)).1,((smJ r j).getD j (0,0,0)).2.1,(smN r:Int))=smJ r (j+1):=by
 rw [smJ_succ h,smJ_at h]
 unfold smI
 rw [if_pos h7]
theorem ProgAt.low {w w':World} {B g c R:Nat} {vs:List Value} {rows:List (List I3)} (h:ProgAt w B g c vs rows) (hg:w.grownBy w' (some R)) (hR:R<B):ProgAt w' B g c vs rows:=by
 obtain ⟨h1,h2,h3⟩:=h
 refine ⟨h1.kept hg (.inr fun e=>?_),h2.grown6 hg (fun t ht e=>?_),h3⟩
 ·have:=(h1.lt R e).1;omega
 ·have:=((h2.2.1 t ht).lt R e).1;omega
theorem own_new7 {w:World} {B N n:Nat} {v:Value} {xs:List Value} (h:w.ownsRow B 159 3 v n xs) (hb:v.ownBlock=some N):∃ c,v=.slice (some ⟨N,0,none⟩) n c:=by
 rcases h.2 with ⟨q,_⟩ | ⟨g,c,cur,q,_⟩
 ·rw [q] at hb;cases hb
 ·subst q;simp [Value.ownBlock] at hb;subst hb;exact ⟨c,rfl⟩
theorem ProgAt.apart {w:World} {B g c N t:Nat} {vs:List Value} {rows:List (List I3)} (h:ProgAt w B g c vs rows) (hN:w.heap.size≤N) (ht:t<3):(some N:Option Nat)=none∨some N≠(vs.getD t undef).ownBlock:=by
 obtain ⟨h1,h2,h3⟩:=h
 exact .inr fun e=>by have:=((h2.2.1 t (by omega)).lt N e.symm).2;omega
theorem ProgAt.row {w:World} {B g c:Nat} {vs:List Value} {rows:List (List I3)} {k:Nat} {r:List I3} (h:ProgAt w B g c vs (rows.set k r)) (hk:k<rows.length):w.ownsRow B 159 3 (vs.getD k undef) r.length (flat r):=by
 have:=h.2.1.2.1 k (by rw [List.length_set];exact hk)
 rwa [getD_set6,if_pos ⟨rfl,hk⟩] at this
theorem ProgAt.turn7 {w:World} {B g c b n cc:Nat} {vs:List Value} {rows:List (List I3)} {k j:Nat} {r:List I3} (h:ProgAt w B g c vs (rows.set k (smJ r j))) (hk:k<3) (hl:rows.length=3) (hv:vs.getD k undef=.slice (some ⟨b,0,none⟩) n cc) (hj:j<smN r) (h7:((r.take 2).getD j (0,0,0)).1=7) :
  ProgAt (w.setCell ⟨b,j*3+2,none⟩ (.int .i64 (smN r:Int))) B g c vs (rows.set k (smJ r (j+1))):=by
 have e:(rows.set k (smJ r j)).getD k []=smJ r j:=by rw [getD_set6,if_pos ⟨rfl,by omega⟩]
 have h2:=h.turn (i:=j) hk hv (by rw [e,smJ_len];exact hj) (smN r:Int)
 rw [e,smJ_turn hj h7,List.set_set] at h2
 exact h2


theorem step_append_none7 {P:Program} {ops:Array Oper} {o:Oper} {a:Act} {w:World} {K:Act→World→Prop} {Q:Exit→Act→World→Prop} {E:Prop}
  (hg:o.guard=none) (s x:Operand) (t:TypeId) (hop:o.op=Op.call { callee:=Callee.builtin Builtin.append,args:=#[s,x],argTypes:=#[t,t] })
  (base:Nat) (e:TypeId) (i:TypeInfo) (size:Nat) (h1:P.underlying t=some (.slice e)) (h2:P.info? e=some i)
  (v:Value) (n:Nat) (olds:List Value) (hs:a.eval s=v) (hown:w.ownsRow base e size v n olds) (hx:a.eval x=.slice none 0 0)
  (hK:K (a.put o.dst v) w):if Region.wanted o (yielded ops a.tmps)=true then Oper.wp P o a w K Q else E:=by
 have hw:Region.wanted o (yielded ops a.tmps)=true:=by simp [Region.wanted,hg]
 rw [if_pos hw]
 have hrun:=run_append_owned_none (P:=P) (w:=w) base t o.type e i size h1 h2 v n olds hown
 subst hs
 unfold Oper.wp
 simp [execOp,hop,resolve,invoke,builtin,hx,hrun,Result.andThen]
 exact hK

def CutR (p:Nat) (w W:World) (X g c k:Nat) (rows:List (List I3)) (r:List I3):Prop:=∃ (vs:List Value) (N c2:Nat),vs.getD k undef=.slice (some ⟨N,0,none⟩) (smN r) c2∧ProgAt W (w.heap.size+1) g c vs ((smK rows k).set k (smJ r 0))∧Blk W X 25 [.slice (some ⟨g,0,none⟩) 3 c]∧Blk W w.heap.size 25 [.slice none 0 0]∧Below p w W

theorem lay_all8 {p X g c k N c2:Nat} {w Y0 Y2:World} {vs:List Value} {rows:List (List I3)} {r:List I3} (hP:ProgAt Y0 (w.heap.size+1) g c vs (smK rows k)) (pX:Blk Y0 X 25 [.slice (some ⟨g,0,none⟩) 3 c]) (pR:Blk Y0 w.heap.size 25 [.slice none 0 0]) (bw:Below p w Y0) (bY:Below Y0.heap.size Y0 Y2)
  (q2:Y2.ownsRow (w.heap.size+1) 159 3 (.slice (some ⟨N,0,none⟩) (smN r) c2) (smN r) (flat (r.take 2))) (hNg:Y0.heap.size≤N) (hlt:k<3) (hvl:vs.length=3) (hpw:p≤w.heap.size) :
  (ProgAt Y2 (w.heap.size+1) g c vs (smK rows k)∧Blk Y2 X 25 [.slice (some ⟨g,0,none⟩) 3 c])∧Blk (Y2.setCell ⟨g,k,none⟩ (.slice (some ⟨N,0,none⟩) (smN r) c2)) X 25 [.slice (some ⟨g,0,none⟩) 3 c]∧CutR p w (Y2.setCell ⟨g,k,none⟩ (.slice (some ⟨N,0,none⟩) (smN r) c2)) X g c k rows r:=by
 have hXg:X≠g:=fun e=>own_ne_blk hP.1 pX (by decide) (by simp [Value.ownBlock,e])
 have hRg:w.heap.size≠g:=fun e=>own_ne_blk hP.1 pR (by decide) (by simp [Value.ownBlock,e])
 have hBg:w.heap.size+1≤g:=(hP.1.lt g rfl).1
 have hap:=fun t (ht:t<3)=>hP.apart hNg ht
 have hP2:=hP.below bY
 have pX2:=pX.below bY
 have pR2:=pR.below bY
 have bw2:=bw.trans (bY.mono (by have:=pR.lt;omega))
 have hP3:=hP2.lay hlt (nv:=.slice (some ⟨N,0,none⟩) (smN r) c2) (xs:=r.take 2) q2 (fun t ht=>hap t ht)
 have g3:=(hP2.1.stored k (.slice (some ⟨N,0,none⟩) (smN r) c2)).2
 have pX3:=pX2.kept g3 (by simp;omega)
 have pR3:=pR2.kept g3 (by simp;omega)
 have bw3:=bw2.grown g3 (by have:=bw2.size;omega) (fun x hx=>by cases hx;omega)
 have hv3:(vs.set k (.slice (some ⟨N,0,none⟩) (smN r) c2)).getD k undef=.slice (some ⟨N,0,none⟩) (smN r) c2:=by rw [getD_set6,if_pos ⟨rfl,by omega⟩]
 rw [← smJ_zero] at hP3
 exact ⟨⟨hP2,pX2⟩,pX3,_,N,c2,hv3,hP3,pX3,pR3,bw3⟩

theorem smallProgram_any (p:Nat) (a:Option Addr) (n cap:Nat) (w:World) (hS:Src w p (.slice a n cap) 0) (hC:Code w p a n cap) :
  Calls Tryz.prog 66 #[.pointer (some ⟨p,0,none⟩)] w fun e w'=>(∃ (v:Value) (rows:List (List I3)),ProgS rows∧e=.returned (.agg #[v])∧OwnProg w' w.heap.size v rows)∧Below p w w':=by
 obtain ⟨i0,hi,hz0,hz1,hz2⟩:=info_parts info_instr
 have hpl:=hS.lt
 have pR:Blk (w.alloc (.cells #[.slice none 0 0] 25)) w.heap.size 25 [.slice none 0 0]:=blkAt _ _ _ rfl
 have bw:Below p w (w.alloc (.cells #[.slice none 0 0] 25)):=(Went.refl p w).alloc _ |>.below (Nat.le_of_lt hpl)
 replace hC:=hC.below bw
 replace hS:=hS.alloc (.cells #[.slice none 0 0] 25)
 have hpB:(w.alloc (.cells #[.slice none 0 0] 25)).heap.size=w.heap.size+1:=by simp
 go_enter Tryz.func66,Tryz.ntmps66
 go_wp2_with fail
 generalize (w.alloc (.cells #[.slice none 0 0] 25))=W0 at *
 refine (programQ_went p a n cap _ hS hC).mono ?_
 rintro e w1 ⟨⟨v,rows,hok,rfl,hOP⟩,hb1⟩
 have HOK:Hid (ProgS rows):=hok
 have h3:=(progOk_parts hok.1).1
 obtain ⟨g,c,vs,rfl,hP⟩:=ProgAt.of hOP h3
 clear hok hOP hS hC
 rw [hpB] at hP
 replace pR:=pR.kept hb1 (by simp;omega)
 replace bw:=bw.trans (hb1.below (by omega))
 have hRl:=pR.lt
 clear hb1 hpB
 have ha:Below w1.heap.size w1 (w1.alloc (.cells #[.slice (some ⟨g,0,none⟩) 3 c] 25)):=by go_grown
 have pX:Blk (w1.alloc (.cells #[.slice (some ⟨g,0,none⟩) 3 c] 25)) w1.heap.size 25 [.slice (some ⟨g,0,none⟩) 3 c]:=blkAt _ _ _ rfl
 replace hP:=hP.below ha
 replace pR:=pR.below ha
 replace bw:=bw.trans (ha.mono (by omega))
 clear ha
 go_wp2_with fail
 generalize (w1.alloc (.cells #[.slice (some ⟨g,0,none⟩) 3 c] 25))=W1 at *
 generalize w1.heap.size=X at *
 rw [← smK_zero rows] at hP
 have H3:Hid (rows.length=3):=h3
 clear h3
 go_loopg [4] 3 (fun gg s4 wr=>∃ (k:Nat) (vs:List Value),k≤3∧3 - k≤gg∧s4=.int .i64 k∧ProgAt wr (w.heap.size+1) g c vs (smK rows k)∧Blk wr X 25 [.slice (some ⟨g,0,none⟩) 3 c]∧Blk wr w.heap.size 25 [.slice none 0 0]∧Below p w wr)
 case atStart=>exact ⟨0,vs,by omega,by omega,rfl,hP,pX,pR,bw⟩
 case round =>
  clear hP pX pR bw vs
  obtain ⟨k,vs,hk,hgg,rfl,hP,pX,pR,bw⟩:=hrel
  by_cases hlt:k<3
  ·have hlt':(k:Int)<3:=by omega
   have hk0:(0:Int)≤(k:Int):=by omega
   have cX:wr.cell? ⟨X,0,none⟩=some (.slice (some ⟨g,0,none⟩) 3 c):=by simpa using pX.cell 0
   have cK:=hP.cell hlt
   have hrow:=hP.2.1.2.1 k (by rw [smK_len];have:=H3.out;omega)
   rw [smK_at (by have:=H3.out;omega)] at hrow
   obtain ⟨r,hr⟩:∃ r,r=rows.getD k []:=⟨_,rfl⟩
   rw [← hr] at hrow
   have HR:Hid (r=rows.getD k []):=hr
   clear hr
   have hvl:vs.length=3:=by rw [hP.2.1.1,smK_len];exact H3.out
   generalize hvk:vs.getD k undef=vk at *
   go_wp2_with fail
   go_cut [] from 8 to 64 (fun W=>CutR p w W X g c k rows r)
   case first =>
    rcases hrow.2 with ⟨rfl,h0⟩ | ⟨b,cc,cur,rfl,_,_,hncc,_⟩
    ·have hsm:smN r=0:=by rw [smN_eq];omega
     have htk:r.take 2=[]:=List.eq_nil_of_length_eq_zero hsm
     refine wp_region_held_drew (S:=(fun w'=>w'.cell? ⟨X,0,none⟩=some (.slice (some ⟨g,0,none⟩) 3 c))) (by kernel_rfl) cX (fun hS0=>?_)
     refine tkm 0 12 (.pointer (some ⟨X,0,none⟩)) ?_
     refine tkm 1 13 (.slice (some ⟨g,0,none⟩) 3 c) ?_
     refine tkm 2 14 (.int .i64 (k:Int)) ?_
     refine tkm 4 16 (.pointer (some ⟨X,0,none⟩)) ?_
     refine tkm 5 17 (.slice (some ⟨g,0,none⟩) 3 c) ?_
     refine tkm 6 18 (.int .i64 (k:Int)) ?_
     refine tkm 7 19 (.pointer (some ⟨g,k,none⟩)) ?_
     refine tkm 9 21 (.pointer (some ⟨X,0,none⟩)) ?_
     refine tkm 10 22 (.slice (some ⟨g,0,none⟩) 3 c) ?_
     refine tkm 11 23 (.int .i64 (k:Int)) ?_
     refine tkm 12 24 (.pointer (some ⟨g,k,none⟩)) ?_
     have hdr:Below wr.heap.size wr wr.drew:=by go_grown
     replace bw:=bw.trans (hdr.mono (by have:=pR.lt;omega))
     replace hP:=hP.below hdr
     replace pX:=pX.below hdr
     replace pR:=pR.below hdr
     replace hrow:=owns_below hrow hdr
     clear hdr
     generalize wr.drew=Y0 at *
     have hal:Below Y0.heap.size Y0 (Y0.alloc (.cells #[] 159)):=by go_grown
     have q:=own_emptyB Y0 159 3 (w.heap.size+1) (by have:=pR.lt;omega)
     have hsz:Y0.heap.size<(Y0.alloc (.cells #[] 159)).heap.size:=by simp
     have cY:Y0.cell? ⟨g,k,none⟩=some (.slice none 0 0):=hvk▸hP.cell hlt
     have cZ:(Y0.alloc (.cells #[] 159)).cell? ⟨g,k,none⟩=some (.slice none 0 0):=cells_kept hal _ _ cY
     refine wpAnyH_ready (rs:=[3,8,13]) (by kernel_rfl) (by simp) ?_
     refine AllReadyH.cons (o:=⟨some 15,_,_,_,_,_⟩) rfl (fun K hK=>?_) (AllReadyH.cons (o:=⟨some 20,_,_,_,_,_⟩) rfl (fun K hK=>?_) (AllReadyH.cons (o:=⟨some 25,_,_,_,_,_⟩) rfl (fun K hK=>?_) AllReadyH.nil))
     ·go_simp
      refine hK.out _ _ (by simpa using (pX.below hal).cell 0) (fun hS11=>?_)
      clear hK
      generalize (Y0.alloc (.cells #[] 159))=Y1 at *
      try simp only [Act.put,tka,tkb,tkc]
      refine wpAnyH_ready (rs:=[8,13]) (by kernel_rfl) (by simp) ?_
      refine AllReadyH.cons (o:=⟨some 20,_,_,_,_,_⟩) rfl (fun K hK=>?_) (AllReadyH.cons (o:=⟨some 25,_,_,_,_,_⟩) rfl (fun K hK=>?_) AllReadyH.nil)
      ·go_simp
       refine hK.out _ _ (by simpa using (pX.below hal).cell 0) (fun hS12=>?_)
       clear hK
       try simp only [Act.put,tka,tkb,tkc]
       refine tkr 13 25 (fun K hK=>?_)
       go_simp
       refine hK.out _ _ (by simpa using (pX.below hal).cell 0) (fun hS13=>?_)
       clear hK
       try simp only [Act.put,tka,tkb,tkc]
       refine tkm 14 26 (.int .i64 0) ?_
       refine tkx 15 27 (.int .i64 0) ?_ ?_
       ·intro w' hSw;(try dsimp only at hSw);go_simp;try rfl
       simp only [Act.put,tka,tkb,tkc]
       refine tkx 16 28 (.slice none 0 0) ?_ ?_
       ·intro w' hSw;(try dsimp only at hSw);go_simp;try rfl
       simp only [Act.put,tka,tkb,tkc]
       refine tkr 17 29 (fun K hK=>?_)
       refine step_append_none7 rfl _ _ 82 rfl (w.heap.size+1) 159 i0 3 Tryz.underlying82 hi _ _ _ rfl q rfl ?_
       obtain ⟨N,hN⟩:∃ N,N=Y0.heap.size:=⟨_,rfl⟩
       have hNg:Y0.heap.size≤N:=by omega
       obtain ⟨c2,hc2⟩:∃ c2:Nat,c2=0:=⟨_,rfl⟩
       have eV:Value.slice (some ⟨Y0.heap.size,0,none⟩) 0 0=.slice (some ⟨N,0,none⟩) (smN r) c2:=by rw [hN,hsm,hc2]
       have q2:Y1.ownsRow (w.heap.size+1) 159 3 (.slice (some ⟨N,0,none⟩) (smN r) c2) (smN r) (flat (r.take 2)):=by rw [← eV,htk,hsm];exact q
       rw [eV]
       have bY:=hal
       obtain ⟨Y2,hY2⟩:∃ Y2,Y2=Y1:=⟨_,rfl⟩
       rw [← hY2] at q2 bY ⊢
       clear eV hN hc2 hY2 q hsm htk
       obtain ⟨⟨hP2,pX2⟩,pX3,hcut9⟩:=lay_all8 hP pX pR bw bY q2 hNg hlt hvl (by omega)
       refine hK.out _ _ (by simpa using pX2.cell 0) (fun hS8=>?_)
       clear hK
       try simp only [Act.put,tka,tkb,tkc]
       refine tkm 18 30 (.pointer (some ⟨g,k,none⟩)) ?_
       have cK2:=hP2.cell hlt
       rw [hvk] at cK2
       have fK2:=hP2.1.frozenAt k
       refine tkz 19 (fun K hK=>?_)
       go_simp
       refine hK.out _ _ (by simpa using pX3.cell 0) (fun hS9=>?_)
       clear hK
       try simp only [Act.put,tka,tkb,tkc]
       refine wpAnyH_done (by kernel_rfl) ?_ _
       go_wp2_with fail
       go_meet
       case rel=>exact hcut9
      ·go_simp
       refine hK.out _ _ (by simpa using (pX.below hal).cell 0) (fun hS14=>?_)
       clear hK
       try simp only [Act.put,tka,tkb,tkc]
       refine tkm 14 26 (.int .i64 0) ?_
       refine tkx 15 27 (.int .i64 0) ?_ ?_
       ·intro w' hSw;(try dsimp only at hSw);go_simp;try rfl
       simp only [Act.put,tka,tkb,tkc]
       refine tkr 8 20 (fun K hK=>?_)
       go_simp
       refine hK.out _ _ (by simpa using (pX.below hal).cell 0) (fun hS15=>?_)
       clear hK
       try simp only [Act.put,tka,tkb,tkc]
       refine tkx 16 28 (.slice none 0 0) ?_ ?_
       ·intro w' hSw;(try dsimp only at hSw);go_simp;try rfl
       simp only [Act.put,tka,tkb,tkc]
       refine tkr 17 29 (fun K hK=>?_)
       refine step_append_none7 rfl _ _ 82 rfl (w.heap.size+1) 159 i0 3 Tryz.underlying82 hi _ _ _ rfl q rfl ?_
       obtain ⟨N,hN⟩:∃ N,N=Y0.heap.size:=⟨_,rfl⟩
       have hNg:Y0.heap.size≤N:=by omega
       obtain ⟨c2,hc2⟩:∃ c2:Nat,c2=0:=⟨_,rfl⟩
       have eV:Value.slice (some ⟨Y0.heap.size,0,none⟩) 0 0=.slice (some ⟨N,0,none⟩) (smN r) c2:=by rw [hN,hsm,hc2]
       have q2:Y1.ownsRow (w.heap.size+1) 159 3 (.slice (some ⟨N,0,none⟩) (smN r) c2) (smN r) (flat (r.take 2)):=by rw [← eV,htk,hsm];exact q
       rw [eV]
       have bY:=hal
       obtain ⟨Y2,hY2⟩:∃ Y2,Y2=Y1:=⟨_,rfl⟩
       rw [← hY2] at q2 bY ⊢
       clear eV hN hc2 hY2 q hsm htk
       obtain ⟨⟨hP2,pX2⟩,pX3,hcut9⟩:=lay_all8 hP pX pR bw bY q2 hNg hlt hvl (by omega)
       refine hK.out _ _ (by simpa using pX2.cell 0) (fun hS8=>?_)
       clear hK
       try simp only [Act.put,tka,tkb,tkc]
       refine tkm 18 30 (.pointer (some ⟨g,k,none⟩)) ?_
       have cK2:=hP2.cell hlt
       rw [hvk] at cK2
       have fK2:=hP2.1.frozenAt k
       refine tkz 19 (fun K hK=>?_)
       go_simp
       refine hK.out _ _ (by simpa using pX3.cell 0) (fun hS9=>?_)
       clear hK
       try simp only [Act.put,tka,tkb,tkc]
       refine wpAnyH_done (by kernel_rfl) ?_ _
       go_wp2_with fail
       go_meet
       case rel=>exact hcut9
     ·go_simp
      refine hK.out _ _ (by simpa using pX.cell 0) (fun hS16=>?_)
      clear hK
      try simp only [Act.put,tka,tkb,tkc]
      refine wpAnyH_ready (rs:=[3,13]) (by kernel_rfl) (by simp) ?_
      refine AllReadyH.cons (o:=⟨some 15,_,_,_,_,_⟩) rfl (fun K hK=>?_) (AllReadyH.cons (o:=⟨some 25,_,_,_,_,_⟩) rfl (fun K hK=>?_) AllReadyH.nil)
      ·go_simp
       refine hK.out _ _ (by simpa using (pX.below hal).cell 0) (fun hS17=>?_)
       clear hK
       generalize (Y0.alloc (.cells #[] 159))=Y1 at *
       try simp only [Act.put,tka,tkb,tkc]
       refine tkr 13 25 (fun K hK=>?_)
       go_simp
       refine hK.out _ _ (by simpa using (pX.below hal).cell 0) (fun hS18=>?_)
       clear hK
       try simp only [Act.put,tka,tkb,tkc]
       refine tkm 14 26 (.int .i64 0) ?_
       refine tkx 15 27 (.int .i64 0) ?_ ?_
       ·intro w' hSw;(try dsimp only at hSw);go_simp;try rfl
       simp only [Act.put,tka,tkb,tkc]
       refine tkx 16 28 (.slice none 0 0) ?_ ?_
       ·intro w' hSw;(try dsimp only at hSw);go_simp;try rfl
       simp only [Act.put,tka,tkb,tkc]
       refine tkr 17 29 (fun K hK=>?_)
       refine step_append_none7 rfl _ _ 82 rfl (w.heap.size+1) 159 i0 3 Tryz.underlying82 hi _ _ _ rfl q rfl ?_
       obtain ⟨N,hN⟩:∃ N,N=Y0.heap.size:=⟨_,rfl⟩
       have hNg:Y0.heap.size≤N:=by omega
       obtain ⟨c2,hc2⟩:∃ c2:Nat,c2=0:=⟨_,rfl⟩
       have eV:Value.slice (some ⟨Y0.heap.size,0,none⟩) 0 0=.slice (some ⟨N,0,none⟩) (smN r) c2:=by rw [hN,hsm,hc2]
       have q2:Y1.ownsRow (w.heap.size+1) 159 3 (.slice (some ⟨N,0,none⟩) (smN r) c2) (smN r) (flat (r.take 2)):=by rw [← eV,htk,hsm];exact q
       rw [eV]
       have bY:=hal
       obtain ⟨Y2,hY2⟩:∃ Y2,Y2=Y1:=⟨_,rfl⟩
       rw [← hY2] at q2 bY ⊢
       clear eV hN hc2 hY2 q hsm htk
       obtain ⟨⟨hP2,pX2⟩,pX3,hcut9⟩:=lay_all8 hP pX pR bw bY q2 hNg hlt hvl (by omega)
       refine hK.out _ _ (by simpa using pX2.cell 0) (fun hS8=>?_)
       clear hK
       try simp only [Act.put,tka,tkb,tkc]
       refine tkm 18 30 (.pointer (some ⟨g,k,none⟩)) ?_
       have cK2:=hP2.cell hlt
       rw [hvk] at cK2
       have fK2:=hP2.1.frozenAt k
       refine tkz 19 (fun K hK=>?_)
       go_simp
       refine hK.out _ _ (by simpa using pX3.cell 0) (fun hS9=>?_)
       clear hK
       try simp only [Act.put,tka,tkb,tkc]
       refine wpAnyH_done (by kernel_rfl) ?_ _
       go_wp2_with fail
       go_meet
       case rel=>exact hcut9
      ·go_simp
       refine hK.out _ _ (by simpa using pX.cell 0) (fun hS19=>?_)
       clear hK
       try simp only [Act.put,tka,tkb,tkc]
       refine tkm 14 26 (.int .i64 0) ?_
       refine tkx 15 27 (.int .i64 0) ?_ ?_
       ·intro w' hSw;(try dsimp only at hSw);go_simp;try rfl
       simp only [Act.put,tka,tkb,tkc]
       refine tkx 16 28 (.slice none 0 0) ?_ ?_
       ·intro w' hSw;(try dsimp only at hSw);go_simp;try rfl
       simp only [Act.put,tka,tkb,tkc]
       refine tkr 3 15 (fun K hK=>?_)
       go_simp
       refine hK.out _ _ (by simpa using (pX.below hal).cell 0) (fun hS20=>?_)
       clear hK
       generalize (Y0.alloc (.cells #[] 159))=Y1 at *
       try simp only [Act.put,tka,tkb,tkc]
       refine tkr 17 29 (fun K hK=>?_)
       refine step_append_none7 rfl _ _ 82 rfl (w.heap.size+1) 159 i0 3 Tryz.underlying82 hi _ _ _ rfl q rfl ?_
       obtain ⟨N,hN⟩:∃ N,N=Y0.heap.size:=⟨_,rfl⟩
       have hNg:Y0.heap.size≤N:=by omega
       obtain ⟨c2,hc2⟩:∃ c2:Nat,c2=0:=⟨_,rfl⟩
       have eV:Value.slice (some ⟨Y0.heap.size,0,none⟩) 0 0=.slice (some ⟨N,0,none⟩) (smN r) c2:=by rw [hN,hsm,hc2]
       have q2:Y1.ownsRow (w.heap.size+1) 159 3 (.slice (some ⟨N,0,none⟩) (smN r) c2) (smN r) (flat (r.take 2)):=by rw [← eV,htk,hsm];exact q
       rw [eV]
       have bY:=hal
       obtain ⟨Y2,hY2⟩:∃ Y2,Y2=Y1:=⟨_,rfl⟩
       rw [← hY2] at q2 bY ⊢
       clear eV hN hc2 hY2 q hsm htk
       obtain ⟨⟨hP2,pX2⟩,pX3,hcut9⟩:=lay_all8 hP pX pR bw bY q2 hNg hlt hvl (by omega)
       refine hK.out _ _ (by simpa using pX2.cell 0) (fun hS8=>?_)
       clear hK
       try simp only [Act.put,tka,tkb,tkc]
       refine tkm 18 30 (.pointer (some ⟨g,k,none⟩)) ?_
       have cK2:=hP2.cell hlt
       rw [hvk] at cK2
       have fK2:=hP2.1.frozenAt k
       refine tkz 19 (fun K hK=>?_)
       go_simp
       refine hK.out _ _ (by simpa using pX3.cell 0) (fun hS9=>?_)
       clear hK
       try simp only [Act.put,tka,tkb,tkc]
       refine wpAnyH_done (by kernel_rfl) ?_ _
       go_wp2_with fail
       go_meet
       case rel=>exact hcut9
     ·go_simp
      refine hK.out _ _ (by simpa using pX.cell 0) (fun hS21=>?_)
      clear hK
      try simp only [Act.put,tka,tkb,tkc]
      refine tkm 14 26 (.int .i64 0) ?_
      refine tkx 15 27 (.int .i64 0) ?_ ?_
      ·intro w' hSw;(try dsimp only at hSw);go_simp;try rfl
      simp only [Act.put,tka,tkb,tkc]
      refine wpAnyH_ready (rs:=[3,8]) (by kernel_rfl) (by simp) ?_
      refine AllReadyH.cons (o:=⟨some 15,_,_,_,_,_⟩) rfl (fun K hK=>?_) (AllReadyH.cons (o:=⟨some 20,_,_,_,_,_⟩) rfl (fun K hK=>?_) AllReadyH.nil)
      ·go_simp
       refine hK.out _ _ (by simpa using (pX.below hal).cell 0) (fun hS22=>?_)
       clear hK
       generalize (Y0.alloc (.cells #[] 159))=Y1 at *
       try simp only [Act.put,tka,tkb,tkc]
       refine tkr 8 20 (fun K hK=>?_)
       go_simp
       refine hK.out _ _ (by simpa using (pX.below hal).cell 0) (fun hS23=>?_)
       clear hK
       try simp only [Act.put,tka,tkb,tkc]
       refine tkx 16 28 (.slice none 0 0) ?_ ?_
       ·intro w' hSw;(try dsimp only at hSw);go_simp;try rfl
       simp only [Act.put,tka,tkb,tkc]
       refine tkr 17 29 (fun K hK=>?_)
       refine step_append_none7 rfl _ _ 82 rfl (w.heap.size+1) 159 i0 3 Tryz.underlying82 hi _ _ _ rfl q rfl ?_
       obtain ⟨N,hN⟩:∃ N,N=Y0.heap.size:=⟨_,rfl⟩
       have hNg:Y0.heap.size≤N:=by omega
       obtain ⟨c2,hc2⟩:∃ c2:Nat,c2=0:=⟨_,rfl⟩
       have eV:Value.slice (some ⟨Y0.heap.size,0,none⟩) 0 0=.slice (some ⟨N,0,none⟩) (smN r) c2:=by rw [hN,hsm,hc2]
       have q2:Y1.ownsRow (w.heap.size+1) 159 3 (.slice (some ⟨N,0,none⟩) (smN r) c2) (smN r) (flat (r.take 2)):=by rw [← eV,htk,hsm];exact q
       rw [eV]
       have bY:=hal
       obtain ⟨Y2,hY2⟩:∃ Y2,Y2=Y1:=⟨_,rfl⟩
       rw [← hY2] at q2 bY ⊢
       clear eV hN hc2 hY2 q hsm htk
       obtain ⟨⟨hP2,pX2⟩,pX3,hcut9⟩:=lay_all8 hP pX pR bw bY q2 hNg hlt hvl (by omega)
       refine hK.out _ _ (by simpa using pX2.cell 0) (fun hS8=>?_)
       clear hK
       try simp only [Act.put,tka,tkb,tkc]
       refine tkm 18 30 (.pointer (some ⟨g,k,none⟩)) ?_
       have cK2:=hP2.cell hlt
       rw [hvk] at cK2
       have fK2:=hP2.1.frozenAt k
       refine tkz 19 (fun K hK=>?_)
       go_simp
       refine hK.out _ _ (by simpa using pX3.cell 0) (fun hS9=>?_)
       clear hK
       try simp only [Act.put,tka,tkb,tkc]
       refine wpAnyH_done (by kernel_rfl) ?_ _
       go_wp2_with fail
       go_meet
       case rel=>exact hcut9
      ·go_simp
       refine hK.out _ _ (by simpa using pX.cell 0) (fun hS24=>?_)
       clear hK
       try simp only [Act.put,tka,tkb,tkc]
       refine tkx 16 28 (.slice none 0 0) ?_ ?_
       ·intro w' hSw;(try dsimp only at hSw);go_simp;try rfl
       simp only [Act.put,tka,tkb,tkc]
       refine tkr 3 15 (fun K hK=>?_)
       go_simp
       refine hK.out _ _ (by simpa using (pX.below hal).cell 0) (fun hS25=>?_)
       clear hK
       generalize (Y0.alloc (.cells #[] 159))=Y1 at *
       try simp only [Act.put,tka,tkb,tkc]
       refine tkr 17 29 (fun K hK=>?_)
       refine step_append_none7 rfl _ _ 82 rfl (w.heap.size+1) 159 i0 3 Tryz.underlying82 hi _ _ _ rfl q rfl ?_
       obtain ⟨N,hN⟩:∃ N,N=Y0.heap.size:=⟨_,rfl⟩
       have hNg:Y0.heap.size≤N:=by omega
       obtain ⟨c2,hc2⟩:∃ c2:Nat,c2=0:=⟨_,rfl⟩
       have eV:Value.slice (some ⟨Y0.heap.size,0,none⟩) 0 0=.slice (some ⟨N,0,none⟩) (smN r) c2:=by rw [hN,hsm,hc2]
       have q2:Y1.ownsRow (w.heap.size+1) 159 3 (.slice (some ⟨N,0,none⟩) (smN r) c2) (smN r) (flat (r.take 2)):=by rw [← eV,htk,hsm];exact q
       rw [eV]
       have bY:=hal
       obtain ⟨Y2,hY2⟩:∃ Y2,Y2=Y1:=⟨_,rfl⟩
       rw [← hY2] at q2 bY ⊢
       clear eV hN hc2 hY2 q hsm htk
       obtain ⟨⟨hP2,pX2⟩,pX3,hcut9⟩:=lay_all8 hP pX pR bw bY q2 hNg hlt hvl (by omega)
       refine hK.out _ _ (by simpa using pX2.cell 0) (fun hS8=>?_)
       clear hK
       try simp only [Act.put,tka,tkb,tkc]
       refine tkm 18 30 (.pointer (some ⟨g,k,none⟩)) ?_
       have cK2:=hP2.cell hlt
       rw [hvk] at cK2
       have fK2:=hP2.1.frozenAt k
       refine tkz 19 (fun K hK=>?_)
       go_simp
       refine hK.out _ _ (by simpa using pX3.cell 0) (fun hS9=>?_)
       clear hK
       try simp only [Act.put,tka,tkb,tkc]
       refine wpAnyH_done (by kernel_rfl) ?_ _
       go_wp2_with fail
       go_meet
       case rel=>exact hcut9
    ·have hsl:smN r≤cc:=by have:=smN_eq r;omega
     have hmin:(if (2:Int)<(r.length:Int) then (2:Int) else (r.length:Int))=(smN r:Int):=by have:=smN_eq r;split<;>omega
     refine wp_region_held_drew (S:=(fun w'=>w'.cell? ⟨X,0,none⟩=some (.slice (some ⟨g,0,none⟩) 3 c))) (by kernel_rfl) cX (fun hS0=>?_)
     refine tkm 0 12 (.pointer (some ⟨X,0,none⟩)) ?_
     refine tkm 1 13 (.slice (some ⟨g,0,none⟩) 3 c) ?_
     refine tkm 2 14 (.int .i64 (k:Int)) ?_
     refine tkm 4 16 (.pointer (some ⟨X,0,none⟩)) ?_
     refine tkm 5 17 (.slice (some ⟨g,0,none⟩) 3 c) ?_
     refine tkm 6 18 (.int .i64 (k:Int)) ?_
     refine tkm 7 19 (.pointer (some ⟨g,k,none⟩)) ?_
     refine tkm 9 21 (.pointer (some ⟨X,0,none⟩)) ?_
     refine tkm 10 22 (.slice (some ⟨g,0,none⟩) 3 c) ?_
     refine tkm 11 23 (.int .i64 (k:Int)) ?_
     refine tkm 12 24 (.pointer (some ⟨g,k,none⟩)) ?_
     have hdr:Below wr.heap.size wr wr.drew:=by go_grown
     replace bw:=bw.trans (hdr.mono (by have:=pR.lt;omega))
     replace hP:=hP.below hdr
     replace pX:=pX.below hdr
     replace pR:=pR.below hdr
     replace hrow:=owns_below hrow hdr
     clear hdr
     generalize wr.drew=Y0 at *
     have hal:Below Y0.heap.size Y0 (Y0.alloc (.cells #[] 159)):=by go_grown
     have q:=own_emptyB Y0 159 3 (w.heap.size+1) (by have:=pR.lt;omega)
     have hsz:Y0.heap.size<(Y0.alloc (.cells #[] 159)).heap.size:=by simp
     have cY:Y0.cell? ⟨g,k,none⟩=some (.slice (some ⟨b,0,none⟩) r.length cc):=hvk▸hP.cell hlt
     have cZ:(Y0.alloc (.cells #[] 159)).cell? ⟨g,k,none⟩=some (.slice (some ⟨b,0,none⟩) r.length cc):=cells_kept hal _ _ cY
     refine wpAnyH_ready (rs:=[3,8,13]) (by kernel_rfl) (by simp) ?_
     refine AllReadyH.cons (o:=⟨some 15,_,_,_,_,_⟩) rfl (fun K hK=>?_) (AllReadyH.cons (o:=⟨some 20,_,_,_,_,_⟩) rfl (fun K hK=>?_) (AllReadyH.cons (o:=⟨some 25,_,_,_,_,_⟩) rfl (fun K hK=>?_) AllReadyH.nil))
     ·go_simp
      refine hK.out _ _ (by simpa using (pX.below hal).cell 0) (fun hS26=>?_)
      clear hK
      generalize (Y0.alloc (.cells #[] 159))=Y1 at *
      try simp only [Act.put,tka,tkb,tkc]
      refine wpAnyH_ready (rs:=[8,13]) (by kernel_rfl) (by simp) ?_
      refine AllReadyH.cons (o:=⟨some 20,_,_,_,_,_⟩) rfl (fun K hK=>?_) (AllReadyH.cons (o:=⟨some 25,_,_,_,_,_⟩) rfl (fun K hK=>?_) AllReadyH.nil)
      ·go_simp
       refine hK.out _ _ (by simpa using (pX.below hal).cell 0) (fun hS27=>?_)
       clear hK
       try simp only [Act.put,tka,tkb,tkc]
       refine tkr 13 25 (fun K hK=>?_)
       go_simp
       refine hK.out _ _ (by simpa using (pX.below hal).cell 0) (fun hS28=>?_)
       clear hK
       try simp only [Act.put,tka,tkb,tkc]
       refine tkm 14 26 (.int .i64 (r.length:Int)) ?_
       refine tkx 15 27 (.int .i64 (smN r:Int)) ?_ ?_
       ·intro w' hSw;(try dsimp only at hSw);go_simp;try (have h9:=smN_eq r;omega)
       simp only [Act.put,tka,tkb,tkc]
       refine tkx 16 28 (.slice (some ⟨b,0,none⟩) (smN r) cc) ?_ ?_
       ·intro w' hSw;(try dsimp only at hSw);go_simp
       simp only [Act.put,tka,tkb,tkc]
       refine tkr 17 29 (fun K hK=>?_)
       refine step_append_atB rfl _ _ 82 rfl (w.heap.size+1) 159 i0 _ 3 24 Tryz.underlying82 hi hz0 hz1 hz2 rfl (by decide) _ 0 [] rfl q ⟨b,0,none⟩ (smN r) cc (flat (r.take 2)) rfl (by rw [flat_length];rfl) (own_news7 (owns_below hrow hal)) (flat_one7 _) (by have:=smN_le r;unfold maxLen;omega) (by have:=smN_le r;omega) (by have:=(pR.below hal).lt;omega) ?_
       intro v2 Y2 q2 gr hob
       have bY:Below Y0.heap.size Y0 Y2:=hal.grown gr hal.size (fun x hx=>by have e9:some Y0.heap.size=some x:=hx;cases e9;exact Nat.le_refl _)
       rw [Nat.zero_add,List.nil_append] at q2
       obtain ⟨N,hN,hNg⟩:∃ N,v2.ownBlock=some N∧Y0.heap.size≤N:=by
        rcases hob with e | e
        ·exact ⟨_,e,Nat.le_refl _⟩
        ·exact ⟨_,e,by omega⟩
       obtain ⟨c2,rfl⟩:=own_new7 q2 hN
       clear gr hob hN q
       obtain ⟨⟨hP2,pX2⟩,pX3,hcut9⟩:=lay_all8 hP pX pR bw bY q2 hNg hlt hvl (by omega)
       refine hK.out _ _ (by simpa using pX2.cell 0) (fun hS8=>?_)
       clear hK
       try simp only [Act.put,tka,tkb,tkc]
       refine tkm 18 30 (.pointer (some ⟨g,k,none⟩)) ?_
       have cK2:=hP2.cell hlt
       rw [hvk] at cK2
       have fK2:=hP2.1.frozenAt k
       refine tkz 19 (fun K hK=>?_)
       go_simp
       refine hK.out _ _ (by simpa using pX3.cell 0) (fun hS9=>?_)
       clear hK
       try simp only [Act.put,tka,tkb,tkc]
       refine wpAnyH_done (by kernel_rfl) ?_ _
       go_wp2_with fail
       go_meet
       case rel=>exact hcut9
      ·go_simp
       refine hK.out _ _ (by simpa using (pX.below hal).cell 0) (fun hS29=>?_)
       clear hK
       try simp only [Act.put,tka,tkb,tkc]
       refine tkm 14 26 (.int .i64 (r.length:Int)) ?_
       refine tkx 15 27 (.int .i64 (smN r:Int)) ?_ ?_
       ·intro w' hSw;(try dsimp only at hSw);go_simp;try (have h9:=smN_eq r;omega)
       simp only [Act.put,tka,tkb,tkc]
       refine tkr 8 20 (fun K hK=>?_)
       go_simp
       refine hK.out _ _ (by simpa using (pX.below hal).cell 0) (fun hS30=>?_)
       clear hK
       try simp only [Act.put,tka,tkb,tkc]
       refine tkx 16 28 (.slice (some ⟨b,0,none⟩) (smN r) cc) ?_ ?_
       ·intro w' hSw;(try dsimp only at hSw);go_simp
       simp only [Act.put,tka,tkb,tkc]
       refine tkr 17 29 (fun K hK=>?_)
       refine step_append_atB rfl _ _ 82 rfl (w.heap.size+1) 159 i0 _ 3 24 Tryz.underlying82 hi hz0 hz1 hz2 rfl (by decide) _ 0 [] rfl q ⟨b,0,none⟩ (smN r) cc (flat (r.take 2)) rfl (by rw [flat_length];rfl) (own_news7 (owns_below hrow hal)) (flat_one7 _) (by have:=smN_le r;unfold maxLen;omega) (by have:=smN_le r;omega) (by have:=(pR.below hal).lt;omega) ?_
       intro v2 Y2 q2 gr hob
       have bY:Below Y0.heap.size Y0 Y2:=hal.grown gr hal.size (fun x hx=>by have e9:some Y0.heap.size=some x:=hx;cases e9;exact Nat.le_refl _)
       rw [Nat.zero_add,List.nil_append] at q2
       obtain ⟨N,hN,hNg⟩:∃ N,v2.ownBlock=some N∧Y0.heap.size≤N:=by
        rcases hob with e | e
        ·exact ⟨_,e,Nat.le_refl _⟩
        ·exact ⟨_,e,by omega⟩
       obtain ⟨c2,rfl⟩:=own_new7 q2 hN
       clear gr hob hN q
       obtain ⟨⟨hP2,pX2⟩,pX3,hcut9⟩:=lay_all8 hP pX pR bw bY q2 hNg hlt hvl (by omega)
       refine hK.out _ _ (by simpa using pX2.cell 0) (fun hS8=>?_)
       clear hK
       try simp only [Act.put,tka,tkb,tkc]
       refine tkm 18 30 (.pointer (some ⟨g,k,none⟩)) ?_
       have cK2:=hP2.cell hlt
       rw [hvk] at cK2
       have fK2:=hP2.1.frozenAt k
       refine tkz 19 (fun K hK=>?_)
       go_simp
       refine hK.out _ _ (by simpa using pX3.cell 0) (fun hS9=>?_)
       clear hK
       try simp only [Act.put,tka,tkb,tkc]
       refine wpAnyH_done (by kernel_rfl) ?_ _
       go_wp2_with fail
       go_meet
       case rel=>exact hcut9
     ·go_simp
      refine hK.out _ _ (by simpa using pX.cell 0) (fun hS31=>?_)
      clear hK
      try simp only [Act.put,tka,tkb,tkc]
      refine wpAnyH_ready (rs:=[3,13]) (by kernel_rfl) (by simp) ?_
      refine AllReadyH.cons (o:=⟨some 15,_,_,_,_,_⟩) rfl (fun K hK=>?_) (AllReadyH.cons (o:=⟨some 25,_,_,_,_,_⟩) rfl (fun K hK=>?_) AllReadyH.nil)
      ·go_simp
       refine hK.out _ _ (by simpa using (pX.below hal).cell 0) (fun hS32=>?_)
       clear hK
       generalize (Y0.alloc (.cells #[] 159))=Y1 at *
       try simp only [Act.put,tka,tkb,tkc]
       refine tkr 13 25 (fun K hK=>?_)
       go_simp
       refine hK.out _ _ (by simpa using (pX.below hal).cell 0) (fun hS33=>?_)
       clear hK
       try simp only [Act.put,tka,tkb,tkc]
       refine tkm 14 26 (.int .i64 (r.length:Int)) ?_
       refine tkx 15 27 (.int .i64 (smN r:Int)) ?_ ?_
       ·intro w' hSw;(try dsimp only at hSw);go_simp;try (have h9:=smN_eq r;omega)
       simp only [Act.put,tka,tkb,tkc]
       refine tkx 16 28 (.slice (some ⟨b,0,none⟩) (smN r) cc) ?_ ?_
       ·intro w' hSw;(try dsimp only at hSw);go_simp
       simp only [Act.put,tka,tkb,tkc]
       refine tkr 17 29 (fun K hK=>?_)
       refine step_append_atB rfl _ _ 82 rfl (w.heap.size+1) 159 i0 _ 3 24 Tryz.underlying82 hi hz0 hz1 hz2 rfl (by decide) _ 0 [] rfl q ⟨b,0,none⟩ (smN r) cc (flat (r.take 2)) rfl (by rw [flat_length];rfl) (own_news7 (owns_below hrow hal)) (flat_one7 _) (by have:=smN_le r;unfold maxLen;omega) (by have:=smN_le r;omega) (by have:=(pR.below hal).lt;omega) ?_
       intro v2 Y2 q2 gr hob
       have bY:Below Y0.heap.size Y0 Y2:=hal.grown gr hal.size (fun x hx=>by have e9:some Y0.heap.size=some x:=hx;cases e9;exact Nat.le_refl _)
       rw [Nat.zero_add,List.nil_append] at q2
       obtain ⟨N,hN,hNg⟩:∃ N,v2.ownBlock=some N∧Y0.heap.size≤N:=by
        rcases hob with e | e
        ·exact ⟨_,e,Nat.le_refl _⟩
        ·exact ⟨_,e,by omega⟩
       obtain ⟨c2,rfl⟩:=own_new7 q2 hN
       clear gr hob hN q
       obtain ⟨⟨hP2,pX2⟩,pX3,hcut9⟩:=lay_all8 hP pX pR bw bY q2 hNg hlt hvl (by omega)
       refine hK.out _ _ (by simpa using pX2.cell 0) (fun hS8=>?_)
       clear hK
       try simp only [Act.put,tka,tkb,tkc]
       refine tkm 18 30 (.pointer (some ⟨g,k,none⟩)) ?_
       have cK2:=hP2.cell hlt
       rw [hvk] at cK2
       have fK2:=hP2.1.frozenAt k
       refine tkz 19 (fun K hK=>?_)
       go_simp
       refine hK.out _ _ (by simpa using pX3.cell 0) (fun hS9=>?_)
       clear hK
       try simp only [Act.put,tka,tkb,tkc]
       refine wpAnyH_done (by kernel_rfl) ?_ _
       go_wp2_with fail
       go_meet
       case rel=>exact hcut9
      ·go_simp
       refine hK.out _ _ (by simpa using pX.cell 0) (fun hS34=>?_)
       clear hK
       try simp only [Act.put,tka,tkb,tkc]
       refine tkm 14 26 (.int .i64 (r.length:Int)) ?_
       refine tkx 15 27 (.int .i64 (smN r:Int)) ?_ ?_
       ·intro w' hSw;(try dsimp only at hSw);go_simp;try (have h9:=smN_eq r;omega)
       simp only [Act.put,tka,tkb,tkc]
       refine tkx 16 28 (.slice (some ⟨b,0,none⟩) (smN r) cc) ?_ ?_
       ·intro w' hSw;(try dsimp only at hSw);go_simp
       simp only [Act.put,tka,tkb,tkc]
       refine tkr 3 15 (fun K hK=>?_)
       go_simp
       refine hK.out _ _ (by simpa using (pX.below hal).cell 0) (fun hS35=>?_)
       clear hK
       generalize (Y0.alloc (.cells #[] 159))=Y1 at *
       try simp only [Act.put,tka,tkb,tkc]
       refine tkr 17 29 (fun K hK=>?_)
       refine step_append_atB rfl _ _ 82 rfl (w.heap.size+1) 159 i0 _ 3 24 Tryz.underlying82 hi hz0 hz1 hz2 rfl (by decide) _ 0 [] rfl q ⟨b,0,none⟩ (smN r) cc (flat (r.take 2)) rfl (by rw [flat_length];rfl) (own_news7 (owns_below hrow hal)) (flat_one7 _) (by have:=smN_le r;unfold maxLen;omega) (by have:=smN_le r;omega) (by have:=(pR.below hal).lt;omega) ?_
       intro v2 Y2 q2 gr hob
       have bY:Below Y0.heap.size Y0 Y2:=hal.grown gr hal.size (fun x hx=>by have e9:some Y0.heap.size=some x:=hx;cases e9;exact Nat.le_refl _)
       rw [Nat.zero_add,List.nil_append] at q2
       obtain ⟨N,hN,hNg⟩:∃ N,v2.ownBlock=some N∧Y0.heap.size≤N:=by
        rcases hob with e | e
        ·exact ⟨_,e,Nat.le_refl _⟩
        ·exact ⟨_,e,by omega⟩
       obtain ⟨c2,rfl⟩:=own_new7 q2 hN
       clear gr hob hN q
       obtain ⟨⟨hP2,pX2⟩,pX3,hcut9⟩:=lay_all8 hP pX pR bw bY q2 hNg hlt hvl (by omega)
       refine hK.out _ _ (by simpa using pX2.cell 0) (fun hS8=>?_)
       clear hK
       try simp only [Act.put,tka,tkb,tkc]
       refine tkm 18 30 (.pointer (some ⟨g,k,none⟩)) ?_
       have cK2:=hP2.cell hlt
       rw [hvk] at cK2
       have fK2:=hP2.1.frozenAt k
       refine tkz 19 (fun K hK=>?_)
       go_simp
       refine hK.out _ _ (by simpa using pX3.cell 0) (fun hS9=>?_)
       clear hK
       try simp only [Act.put,tka,tkb,tkc]
       refine wpAnyH_done (by kernel_rfl) ?_ _
       go_wp2_with fail
       go_meet
       case rel=>exact hcut9
     ·go_simp
      refine hK.out _ _ (by simpa using pX.cell 0) (fun hS36=>?_)
      clear hK
      try simp only [Act.put,tka,tkb,tkc]
      refine tkm 14 26 (.int .i64 (r.length:Int)) ?_
      refine tkx 15 27 (.int .i64 (smN r:Int)) ?_ ?_
      ·intro w' hSw;(try dsimp only at hSw);go_simp;try (have h9:=smN_eq r;omega)
      simp only [Act.put,tka,tkb,tkc]
      refine wpAnyH_ready (rs:=[3,8]) (by kernel_rfl) (by simp) ?_
      refine AllReadyH.cons (o:=⟨some 15,_,_,_,_,_⟩) rfl (fun K hK=>?_) (AllReadyH.cons (o:=⟨some 20,_,_,_,_,_⟩) rfl (fun K hK=>?_) AllReadyH.nil)
      ·go_simp
       refine hK.out _ _ (by simpa using (pX.below hal).cell 0) (fun hS37=>?_)
       clear hK
       generalize (Y0.alloc (.cells #[] 159))=Y1 at *
       try simp only [Act.put,tka,tkb,tkc]
       refine tkr 8 20 (fun K hK=>?_)
       go_simp
       refine hK.out _ _ (by simpa using (pX.below hal).cell 0) (fun hS38=>?_)
       clear hK
       try simp only [Act.put,tka,tkb,tkc]
       refine tkx 16 28 (.slice (some ⟨b,0,none⟩) (smN r) cc) ?_ ?_
       ·intro w' hSw;(try dsimp only at hSw);go_simp
       simp only [Act.put,tka,tkb,tkc]
       refine tkr 17 29 (fun K hK=>?_)
       refine step_append_atB rfl _ _ 82 rfl (w.heap.size+1) 159 i0 _ 3 24 Tryz.underlying82 hi hz0 hz1 hz2 rfl (by decide) _ 0 [] rfl q ⟨b,0,none⟩ (smN r) cc (flat (r.take 2)) rfl (by rw [flat_length];rfl) (own_news7 (owns_below hrow hal)) (flat_one7 _) (by have:=smN_le r;unfold maxLen;omega) (by have:=smN_le r;omega) (by have:=(pR.below hal).lt;omega) ?_
       intro v2 Y2 q2 gr hob
       have bY:Below Y0.heap.size Y0 Y2:=hal.grown gr hal.size (fun x hx=>by have e9:some Y0.heap.size=some x:=hx;cases e9;exact Nat.le_refl _)
       rw [Nat.zero_add,List.nil_append] at q2
       obtain ⟨N,hN,hNg⟩:∃ N,v2.ownBlock=some N∧Y0.heap.size≤N:=by
        rcases hob with e | e
        ·exact ⟨_,e,Nat.le_refl _⟩
        ·exact ⟨_,e,by omega⟩
       obtain ⟨c2,rfl⟩:=own_new7 q2 hN
       clear gr hob hN q
       obtain ⟨⟨hP2,pX2⟩,pX3,hcut9⟩:=lay_all8 hP pX pR bw bY q2 hNg hlt hvl (by omega)
       refine hK.out _ _ (by simpa using pX2.cell 0) (fun hS8=>?_)
       clear hK
       try simp only [Act.put,tka,tkb,tkc]
       refine tkm 18 30 (.pointer (some ⟨g,k,none⟩)) ?_
       have cK2:=hP2.cell hlt
       rw [hvk] at cK2
       have fK2:=hP2.1.frozenAt k
       refine tkz 19 (fun K hK=>?_)
       go_simp
       refine hK.out _ _ (by simpa using pX3.cell 0) (fun hS9=>?_)
       clear hK
       try simp only [Act.put,tka,tkb,tkc]
       refine wpAnyH_done (by kernel_rfl) ?_ _
       go_wp2_with fail
       go_meet
       case rel=>exact hcut9
      ·go_simp
       refine hK.out _ _ (by simpa using pX.cell 0) (fun hS39=>?_)
       clear hK
       try simp only [Act.put,tka,tkb,tkc]
       refine tkx 16 28 (.slice (some ⟨b,0,none⟩) (smN r) cc) ?_ ?_
       ·intro w' hSw;(try dsimp only at hSw);go_simp
       simp only [Act.put,tka,tkb,tkc]
       refine tkr 3 15 (fun K hK=>?_)
       go_simp
       refine hK.out _ _ (by simpa using (pX.below hal).cell 0) (fun hS40=>?_)
       clear hK
       generalize (Y0.alloc (.cells #[] 159))=Y1 at *
       try simp only [Act.put,tka,tkb,tkc]
       refine tkr 17 29 (fun K hK=>?_)
       refine step_append_atB rfl _ _ 82 rfl (w.heap.size+1) 159 i0 _ 3 24 Tryz.underlying82 hi hz0 hz1 hz2 rfl (by decide) _ 0 [] rfl q ⟨b,0,none⟩ (smN r) cc (flat (r.take 2)) rfl (by rw [flat_length];rfl) (own_news7 (owns_below hrow hal)) (flat_one7 _) (by have:=smN_le r;unfold maxLen;omega) (by have:=smN_le r;omega) (by have:=(pR.below hal).lt;omega) ?_
       intro v2 Y2 q2 gr hob
       have bY:Below Y0.heap.size Y0 Y2:=hal.grown gr hal.size (fun x hx=>by have e9:some Y0.heap.size=some x:=hx;cases e9;exact Nat.le_refl _)
       rw [Nat.zero_add,List.nil_append] at q2
       obtain ⟨N,hN,hNg⟩:∃ N,v2.ownBlock=some N∧Y0.heap.size≤N:=by
        rcases hob with e | e
        ·exact ⟨_,e,Nat.le_refl _⟩
        ·exact ⟨_,e,by omega⟩
       obtain ⟨c2,rfl⟩:=own_new7 q2 hN
       clear gr hob hN q
       obtain ⟨⟨hP2,pX2⟩,pX3,hcut9⟩:=lay_all8 hP pX pR bw bY q2 hNg hlt hvl (by omega)
       refine hK.out _ _ (by simpa using pX2.cell 0) (fun hS8=>?_)
       clear hK
       try simp only [Act.put,tka,tkb,tkc]
       refine tkm 18 30 (.pointer (some ⟨g,k,none⟩)) ?_
       have cK2:=hP2.cell hlt
       rw [hvk] at cK2
       have fK2:=hP2.1.frozenAt k
       refine tkz 19 (fun K hK=>?_)
       go_simp
       refine hK.out _ _ (by simpa using pX3.cell 0) (fun hS9=>?_)
       clear hK
       try simp only [Act.put,tka,tkb,tkc]
       refine wpAnyH_done (by kernel_rfl) ?_ _
       go_wp2_with fail
       go_meet
       case rel=>exact hcut9
   clear hP pX pR bw cX cK hrow hvk hvl
   clear vs
   obtain ⟨vs3,N,c2,hv3,hP3,pX3,pR3,bw3⟩:=hcut
   go_wp2_with fail
   go_loopg [5] (smN r) (fun gg s5 wz=>∃ j:Nat,j≤smN r∧smN r - j≤gg∧s5=.int .i64 j∧ProgAt wz (w.heap.size+1) g c vs3 ((smK rows k).set k (smJ r j))∧Blk wz X 25 [.slice (some ⟨g,0,none⟩) 3 c]∧Blk wz w.heap.size 25 [.slice none 0 0]∧Below p w wz)
   case atStart=>exact ⟨0,by omega,by omega,rfl,hP3,pX3,pR3,bw3⟩
   case round =>
    clear hP3 pX3 pR3 bw3
    obtain ⟨j,hj,hg2,rfl,hP,pX,pR,bw⟩:=hrel
    have hlen3:(smK rows k).length=3:=by rw [smK_len];exact H3.out
    have cX:wr.cell? ⟨X,0,none⟩=some (.slice (some ⟨g,0,none⟩) 3 c):=by simpa using pX.cell 0
    have cK:=hP.cell hlt
    rw [hv3] at cK
    by_cases hjl:j<smN r
    ·have hjl':(j:Int)<(smN r:Int):=by omega
     have hj0:(0:Int)≤(j:Int):=by omega
     have hrow:=hP.row (by omega)
     rw [hv3,smJ_len] at hrow
     have cJ:=hrow.cellAt (j*3) (by omega)
     rw [flat_get7 _ _ (by rw [smJ_len];exact hjl),smJ_at hjl] at cJ
     obtain ⟨u2,cB⟩:∃ u,wr.cell? ⟨N,j*3+2,none⟩=some u:=⟨_,by rw [hrow.cellAt _ (by omega)];exact List.getElem?_eq_getElem (by rw [flat_length,smJ_len];omega)⟩
     have hsN:=smN_le r
     by_cases h7:((r.take 2).getD j (0,0,0)).1=7
     ·have hdr:Below wr.heap.size wr wr.drew:=by go_grown
      have bw4:=bw.trans (hdr.mono (by have:=pR.lt;omega))
      have hrd:=owns_below hrow hdr
      have gT:=(hrd.stored (j*3+2) (.int .i64 (smN r:Int))).2
      have hT:=(hP.below hdr).turn7 hlt hlen3 hv3 hjl h7
      have hNX:N≠X:=fun e=>own_ne_blk hrow pX (by decide) (by simp [Value.ownBlock,e])
      have hNB:w.heap.size+1≤N:=(hrow.lt N rfl).1
      have pX4:=(pX.below hdr).kept gT (by simp;omega)
      have pR4:=(pR.below hdr).kept gT (by simp;omega)
      replace bw4:=bw4.grown gT (by have:=bw4.size;omega) (fun x hx=>by cases hx;omega)
      have cB4:=cells_kept hdr _ _ cB
      have fB4:=hrd.frozenAt (j*3+2)
      have hgN:g≠N:=fun e=>own_ne_own6 hrow hP.1 (by decide) (by simp [Value.ownBlock,e])
      rw [h7] at cJ
      have cX4:(wr.drew.setCell ⟨N,j*3+2,none⟩ (.int .i64 (smN r:Int))).cell? ⟨X,0,none⟩=some (.slice (some ⟨g,0,none⟩) 3 c):=by simpa using pX4.cell 0
      have cK4:=hT.cell hlt
      rw [hv3] at cK4
      clear hP pX pR bw hrow hrd gT hdr h7
      go_wp2_with fail
      refine wp_region_held_drew (S:=(fun w'=>w'.cell? ⟨X,0,none⟩=some (.slice (some ⟨g,0,none⟩) 3 c)∧w'.cell? ⟨g,k,none⟩=some (.slice (some ⟨N,0,none⟩) (smN r) c2))) (by kernel_rfl) ⟨cX,cK⟩ (fun hS0=>?_)
      refine tkm 0 51 (.pointer (some ⟨X,0,none⟩)) ?_
      refine tkm 1 52 (.slice (some ⟨g,0,none⟩) 3 c) ?_
      refine tkm 2 53 (.int .i64 (k:Int)) ?_
      refine tkm 3 54 (.pointer (some ⟨g,k,none⟩)) ?_
      refine tkm 4 55 (.slice (some ⟨N,0,none⟩) (smN r) c2) ?_
      refine tkm 5 56 (.int .i64 (j:Int)) ?_
      refine tkm 6 57 (.pointer (some ⟨X,0,none⟩)) ?_
      refine tkm 7 58 (.slice (some ⟨g,0,none⟩) 3 c) ?_
      refine tkm 8 59 (.int .i64 (k:Int)) ?_
      refine tkm 9 60 (.pointer (some ⟨g,k,none⟩)) ?_
      refine tkm 10 61 (.slice (some ⟨N,0,none⟩) (smN r) c2) ?_
      refine tkm 11 62 (.int .i64 (smN r:Int)) ?_
      refine tkm 12 63 (.pointer (some ⟨N,j*3,none⟩)) ?_
      refine tkm 13 64 (.pointer (some ⟨N,j*3+2,none⟩)) ?_
      refine tkz 14 (fun K hK=>?_)
      go_simp
      refine hK.out _ _ ⟨cX4,cK4⟩ (fun hS9=>?_)
      clear hK
      try simp only [Act.put,tka,tkb,tkc]
      refine wpAnyH_done (by kernel_rfl) ?_ _
      rw [World.setCell_drew] at hT pX4 pR4 bw4
      clear cX4 cK4 hS9 hS0
      generalize (wr.setCell ⟨N,j*3+2,none⟩ (.int .i64 (smN r:Int))).drew=V4 at *
      clear cX cK cJ cB cB4 fB4
      go_wp2
      go_roundg (smN r - (j+1))
      case measure=>omega
      case rel=>exact ⟨j+1,by omega,by omega,by go_num,hT,pX4,pR4,bw4⟩
     ·have hsame:=smJ_same hjl h7
      rw [← hsame] at hP
      have h7b:(((r.take 2).getD j (0,0,0)).1 == 7)=false:=by simpa using h7
      generalize ((r.take 2).getD j (0,0,0)).1=z7 at *
      clear hrow hsame
      go_wp2
      go_roundg (smN r - (j+1))
      case measure=>omega
      case rel=>exact ⟨j+1,by omega,by omega,by go_num,hP,pX,pR,bw⟩
    ·obtain rfl:j=smN r:=by omega
     have hnl:¬ ((smN r:Int)<(smN r:Int)):=by omega
     have hP9:ProgAt wr (w.heap.size+1) g c vs3 (smK rows (k+1)):=by
      rw [smK_succ (by have:=H3.out;omega),← HR.out]
      rw [smJ_all (Nat.le_refl _)] at hP
      exact hP
     clear hP
     go_wp2
     go_roundg (3 - (k+1))
     case measure=>omega
     case rel=>exact ⟨k+1,vs3,by omega,by omega,by go_num,hP9,pX,pR,bw⟩
  ·obtain rfl:k=3:=by omega
   go_wp2_with (first | refine wpList_load_blk rfl 25 _ rfl X rfl pX _ Tryz.underlying25 rfl (by kernel_rfl) ?_ | refine wpList_store_blk rfl 25 _ _ rfl w.heap.size [.slice (some ⟨g,0,none⟩) 3 c] rfl rfl pR (by kernel_rfl) rfl rfl ?_)
   intro V9 pR9 g9
   have hP9:=hP.low g9 (by omega)
   have bw9:=bw.grown g9 (by have:=bw.size;omega) (fun x hx=>by cases hx;omega)
   have k9:V9.cell? ⟨w.heap.size,0,none⟩=some (.slice (some ⟨g,0,none⟩) 3 c):=by simpa using pR9.out.cell 0
   have HS9:Hid (ProgS (smK rows 3)):=smK_all HOK.out.1
   clear hP pX pR bw g9 pR9
   go_wp2
   refine bodyPost_ret (by simp [results,Tryz.results66,go_sem,k9];try rfl) rfl ?_
   exact ⟨⟨_,_,HS9.out,rfl,hP9.own.lower (by omega)⟩,bw9⟩

theorem smallDrawn_any (a:Option Addr) (n cap:Nat) (zs:List Int) (w:World) (hI:IsRow .u8 w a n cap zs) (hn:n≤1048576) :
  Calls Tryz.prog 22 #[.slice a n cap] w fun e w'=>(∃ (v:Value) (rows:List (List I3)),ProgS rows∧e=.returned (.agg #[v])∧OwnProg w' w.heap.size v rows)∧Below w.heap.size w w':=by
 have hCo:=code_of hI hn
 have hb0:Below w.heap.size w (w.alloc (.cells #[.slice none 0 0] 25)):=by go_grown
 have hRr:=box_n w (.slice none 0 0) 25 w.heap.size (Nat.le_refl _)
 go_enter Tryz.func22,Tryz.ntmps22
 go_wp2_with fail
 refine (l00Source_any a n cap _ hn).mono ?_
 rintro e w1 ⟨rfl,hS,hb1⟩
 simp only [World.size_alloc] at hS
 try simp only [World.size_alloc]
 have hRr1:=owns_below hRr hb1
 have b1:Below w.heap.size w w1:=bel_trans hb0 hb1
 have hC1:Code w1 (w.heap.size+1) a n cap:=by
  obtain ⟨zs',q1,q2,q3,q4⟩:=hCo
  exact ⟨zs',q1.below b1,q2,q3,fun x hx h0=>by have:=q4 x hx h0;omega⟩
 have hpw:w.heap.size+1<w1.heap.size:=hS.lt
 clear hb1 hb0 hRr hCo
 have hpw':w.heap.size<w.heap.size+1:=by omega
 generalize w.heap.size+1=p at hS hC1 hpw hpw'
 go_wp2_with fail
 refine (smallProgram_any p a n cap _ hS hC1).mono ?_
 rintro e w2 ⟨⟨v,rows,hok,rfl,hOP⟩,hb2⟩
 obtain ⟨aV,capV,hv⟩:=hOP.slice
 generalize rows.length=lr at hv
 subst hv
 have HP:Hid (ProgS rows):=hok
 have hRr2:=owns_belowp hRr1 hb2 (fun x e=>by cases e;omega)
 have b2:Below w.heap.size w w2:=b1.trans (hb2.mono (by omega))
 have kR:w2.cell? ⟨w.heap.size,0,none⟩=some (.slice none 0 0):=by simpa using hRr2.cellAt 0 (by omega)
 have fR:=hRr2.frozenAt 0
 have hOP3:=(hOP.low (p:=⟨w.heap.size,0,none⟩) (show w.heap.size<w1.heap.size by omega) (.slice aV lr capV)).lower (B':=w.heap.size) (by omega)
 have b3:Below w.heap.size w (w2.setCell ⟨w.heap.size,0,none⟩ (.slice aV lr capV)):=b2.setCell (Nat.le_refl _) _
 have k3:(w2.setCell ⟨w.heap.size,0,none⟩ (.slice aV lr capV)).cell? ⟨w.heap.size,0,none⟩=some (.slice aV lr capV):=World.cell?_setCell_same' _ _ _ (by rw [kR];rfl)
 clear hok hOP hRr1 hRr2 b1 b2 hb2 hS hC1
 go_wp2
 clear kR fR
 generalize w2.setCell ⟨w.heap.size,0,none⟩ (.slice aV lr capV)=w9 at hOP3 b3 k3
 refine bodyPost_ret (by simp [results,Tryz.results22,go_sem,k3];try rfl) rfl ?_
 exact ⟨⟨_,rows,HP.out,rfl,hOP3⟩,b3⟩

end Go.Proofs.YtifoggpohlegmaaGreatDoor
