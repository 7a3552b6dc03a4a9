/-
  Joined: StxI, SmlP.
-/
import Derived.Test.YtifoggpohlegmaaGreatDoorA42

namespace Go.Proofs.YtifoggpohlegmaaGreatDoor
set_option maxRecDepth 100000
set_option maxHeartbeats 16000000
open Go.RowKit
set_option linter.unusedVariables false
set_option linter.unusedSimpArgs false

theorem sameTexts_one (a a':Option Addr) (len cap cap':Nat) (ts:List ByteArray) (w:World) (h:Strs w a len cap ts) (h':Strs w a' len cap' ts) :
  Calls Tryz.prog 25 #[.slice a len cap,.slice a' len cap'] w fun e w'=>e=.returned (.bool true)∧∃ d,w'=w.drewN d:=by
 obtain ⟨hl,hlc,hcm,hcase⟩:=h
 obtain ⟨_,hlc',hcm',hcase'⟩:=h'
 unfold maxLen at hcm hcm'
 have hne:((len:Int) != (len:Int))=false:=by simp
 by_cases h0:len=0
 ·subst h0
  go_enter Tryz.func25,Tryz.ntmps25
  go_wp2
  refine wp_loop_rounds 1 ?_
  rw [rounds_succ]
  go_wp2
  go_ret
  exact ⟨rfl,0,rfl⟩
 ·rcases hcase with h0' | ⟨b,off,rfl,hblt,hcell⟩
  ·exact absurd h0' h0
  rcases hcase' with h0' | ⟨b',off',rfl,hblt',hcell'⟩
  ·exact absurd h0' h0
  go_enter Tryz.func25,Tryz.ntmps25
  go_wp2
  go_loopw [5] (fun si wr=>∃ k d:Nat,k≤len∧si=.int .i64 k∧wr=w.drewN d) (fun si _=>len - (intOf si).toNat)
  case atStart=>exact ⟨0,0,by omega,rfl,rfl⟩
  case round =>
   obtain ⟨k,d,hk,rfl,rfl⟩:=hrel
   by_cases hlt:k<len
   ·have hc:=hcell k hlt
    have hc':=hcell' k hlt
    have hlt':(k:Int)<(len:Int):=by omega
    generalize ts.getD k ByteArray.empty=x at hc hc'
    have hxx:(x.toList != x.toList)=false:=by simp
    have hxy:(x.toList == x.toList)=true:=by simp
    clear hcell hcell'
    go_wp2
    go_quiet (fail)
    go_wp2
    go_roundw
    case rel=>exact ⟨k+1,_,by omega,by go_num,rfl⟩
    case measure=>simp [intOf];omega
   ·go_wp2
    go_ret
    exact ⟨rfl,d,rfl⟩


def smI (n:Int) (x:I3):I3:=if x.1=7 then (x.1,x.2.1,n) else x
def smN (r:List I3):Nat:=(r.take 2).length
def smR (r:List I3):List I3:=(r.take 2).map (smI (smN r))
def smJ (r:List I3) (j:Nat):List I3:=((r.take 2).take j).map (smI (smN r))++(r.take 2).drop j
theorem smN_le (r:List I3):smN r≤2:=by unfold smN;rw [List.length_take];omega
theorem smN_eq (r:List I3):smN r=min r.length 2:=by unfold smN;rw [List.length_take];omega
theorem smJ_len (r:List I3) (j:Nat):(smJ r j).length=smN r:=by unfold smJ smN;simp;omega
theorem smJ_zero (r:List I3):smJ r 0=r.take 2:=by unfold smJ;simp
theorem smJ_all {r:List I3} {j:Nat} (h:smN r≤j):smJ r j=smR r:=by
 unfold smJ smR
 unfold smN at h
 rw [List.take_of_length_le h,List.drop_of_length_le h,List.append_nil]
theorem smJ_at {r:List I3} {j:Nat} (h:j<smN r):(smJ r j).getD j (0,0,0)=(r.take 2).getD j (0,0,0):=by
 unfold smJ
 unfold smN at h
 have hl:(((r.take 2).take j).map (smI (smN r))).length=j:=by rw [List.length_map,List.length_take];omega
 simp only [List.getD]
 rw [List.getElem?_append_right (by omega),hl,Nat.sub_self,List.getElem?_drop,Nat.add_zero]
theorem smJ_succ {r:List I3} {j:Nat} (h:j<smN r):smJ r (j+1)=(smJ r j).set j (smI (smN r) ((r.take 2).getD j (0,0,0))):=by
 have h':=h
 unfold smN at h'
 have hl:(((r.take 2).take j).map (smI (smN r))).length=j:=by rw [List.length_map,List.length_take];omega
 have e:(r.take 2).getD j (0,0,0)=(r.take 2)[j]:=by simp only [List.getD,List.getElem?_eq_getElem h',Option.getD_some]
 unfold smJ
 rw [e,List.set_append_right _ _ (by omega),hl,Nat.sub_self,List.drop_eq_getElem_cons h',List.set_cons_zero,List.take_succ_eq_append_getElem h',List.map_append]
 simp
theorem smI_ok {x:I3} {n:Int} (h:okI x=true) (h1:1≤n) (h6:n≤6):okI (smI n x)=true:=by
 unfold smI
 split
 ·rename_i e
  unfold okI inB at h ⊢
  simp [e] at h ⊢
  omega
 ·exact h
theorem smI_leads {x:I3} {n k:Int} (h:k<n):leads (smI n x) k n=true:=by
 unfold smI leads
 split
 ·rename_i e
  simp only [e,if_true]
  unfold inB
  simp
  omega
 ·rfl
theorem smR_ok {r:List I3} (h:codeOk r=true):codeOk (smR r)=true:=by
 match r,h with
 | [],_=>rfl
 | [x],h =>
  have h1:okI x=true:=by
   unfold codeOk okFrom at h
   simp only [Bool.and_eq_true] at h
   exact h.2.1.1
  show codeOk [smI 1 x]=true
  unfold codeOk okFrom okFrom
  rw [smI_ok h1 (by omega) (by omega)]
  have:=smI_leads (x:=x) (n:=1) (k:=0) (by omega)
  simp only [List.length_cons,List.length_nil]
  simp [this]
 | x::y::rs,h =>
  have h1:okI x=true∧okI y=true:=by
   unfold codeOk okFrom okFrom at h
   simp only [Bool.and_eq_true] at h
   exact ⟨h.2.1.1,h.2.2.1.1⟩
  show codeOk [smI 2 x,smI 2 y]=true
  unfold codeOk okFrom okFrom okFrom
  rw [smI_ok h1.1 (by omega) (by omega),smI_ok h1.2 (by omega) (by omega)]
  have a:=smI_leads (x:=x) (n:=2) (k:=0) (by omega)
  have b:=smI_leads (x:=y) (n:=2) (k:=1) (by omega)
  simp only [List.length_cons,List.length_nil]
  simp [a,b]
def smK (rows:List (List I3)) (k:Nat):List (List I3):=(rows.take k).map smR++rows.drop k
theorem smK_len (rows:List (List I3)) (k:Nat):(smK rows k).length=rows.length:=by unfold smK;simp;omega
theorem smK_zero (rows:List (List I3)):smK rows 0=rows:=by unfold smK;simp
theorem smK_at {rows:List (List I3)} {k:Nat} (h:k<rows.length):(smK rows k).getD k []=rows.getD k []:=by
 have hl:((rows.take k).map smR).length=k:=by rw [List.length_map,List.length_take];omega
 unfold smK
 simp only [List.getD]
 rw [List.getElem?_append_right (by omega),hl,Nat.sub_self,List.getElem?_drop,Nat.add_zero]
theorem smK_succ {rows:List (List I3)} {k:Nat} (h:k<rows.length):smK rows (k+1)=(smK rows k).set k (smR (rows.getD k [])):=by
 have hl:((rows.take k).map smR).length=k:=by rw [List.length_map,List.length_take];omega
 unfold smK
 rw [List.set_append_right _ _ (by omega),hl,Nat.sub_self,List.drop_eq_getElem_cons h,List.set_cons_zero,List.take_succ_eq_append_getElem h,List.map_append]
 simp [List.getD,h]
theorem smK_all {rows:List (List I3)} (h:progOk rows=true):ProgS (smK rows 3):=by
 unfold progOk at h
 simp only [Bool.and_eq_true,decide_eq_true_eq,List.all_eq_true] at h
 have e:smK rows 3=rows.map smR:=by
  unfold smK
  rw [List.take_of_length_le (by omega),List.drop_of_length_le (by omega),List.append_nil]
 have hs:∀ k,(codeM (smK rows 3) k).length≤2:=fun k=>by
  rw [e]
  unfold codeM
  simp only [List.getD,List.getElem?_map]
  cases rows[k]? with
  | none=>simp
  | some r=>simp [smR,List.length_take];omega
 refine ⟨?_,Nat.le_trans (hs 0) (by omega),Nat.le_trans (hs 1) (by omega),hs 2⟩
 unfold progOk
 simp only [Bool.and_eq_true,decide_eq_true_eq,List.all_eq_true]
 rw [e]
 refine ⟨by simpa using h.1,fun r hr=>?_⟩
 obtain ⟨q,hq,rfl⟩:=List.mem_map.1 hr
 exact smR_ok (h.2 q hq)

theorem flat_setB:∀ (xs:List I3) (i:Nat) (z:Int),i<xs.length→(flat xs).set (i*3+2) (.int .i64 z)=flat (xs.set i ((xs.getD i (0,0,0)).1,(xs.getD i (0,0,0)).2.1,z))
 | [],i,z,h=>by simp at h
 | x::xs,0,z,_=>by simp [flat,I3.cells]
 | x::xs,i+1,z,h=>by
  have ih:=flat_setB xs i z (by simpa using h)
  have e2:(i+1)*3+2=(i*3+2)+1+1+1:=by omega
  simp only [flat,List.flatMap_cons,I3.cells,List.cons_append,List.nil_append] at ih ⊢
  rw [e2]
  simp only [List.set_cons_succ,List.flatMap_cons,I3.cells,List.cons_append,List.nil_append]
  rw [ih]
  simp
theorem own_ne_own6 {w:World} {B B' e e' s s' n n' g c:Nat} {v:Value} {xs ys:List Value} (h:w.ownsRow B e s v n xs) (h':w.ownsRow B' e' s' (.slice (some ⟨g,0,none⟩) n' c) n' ys) (he:e≠e'):v.ownBlock≠some g:=by
 rcases h'.2 with ⟨q,_⟩ | ⟨g',c',cur',q,_,hh',_⟩
 ·cases q
 ·cases q
  rcases h.2 with ⟨q,_⟩ | ⟨g2,c2,cur2,q,_,hh,_⟩
  ·rw [q];simp [Value.ownBlock]
  ·rw [q]
   simp only [Value.ownBlock,ne_eq,Option.some.injEq]
   rintro rfl
   rw [hh] at hh'
   simp at hh'
   exact he hh'.2
theorem getD_set6 {α:Type} (l:List α) (k t:Nat) (x d:α):(l.set k x).getD t d=if t=k∧k<l.length then x else l.getD t d:=by
 simp only [List.getD,List.getElem?_set]
 by_cases h:k=t
 ·subst h
  by_cases h2:k<l.length
  ·simp [h2]
  ·simp [h2]
 ·rw [if_neg h,if_neg (fun q=>h q.1.symm)]
theorem OwnRows.put {w:World} {B:Nat} {vs:List Value} {rows:List (List I3)} (h:OwnRows w B vs rows) {k:Nat} (hk:k<rows.length) {nv:Value} {xs:List I3} (hn:w.ownsRow B 159 3 nv xs.length (flat xs)) (hd:∀ t,t<rows.length→t≠k→nv.ownBlock=none∨nv.ownBlock≠(vs.getD t undef).ownBlock):OwnRows w B (vs.set k nv) (rows.set k xs):=by
 obtain ⟨h1,h2,h3⟩:=h
 refine ⟨by simp [h1],fun t ht=>?_,fun t t' ht ht' hne=>?_⟩
 ·rw [List.length_set] at ht
  rw [getD_set6,getD_set6]
  by_cases e:t=k
  ·rw [if_pos ⟨e,by omega⟩,if_pos ⟨e,hk⟩];exact hn
  ·rw [if_neg (fun q=>e q.1),if_neg (fun q=>e q.1)];exact h2 t ht
 ·rw [List.length_set] at ht ht'
  rw [getD_set6,getD_set6]
  by_cases e:t=k
  ·rw [if_pos ⟨e,by omega⟩,if_neg (fun q=>hne (e.trans q.1.symm))]
   exact hd t' ht' (fun q=>hne (e.trans q.symm))
  ·rw [if_neg (fun q=>e q.1)]
   by_cases e':t'=k
   ·rw [if_pos ⟨e',by omega⟩]
    rcases hd t ht e with q | q
    ·rw [q]
     cases hb:(vs.getD t undef).ownBlock with
     | none=>exact .inl rfl
     | some x=>exact .inr (by simp)
    ·exact .inr (fun x=>q x.symm)
   ·rw [if_neg (fun q=>e' q.1)];exact h3 t t' ht ht' hne
theorem OwnRows.grown6 {w w':World} {B:Nat} {vs:List Value} {rows:List (List I3)} {g:Nat} (h:OwnRows w B vs rows) (hg:w.grownBy w' (some g)) (hne:∀ t,t<rows.length→(vs.getD t undef).ownBlock≠some g):OwnRows w' B vs rows:=
 ⟨h.1,fun t ht=>(h.2.1 t ht).kept hg (.inr (hne t ht)),h.2.2⟩
def ProgAt (w:World) (B g c:Nat) (vs:List Value) (rows:List (List I3)):Prop:=w.ownsRow B 82 1 (.slice (some ⟨g,0,none⟩) 3 c) 3 vs∧OwnRows w B vs rows∧rows.length=3
theorem ProgAt.below {w w':World} {B g c:Nat} {vs:List Value} {rows:List (List I3)} (h:ProgAt w B g c vs rows) (hb:Below w.heap.size w w'):ProgAt w' B g c vs rows:=⟨owns_below h.1 hb,h.2.1.below hb,h.2.2⟩
theorem ProgAt.cell {w:World} {B g c:Nat} {vs:List Value} {rows:List (List I3)} (h:ProgAt w B g c vs rows) {k:Nat} (hk:k<3):w.cell? ⟨g,k,none⟩=some (vs.getD k undef):=by
 rw [h.1.cellAt k (by omega)]
 have:=h.2.1.1
 have:=h.2.2
 simp [List.getD,show k<vs.length by omega]
theorem ProgAt.own {w:World} {B g c:Nat} {vs:List Value} {rows:List (List I3)} (h:ProgAt w B g c vs rows):OwnProg w B (.slice (some ⟨g,0,none⟩) 3 c) rows:=by
 obtain ⟨h1,h2,h3⟩:=h
 exact ⟨vs,by rw [h3];exact h1,h2⟩
theorem ProgAt.of {w:World} {B:Nat} {v:Value} {rows:List (List I3)} (h:OwnProg w B v rows) (h3:rows.length=3):∃ g c vs,v=.slice (some ⟨g,0,none⟩) 3 c∧ProgAt w B g c vs rows:=by
 obtain ⟨vs,h1,h2⟩:=h
 rw [h3] at h1
 rcases h1.2 with ⟨q,q0⟩ | ⟨g,c,cur,q,_⟩
 ·omega
 ·subst q
  exact ⟨g,c,vs,rfl,h1,h2,h3⟩
theorem ProgAt.lay {w:World} {B g c:Nat} {vs:List Value} {rows:List (List I3)} (h:ProgAt w B g c vs rows) {k:Nat} (hk:k<3) {nv:Value} {xs:List I3} (hn:w.ownsRow B 159 3 nv xs.length (flat xs)) (hd:∀ t,t<3→nv.ownBlock=none∨nv.ownBlock≠(vs.getD t undef).ownBlock):ProgAt (w.setCell ⟨g,k,none⟩ nv) B g c (vs.set k nv) (rows.set k xs):=by
 obtain ⟨h1,h2,h3⟩:=h
 have hg:=(h1.stored k nv).2
 refine ⟨(h1.stored k nv).1,(h2.put (by omega) hn (fun t ht _=>hd t (by omega))).grown6 hg (fun t ht=>?_),by simp [h3]⟩
 rw [getD_set6]
 split
 ·exact own_ne_own6 hn h1 (by decide)
 ·rw [List.length_set] at ht
  exact own_ne_own6 (h2.2.1 t ht) h1 (by decide)
theorem ProgAt.turn {w:World} {B g c b n cc:Nat} {vs:List Value} {rows:List (List I3)} (h:ProgAt w B g c vs rows) {k i:Nat} (hk:k<3) (hv:vs.getD k undef=.slice (some ⟨b,0,none⟩) n cc) (hi:i<(rows.getD k []).length) (z:Int) :
  ProgAt (w.setCell ⟨b,i*3+2,none⟩ (.int .i64 z)) B g c vs (rows.set k ((rows.getD k []).set i (((rows.getD k []).getD i (0,0,0)).1,((rows.getD k []).getD i (0,0,0)).2.1,z))):=by
 obtain ⟨h1,h2,h3⟩:=h
 have hr:=h2.2.1 k (by omega)
 rw [hv] at hr
 have hn:n=(rows.getD k []).length:=by
  rcases hr.2 with ⟨q,_⟩ | ⟨g',c',cur',q,_⟩
  ·cases q
  ·cases q;rfl
 subst hn
 obtain ⟨s1,s2⟩:=hr.stored (i*3+2) (.int .i64 z)
 rw [flat_setB _ _ _ hi] at s1
 have hbg:b≠g:=fun e=>own_ne_own6 hr h1 (by decide) (by simp [Value.ownBlock,e])
 have hvs:vs.length=3:=by rw [h2.1];exact h3
 refine ⟨h1.kept s2 (.inr (by simp [Value.ownBlock];omega)),⟨by simp [h2.1],fun t ht=>?_,fun t t' ht ht' hne=>h2.2.2 t t' (by simpa using ht) (by simpa using ht') hne⟩,by simp [h3]⟩
 rw [List.length_set] at ht
 rw [getD_set6]
 by_cases e:t=k
 ·rw [if_pos ⟨e,by omega⟩,e,hv,List.length_set]
  exact s1
 ·rw [if_neg (fun q=>e q.1)]
  refine (h2.2.1 t ht).kept s2 (.inr ?_)
  rcases h2.2.2 t k ht (by omega) e with q | q
  ·rw [q];simp
  ·rw [hv] at q;exact q
theorem flat_one7 (xs:List I3):∀ u ∈ flat xs,u.oneCell'=true:=fun u hu=>by
 unfold flat at hu
 obtain ⟨x,_,hx⟩:=List.mem_flatMap.1 hu
 simp [I3.cells] at hx
 rcases hx with rfl | rfl | rfl<;>rfl
theorem flat_get7:∀ (xs:List I3) (j:Nat),j<xs.length→(flat xs)[j*3]?=some (.int .i64 (xs.getD j (0,0,0)).1)
 | [],j,h=>by simp at h
 | x::xs,0,_=>by simp [flat,I3.cells]
 | x::xs,j+1,h=>by
  have ih:=flat_get7 xs j (by simpa using h)
  have e2:(j+1)*3=j*3+1+1+1:=by omega
  simp only [flat,List.flatMap_cons,I3.cells,List.cons_append,List.nil_append] at ih ⊢
  rw [e2]
  simp only [List.getElem?_cons_succ]
  rw [ih]
  simp
theorem own_news7 {w:World} {B b n c:Nat} {r:List I3} (h:w.ownsRow B 159 3 (.slice (some ⟨b,0,none⟩) n c) n (flat r)):∀ j u,(flat (r.take 2))[j]?=some u→w.cell? ((⟨b,0,none⟩:Addr).add j)=some u:=fun j u hj=>by
 have e:flat r=flat (r.take 2)++flat (r.drop 2):=by unfold flat;rw [← List.flatMap_append,List.take_append_drop]
 have hl:=(List.getElem?_eq_some_iff.1 hj).1
 have h1:(flat r)[j]?=some u:=by rw [e,List.getElem?_append_left hl];exact hj
 have h2:=(List.getElem?_eq_some_iff.1 h1).1
 have h3:=h.1
 have h4:=h.cellAt j (by omega)
 rw [h1] at h4
 by_cases e0:j=0
 ·subst e0;simpa [Addr.add] using h4
 ·simpa [Addr.add,e0] using h4
theorem smJ_same {r:List I3} {j:Nat} (h:j<smN r) (h7:((r.take 2).getD j (0,0,0)).1≠7):smJ r (j+1)=smJ r j:=by
 rw [smJ_succ h]
 have e:smI (smN r) ((r.take 2).getD j (0,0,0))=(smJ r j).getD j (0,0,0):=by rw [smJ_at h];unfold smI;rw [if_neg h7]
 rw [e]
 have hl:j<(smJ r j).length:=by rw [smJ_len];exact h
 simp only [List.getD,List.getElem?_eq_getElem hl,Option.getD_some]
 exact List.set_getElem_self hl
theorem smJ_turn {r:List I3} {j:Nat} (h:j<smN r) (h7:((r.take 2).getD j (0,0,0)).1=7):(smJ r j).set j (((smJ r j).getD j (0,0,0)).1,((smJ r j).getD j (0,0,0)).2.1,(smN r:Int))=smJ r (j+1):=by
 rw [smJ_succ h,smJ_at h]
 unfold smI
 rw [if_pos h7]
theorem ProgAt.low {w w':World} {B g c R:Nat} {vs:List Value} {rows:List (List I3)} (h:ProgAt w B g c vs rows) (hg:w.grownBy w' (some R)) (hR:R<B):ProgAt w' B g c vs rows:=by
 obtain ⟨h1,h2,h3⟩:=h
 refine ⟨h1.kept hg (.inr fun e=>?_),h2.grown6 hg (fun t ht e=>?_),h3⟩
 ·have:=(h1.lt R e).1;omega
 ·have:=((h2.2.1 t ht).lt R e).1;omega
theorem own_new7 {w:World} {B N n:Nat} {v:Value} {xs:List Value} (h:w.ownsRow B 159 3 v n xs) (hb:v.ownBlock=some N):∃ c,v=.slice (some ⟨N,0,none⟩) n c:=by
 rcases h.2 with ⟨q,_⟩ | ⟨g,c,cur,q,_⟩
 ·rw [q] at hb;cases hb
 ·subst q;simp [Value.ownBlock] at hb;subst hb;exact ⟨c,rfl⟩
theorem ProgAt.apart {w:World} {B g c N t:Nat} {vs:List Value} {rows:List (List I3)} (h:ProgAt w B g c vs rows) (hN:w.heap.size≤N) (ht:t<3):(some N:Option Nat)=none∨some N≠(vs.getD t undef).ownBlock:=by
 obtain ⟨h1,h2,h3⟩:=h
 exact .inr fun e=>by have:=((h2.2.1 t (by omega)).lt N e.symm).2;omega
theorem ProgAt.row {w:World} {B g c:Nat} {vs:List Value} {rows:List (List I3)} {k:Nat} {r:List I3} (h:ProgAt w B g c vs (rows.set k r)) (hk:k<rows.length):w.ownsRow B 159 3 (vs.getD k undef) r.length (flat r):=by
 have:=h.2.1.2.1 k (by rw [List.length_set];exact hk)
 rwa [getD_set6,if_pos ⟨rfl,hk⟩] at this
theorem ProgAt.turn7 {w:World} {B g c b n cc:Nat} {vs:List Value} {rows:List (List I3)} {k j:Nat} {r:List I3} (h:ProgAt w B g c vs (rows.set k (smJ r j))) (hk:k<3) (hl:rows.length=3) (hv:vs.getD k undef=.slice (some ⟨b,0,none⟩) n cc) (hj:j<smN r) (h7:((r.take 2).getD j (0,0,0)).1=7) :
  ProgAt (w.setCell ⟨b,j*3+2,none⟩ (.int .i64 (smN r:Int))) B g c vs (rows.set k (smJ r (j+1))):=by
 have e:(rows.set k (smJ r j)).getD k []=smJ r j:=by rw [getD_set6,if_pos ⟨rfl,by omega⟩]
 have h2:=h.turn (i:=j) hk hv (by rw [e,smJ_len];exact hj) (smN r:Int)
 rw [e,smJ_turn hj h7,List.set_set] at h2
 exact h2
end Go.Proofs.YtifoggpohlegmaaGreatDoor
