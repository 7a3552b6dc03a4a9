/-
  Joined: UnpackI, UnProgI, RdP, FpvP, SmlP, DskI, VrsO, VrsP, RowBelow.
-/
import Derived.LaidEql
import Derived.RowKitTokens
import Derived.LoopTactic
import Derived.Laws.Runes
import Derived.Laws.StructEq
import Derived.Below
import Derived.Deep.RegionWith
import Derived.Test.YtgmhhegckcionaaGreatDoorP32
import Derived.Test.YtgmhhegckcionaaGreatDoorP33
import Derived.Test.YtgmhhegckcionaaGreatDoorP39

namespace Go.Proofs.YtgmhhegckcionaaGreatDoor
set_option maxRecDepth 100000
set_option maxHeartbeats 16000000
open Go.RowKit

abbrev ofNats (zs:List Nat):List Int:=zs.map fun z:Nat=>(z:Int)


theorem numsAt_small {s:ByteArray}:∀ {zs:List Nat} {p q:Nat},NumsAt s p zs q→∀ z ∈ zs,z≤999999999
 | [],_,_,_,z,hz=>by cases hz
 | y::zs,p,q,h,z,hz=>by
  obtain ⟨k,hk,hr⟩:=h
  rcases List.mem_cons.1 hz with rfl | hz
  ·exact hk.val_le
  ·exact numsAt_small hr z hz

set_option linter.unusedVariables false
set_option linter.unusedSimpArgs false

def entZ (key:ByteArray) (zs:List Nat):E3:=(key,triples (((ofNats zs).drop 1).take (3*zs.getD 0 0)),(ofNats zs).drop (1+3*zs.getD 0 0))
def RdOk (t:ByteArray) (e:E3):Prop:=t.size≤65536∧15≤t.size∧∃ zs,Listed (t.extract 15 t.size) zs∧1≤zs.length∧1+3*zs.getD 0 0≤zs.length∧e=entZ (t.extract 0 15) zs∧entOk e=true
theorem wf_small9 {z:Int} (h:0≤z∧z≤999999999):(Lit.int .i64 z).wf=true:=by
 simp only [Lit.wf,Bool.and_eq_true,decide_eq_true_eq]
 have h1:IntKind.i64.min=-9223372036854775808:=by decide
 have h2:IntKind.i64.max=9223372036854775807:=by decide
 omega
theorem listed_small9 {s:ByteArray} {zs:List Nat} (h:Listed s zs):∀ z ∈ ofNats zs,0≤z∧z≤999999999:=by
 obtain ⟨k,_,_,hz⟩:=h
 intro z hm
 obtain ⟨y,hy,rfl⟩:=List.mem_map.1 hm
 have:=numsAt_small hz y hy
 exact ⟨by omega,by omega⟩
theorem entZ_fits {s key:ByteArray} {zs:List Nat} (h:Listed s zs) (hk:key.size≤maxLen):(entZ key zs).fits:=by
 have hs:=listed_small9 h
 refine ⟨hk,fun x hx=>?_,fun z hz=>wf_small9 (hs z (List.mem_of_mem_drop hz))⟩
 obtain ⟨m1,m2,m3⟩:=triples_mem _ x hx
 exact ⟨wf_small9 (hs _ (List.mem_of_mem_drop (List.mem_of_mem_take m1))),wf_small9 (hs _ (List.mem_of_mem_drop (List.mem_of_mem_take m2))),wf_small9 (hs _ (List.mem_of_mem_drop (List.mem_of_mem_take m3)))⟩
theorem cut15 {t:ByteArray} (h:15≤t.size):(t.extract 0 15).size=15:=by simp;omega
theorem RdOk.fits {t:ByteArray} {e:E3} (h:RdOk t e):e.fits:=by
 obtain ⟨_,h15,zs,h1,_,_,rfl,_⟩:=h
 exact entZ_fits h1 (by rw [cut15 h15];unfold maxLen;omega)


theorem agr_of14 {P Q:List (List I3)} {x:V4} (hs:shapeOk x=true) (h:∀ y ∈ lookM x,y ∉ chgI P Q):AgrS P Q x:=by
 intro k hk
 obtain ⟨l0,_⟩:=shape_parts hs
 have hb:=(shape_bounds hs).1 (x.1.getD k 0) (by simp [List.getD,List.getElem?_eq_getElem (show k<x.1.length by omega)])
 have hp:(x.1.getD k 0).toNat<7:=by omega
 have e:(((x.1.getD k 0).toNat:Nat):Int)=x.1.getD k 0:=by omega
 refine Classical.byContradiction fun hne=>?_
 have hm:itm9 (k,(x.1.getD k 0).toNat) ∈ chgI P Q:=List.mem_map.2 ⟨(k,(x.1.getD k 0).toNat),chg9_mem.2 ⟨hk,hp,hne⟩,rfl⟩
 refine h _ ?_ hm
 unfold itm9 lookM
 simp only [List.mem_cons,List.not_mem_nil,or_false]
 rcases (by omega:k=0∨k=1∨k=2) with rfl | rfl | rfl<;>omega
theorem kept_true14 {P Q:List (List I3)} (hP:ProgS P) (hq:progOk Q=true) {m:V4} (hs:shapeOk m=true) (h:tchB (entM P 18 m).2.2 (chgI P Q)=false):etB Q (entM P 18 m)=true∧etC Q (entM P 18 m)=0:=by
 have hp:=hP.1
 have hA:∀ x ∈ treeM P 18 m,AgrS P Q x:=fun x hx=>agr_of14 (tree_shape hp hs x hx) (fun y hy hc=>by
  have hm:y ∈ cmF P 18 m:=mem_cmF.2 ⟨x,hx,hy⟩
  have:tchB (entM P 18 m).2.2 (chgI P Q)=true:=List.any_eq_true.2 ⟨y,hm,decide_eq_true hc⟩
  rw [this] at h
  cases h)
 have he:=entM_agree hp hs hA
 have hroom:=small_roomM hP hs
 have hT:∀ r ∈ fullM P m,r.1 ∈ treeM P 18 m:=fullM_ind (fun x=>x ∈ treeM P 18 m) (tree_head P 18 m) (tree_closed hp 18 m hs (left18 hp m))
 have hSh:∀ x ∈ (fullM P m).map (·.1),shapeOk x=true:=fun x hx=>by
  obtain ⟨r,hr,rfl⟩:=List.mem_map.1 hx
  exact fullM_shaped hp hs r hr
 have hC:∀ x ∈ (fullM P m).map (·.1),∀ t ∈ nxM Q x,t.2 ∈ (fullM P m).map (·.1):=fun x hx t ht=>by
  have hsx:=hSh x hx
  obtain ⟨r,hr,rfl⟩:=List.mem_map.1 hx
  rw [← (hA _ (hT r hr)).nx hsx] at ht
  exact fullM_closed (by omega) r hr t ht
 have hm0:m ∈ (fullM P m).map (·.1):=List.mem_map.2 ⟨(m,0,0),List.mem_of_getElem? (fullM_head P m),rfl⟩
 have hf:leftN Q m<19:=Nat.lt_succ_of_le (left18 hq m)
 obtain ⟨k0,_,_⟩:=vis_room hC (by rw [List.length_map];omega) (fun x hx t ht=>(nx_ok hq (hSh x hx) t ht).2) 19 m ([],0) hm0 hf ⟨upR_nil,by simp⟩
 obtain ⟨r1,_,_⟩:=visT9 hq (f:=19) (st:=([],0)) hs hf ⟨rfl,by simp⟩ k0
 have ho:entOk (entM P 18 m)=true:=entM_ok hp hs
 have ht:truE Q (entM P 18 m)=true:=by
  unfold truE truR
  rw [show (entM P 18 m).1=keyT m from rfl,key_back6 hs,k0,r1,he]
  simp
 unfold etB etC
 rw [hq,ho,ht]
 exact ⟨rfl,rfl⟩
theorem fre_small14 {P:List (List I3)} (hP:ProgS P):freC P=0∧memOk (freE P)=true∧∀ e ∈ freE P,∃ s,shapeOk s=true∧e=entM P 18 s:=by
 obtain ⟨hp,h0,h1,h2⟩:=hP
 have hr:=small_room hp h0 h1 h2
 obtain ⟨k0,_,hT,_⟩:=fresh_all hp (by omega)
 have hc:freC P=0:=by unfold freC freR;rw [if_pos hp,if_pos k0]
 refine ⟨hc,?_⟩
 unfold freE
 rw [if_pos hc]
 exact hT
theorem entOk_fits14 {e:E3} (h:entOk e=true):e.fits:=by
 obtain ⟨_,h2,h3,_⟩:=entOk_parts h
 have hk:=entOk_key h
 refine ⟨by unfold maxLen;omega,fun x hx=>?_,fun z hz=>wf_small9 (by have:=riseI_itOk h3 z hz;omega)⟩
 obtain ⟨a,b,c⟩:=okB_small (riseB_okB h2 x hx)
 exact ⟨wf_small9 (by omega),wf_small9 (by omega),wf_small9 (by omega)⟩
theorem memOk_fits14 {es:List E3} (h:memOk es=true):∀ e ∈ es,e.fits:=fun e he=>entOk_fits14 ((memOk_iff.1 h).1 e he)


def smI (n:Int) (x:I3):I3:=if x.1=7 then (x.1,x.2.1,n) else x
def smN (r:List I3):Nat:=(r.take 2).length
def smR (r:List I3):List I3:=(r.take 2).map (smI (smN r))
def smJ (r:List I3) (j:Nat):List I3:=((r.take 2).take j).map (smI (smN r))++(r.take 2).drop j
theorem smN_le (r:List I3):smN r≤2:=by unfold smN;rw [List.length_take];omega
theorem smN_eq (r:List I3):smN r=min r.length 2:=by unfold smN;rw [List.length_take];omega
theorem smJ_len (r:List I3) (j:Nat):(smJ r j).length=smN r:=by unfold smJ smN;simp;omega
theorem smJ_zero (r:List I3):smJ r 0=r.take 2:=by unfold smJ;simp
theorem smJ_all {r:List I3} {j:Nat} (h:smN r≤j):smJ r j=smR r:=by
 unfold smJ smR
 unfold smN at h
 rw [List.take_of_length_le h,List.drop_of_length_le h,List.append_nil]
theorem smJ_at {r:List I3} {j:Nat} (h:j<smN r):(smJ r j).getD j (0,0,0)=(r.take 2).getD j (0,0,0):=by
 unfold smJ
 unfold smN at h
 have hl:(((r.take 2).take j).map (smI (smN r))).length=j:=by rw [List.length_map,List.length_take];omega
 simp only [List.getD]
 rw [List.getElem?_append_right (by omega),hl,Nat.sub_self,List.getElem?_drop,Nat.add_zero]
theorem smJ_succ {r:List I3} {j:Nat} (h:j<smN r):smJ r (j+1)=(smJ r j).set j (smI (smN r) ((r.take 2).getD j (0,0,0))):=by
 have h':=h
 unfold smN at h'
 have hl:(((r.take 2).take j).map (smI (smN r))).length=j:=by rw [List.length_map,List.length_take];omega
 have e:(r.take 2).getD j (0,0,0)=(r.take 2)[j]:=by simp only [List.getD,List.getElem?_eq_getElem h',Option.getD_some]
 unfold smJ
 rw [e,List.set_append_right _ _ (by omega),hl,Nat.sub_self,List.drop_eq_getElem_cons h',List.set_cons_zero,List.take_succ_eq_append_getElem h',List.map_append]
 simp
theorem smI_ok {x:I3} {n:Int} (h:okI x=true) (h1:1≤n) (h6:n≤6):okI (smI n x)=true:=by
 unfold smI
 split
 ·rename_i e
  unfold okI inB at h ⊢
  simp [e] at h ⊢
  omega
 ·exact h
theorem smI_leads {x:I3} {n k:Int} (h:k<n):leads (smI n x) k n=true:=by
 unfold smI leads
 split
 ·rename_i e
  simp only [e,if_true]
  unfold inB
  simp
  omega
 ·rfl
theorem smR_ok {r:List I3} (h:codeOk r=true):codeOk (smR r)=true:=by
 match r,h with
 | [],_=>rfl
 | [x],h =>
  have h1:okI x=true:=by
   unfold codeOk okFrom at h
   simp only [Bool.and_eq_true] at h
   exact h.2.1.1
  show codeOk [smI 1 x]=true
  unfold codeOk okFrom okFrom
  rw [smI_ok h1 (by omega) (by omega)]
  have:=smI_leads (x:=x) (n:=1) (k:=0) (by omega)
  simp only [List.length_cons,List.length_nil]
  simp [this]
 | x::y::rs,h =>
  have h1:okI x=true∧okI y=true:=by
   unfold codeOk okFrom okFrom at h
   simp only [Bool.and_eq_true] at h
   exact ⟨h.2.1.1,h.2.2.1.1⟩
  show codeOk [smI 2 x,smI 2 y]=true
  unfold codeOk okFrom okFrom okFrom
  rw [smI_ok h1.1 (by omega) (by omega),smI_ok h1.2 (by omega) (by omega)]
  have a:=smI_leads (x:=x) (n:=2) (k:=0) (by omega)
  have b:=smI_leads (x:=y) (n:=2) (k:=1) (by omega)
  simp only [List.length_cons,List.length_nil]
  simp [a,b]
def smK (rows:List (List I3)) (k:Nat):List (List I3):=(rows.take k).map smR++rows.drop k
theorem smK_len (rows:List (List I3)) (k:Nat):(smK rows k).length=rows.length:=by unfold smK;simp;omega
theorem smK_zero (rows:List (List I3)):smK rows 0=rows:=by unfold smK;simp
theorem smK_at {rows:List (List I3)} {k:Nat} (h:k<rows.length):(smK rows k).getD k []=rows.getD k []:=by
 have hl:((rows.take k).map smR).length=k:=by rw [List.length_map,List.length_take];omega
 unfold smK
 simp only [List.getD]
 rw [List.getElem?_append_right (by omega),hl,Nat.sub_self,List.getElem?_drop,Nat.add_zero]
theorem smK_succ {rows:List (List I3)} {k:Nat} (h:k<rows.length):smK rows (k+1)=(smK rows k).set k (smR (rows.getD k [])):=by
 have hl:((rows.take k).map smR).length=k:=by rw [List.length_map,List.length_take];omega
 unfold smK
 rw [List.set_append_right _ _ (by omega),hl,Nat.sub_self,List.drop_eq_getElem_cons h,List.set_cons_zero,List.take_succ_eq_append_getElem h,List.map_append]
 simp [List.getD,h]
theorem smK_all {rows:List (List I3)} (h:progOk rows=true):ProgS (smK rows 3):=by
 unfold progOk at h
 simp only [Bool.and_eq_true,decide_eq_true_eq,List.all_eq_true] at h
 have e:smK rows 3=rows.map smR:=by
  unfold smK
  rw [List.take_of_length_le (by omega),List.drop_of_length_le (by omega),List.append_nil]
 have hs:∀ k,(codeM (smK rows 3) k).length≤2:=fun k=>by
  rw [e]
  unfold codeM
  simp only [List.getD,List.getElem?_map]
  cases rows[k]? with
  | none=>simp
  | some r=>simp [smR,List.length_take];omega
 refine ⟨?_,Nat.le_trans (hs 0) (by omega),Nat.le_trans (hs 1) (by omega),hs 2⟩
 unfold progOk
 simp only [Bool.and_eq_true,decide_eq_true_eq,List.all_eq_true]
 rw [e]
 refine ⟨by simpa using h.1,fun r hr=>?_⟩
 obtain ⟨q,hq,rfl⟩:=List.mem_map.1 hr
 exact smR_ok (h.2 q hq)

theorem flat_setB:∀ (xs:List I3) (i:Nat) (z:Int),i<xs.length→(flat xs).set (i*3+2) (.int .i64 z)=flat (xs.set i ((xs.getD i (0,0,0)).1,(xs.getD i (0,0,0)).2.1,z))
 | [],i,z,h=>by simp at h
 | x::xs,0,z,_=>by simp [flat,I3.cells]
 | x::xs,i+1,z,h=>by
  have ih:=flat_setB xs i z (by simpa using h)
  have e2:(i+1)*3+2=(i*3+2)+1+1+1:=by omega
  simp only [flat,List.flatMap_cons,I3.cells,List.cons_append,List.nil_append] at ih ⊢
  rw [e2]
  simp only [List.set_cons_succ,List.flatMap_cons,I3.cells,List.cons_append,List.nil_append]
  rw [ih]
  simp
theorem own_ne_own6 {w:World} {B B' e e' s s' n n' g c:Nat} {v:Value} {xs ys:List Value} (h:w.ownsRow B e s v n xs) (h':w.ownsRow B' e' s' (.slice (some ⟨g,0,none⟩) n' c) n' ys) (he:e≠e'):v.ownBlock≠some g:=by
 rcases h'.2 with ⟨q,_⟩ | ⟨g',c',cur',q,_,hh',_⟩
 ·cases q
 ·cases q
  rcases h.2 with ⟨q,_⟩ | ⟨g2,c2,cur2,q,_,hh,_⟩
  ·rw [q];simp [Value.ownBlock]
  ·rw [q]
   simp only [Value.ownBlock,ne_eq,Option.some.injEq]
   rintro rfl
   rw [hh] at hh'
   simp at hh'
   exact he hh'.2
theorem getD_set6 {α:Type} (l:List α) (k t:Nat) (x d:α):(l.set k x).getD t d=if t=k∧k<l.length then x else l.getD t d:=by
 simp only [List.getD,List.getElem?_set]
 by_cases h:k=t
 ·subst h
  by_cases h2:k<l.length
  ·simp [h2]
  ·simp [h2]
 ·rw [if_neg h,if_neg (fun q=>h q.1.symm)]
theorem OwnRows.put {w:World} {B:Nat} {vs:List Value} {rows:List (List I3)} (h:OwnRows w B vs rows) {k:Nat} (hk:k<rows.length) {nv:Value} {xs:List I3} (hn:w.ownsRow B 122 3 nv xs.length (flat xs)) (hd:∀ t,t<rows.length→t≠k→nv.ownBlock=none∨nv.ownBlock≠(vs.getD t undef).ownBlock):OwnRows w B (vs.set k nv) (rows.set k xs):=by
 obtain ⟨h1,h2,h3⟩:=h
 refine ⟨by simp [h1],fun t ht=>?_,fun t t' ht ht' hne=>?_⟩
 ·rw [List.length_set] at ht
  rw [getD_set6,getD_set6]
  by_cases e:t=k
  ·rw [if_pos ⟨e,by omega⟩,if_pos ⟨e,hk⟩];exact hn
  ·rw [if_neg (fun q=>e q.1),if_neg (fun q=>e q.1)];exact h2 t ht
 ·rw [List.length_set] at ht ht'
  rw [getD_set6,getD_set6]
  by_cases e:t=k
  ·rw [if_pos ⟨e,by omega⟩,if_neg (fun q=>hne (e.trans q.1.symm))]
   exact hd t' ht' (fun q=>hne (e.trans q.symm))
  ·rw [if_neg (fun q=>e q.1)]
   by_cases e':t'=k
   ·rw [if_pos ⟨e',by omega⟩]
    rcases hd t ht e with q | q
    ·rw [q]
     cases hb:(vs.getD t undef).ownBlock with
     | none=>exact .inl rfl
     | some x=>exact .inr (by simp)
    ·exact .inr (fun x=>q x.symm)
   ·rw [if_neg (fun q=>e' q.1)];exact h3 t t' ht ht' hne
theorem OwnRows.grown6 {w w':World} {B:Nat} {vs:List Value} {rows:List (List I3)} {g:Nat} (h:OwnRows w B vs rows) (hg:w.grownBy w' (some g)) (hne:∀ t,t<rows.length→(vs.getD t undef).ownBlock≠some g):OwnRows w' B vs rows:=
 ⟨h.1,fun t ht=>(h.2.1 t ht).kept hg (.inr (hne t ht)),h.2.2⟩
def ProgAt (w:World) (B g c:Nat) (vs:List Value) (rows:List (List I3)):Prop:=w.ownsRow B 91 1 (.slice (some ⟨g,0,none⟩) 3 c) 3 vs∧OwnRows w B vs rows∧rows.length=3
theorem ProgAt.below {w w':World} {B g c:Nat} {vs:List Value} {rows:List (List I3)} (h:ProgAt w B g c vs rows) (hb:Below w.heap.size w w'):ProgAt w' B g c vs rows:=⟨owns_below h.1 hb,h.2.1.below hb,h.2.2⟩
theorem ProgAt.cell {w:World} {B g c:Nat} {vs:List Value} {rows:List (List I3)} (h:ProgAt w B g c vs rows) {k:Nat} (hk:k<3):w.cell? ⟨g,k,none⟩=some (vs.getD k undef):=by
 rw [h.1.cellAt k (by omega)]
 have:=h.2.1.1
 have:=h.2.2
 simp [List.getD,show k<vs.length by omega]
theorem ProgAt.own {w:World} {B g c:Nat} {vs:List Value} {rows:List (List I3)} (h:ProgAt w B g c vs rows):OwnProg w B (.slice (some ⟨g,0,none⟩) 3 c) rows:=by
 obtain ⟨h1,h2,h3⟩:=h
 exact ⟨vs,by rw [h3];exact h1,h2⟩
theorem ProgAt.of {w:World} {B:Nat} {v:Value} {rows:List (List I3)} (h:OwnProg w B v rows) (h3:rows.length=3):∃ g c vs,v=.slice (some ⟨g,0,none⟩) 3 c∧ProgAt w B g c vs rows:=by
 obtain ⟨vs,h1,h2⟩:=h
 rw [h3] at h1
 rcases h1.2 with ⟨q,q0⟩ | ⟨g,c,cur,q,_⟩
 ·omega
 ·subst q
  exact ⟨g,c,vs,rfl,h1,h2,h3⟩
theorem ProgAt.lay {w:World} {B g c:Nat} {vs:List Value} {rows:List (List I3)} (h:ProgAt w B g c vs rows) {k:Nat} (hk:k<3) {nv:Value} {xs:List I3} (hn:w.ownsRow B 122 3 nv xs.length (flat xs)) (hd:∀ t,t<3→nv.ownBlock=none∨nv.ownBlock≠(vs.getD t undef).ownBlock):ProgAt (w.setCell ⟨g,k,none⟩ nv) B g c (vs.set k nv) (rows.set k xs):=by
 obtain ⟨h1,h2,h3⟩:=h
 have hg:=(h1.stored k nv).2
 refine ⟨(h1.stored k nv).1,(h2.put (by omega) hn (fun t ht _=>hd t (by omega))).grown6 hg (fun t ht=>?_),by simp [h3]⟩
 rw [getD_set6]
 split
 ·exact own_ne_own6 hn h1 (by decide)
 ·rw [List.length_set] at ht
  exact own_ne_own6 (h2.2.1 t ht) h1 (by decide)
theorem ProgAt.turn {w:World} {B g c b n cc:Nat} {vs:List Value} {rows:List (List I3)} (h:ProgAt w B g c vs rows) {k i:Nat} (hk:k<3) (hv:vs.getD k undef=.slice (some ⟨b,0,none⟩) n cc) (hi:i<(rows.getD k []).length) (z:Int) :
  ProgAt (w.setCell ⟨b,i*3+2,none⟩ (.int .i64 z)) B g c vs (rows.set k ((rows.getD k []).set i (((rows.getD k []).getD i (0,0,0)).1,((rows.getD k []).getD i (0,0,0)).2.1,z))):=by
 obtain ⟨h1,h2,h3⟩:=h
 have hr:=h2.2.1 k (by omega)
 rw [hv] at hr
 have hn:n=(rows.getD k []).length:=by
  rcases hr.2 with ⟨q,_⟩ | ⟨g',c',cur',q,_⟩
  ·cases q
  ·cases q;rfl
 subst hn
 obtain ⟨s1,s2⟩:=hr.stored (i*3+2) (.int .i64 z)
 rw [flat_setB _ _ _ hi] at s1
 have hbg:b≠g:=fun e=>own_ne_own6 hr h1 (by decide) (by simp [Value.ownBlock,e])
 have hvs:vs.length=3:=by rw [h2.1];exact h3
 refine ⟨h1.kept s2 (.inr (by simp [Value.ownBlock];omega)),⟨by simp [h2.1],fun t ht=>?_,fun t t' ht ht' hne=>h2.2.2 t t' (by simpa using ht) (by simpa using ht') hne⟩,by simp [h3]⟩
 rw [List.length_set] at ht
 rw [getD_set6]
 by_cases e:t=k
 ·rw [if_pos ⟨e,by omega⟩,e,hv,List.length_set]
  exact s1
 ·rw [if_neg (fun q=>e q.1)]
  refine (h2.2.1 t ht).kept s2 (.inr ?_)
  rcases h2.2.2 t k ht (by omega) e with q | q
  ·rw [q];simp
  ·rw [hv] at q;exact q
theorem flat_one7 (xs:List I3):∀ u ∈ flat xs,u.oneCell'=true:=fun u hu=>by
 unfold flat at hu
 obtain ⟨x,_,hx⟩:=List.mem_flatMap.1 hu
 simp [I3.cells] at hx
 rcases hx with rfl | rfl | rfl<;>rfl
theorem flat_get7:∀ (xs:List I3) (j:Nat),j<xs.length→(flat xs)[j*3]?=some (.int .i64 (xs.getD j (0,0,0)).1)
 | [],j,h=>by simp at h
 | x::xs,0,_=>by simp [flat,I3.cells]
 | x::xs,j+1,h=>by
  have ih:=flat_get7 xs j (by simpa using h)
  have e2:(j+1)*3=j*3+1+1+1:=by omega
  simp only [flat,List.flatMap_cons,I3.cells,List.cons_append,List.nil_append] at ih ⊢
  rw [e2]
  simp only [List.getElem?_cons_succ]
  rw [ih]
  simp
theorem own_news7 {w:World} {B b n c:Nat} {r:List I3} (h:w.ownsRow B 122 3 (.slice (some ⟨b,0,none⟩) n c) n (flat r)):∀ j u,(flat (r.take 2))[j]?=some u→w.cell? ((⟨b,0,none⟩:Addr).add j)=some u:=fun j u hj=>by
 have e:flat r=flat (r.take 2)++flat (r.drop 2):=by unfold flat;rw [← List.flatMap_append,List.take_append_drop]
 have hl:=(List.getElem?_eq_some_iff.1 hj).1
 have h1:(flat r)[j]?=some u:=by rw [e,List.getElem?_append_left hl];exact hj
 have h2:=(List.getElem?_eq_some_iff.1 h1).1
 have h3:=h.1
 have h4:=h.cellAt j (by omega)
 rw [h1] at h4
 by_cases e0:j=0
 ·subst e0;simpa [Addr.add] using h4
 ·simpa [Addr.add,e0] using h4
theorem smJ_same {r:List I3} {j:Nat} (h:j<smN r) (h7:((r.take 2).getD j (0,0,0)).1≠7):smJ r (j+1)=smJ r j:=by
 rw [smJ_succ h]
 have e:smI (smN r) ((r.take 2).getD j (0,0,0))=(smJ r j).getD j (0,0,0):=by rw [smJ_at h];unfold smI;rw [if_neg h7]
 rw [e]
 have hl:j<(smJ r j).length:=by rw [smJ_len];exact h
 simp only [List.getD,List.getElem?_eq_getElem hl,Option.getD_some]
 exact List.set_getElem_self hl
theorem smJ_turn {r:List I3} {j:Nat} (h:j<smN r) (h7:((r.take 2).getD j (0,0,0)).1=7):(smJ r j).set j (((smJ r j).getD j (0,0,0)).1,((smJ r j).getD j (0,0,0)).2.1,(smN r:Int))=smJ r (j+1):=by
 rw [smJ_succ h,smJ_at h]
 unfold smI
 rw [if_pos h7]
theorem ProgAt.low {w w':World} {B g c R:Nat} {vs:List Value} {rows:List (List I3)} (h:ProgAt w B g c vs rows) (hg:w.grownBy w' (some R)) (hR:R<B):ProgAt w' B g c vs rows:=by
 obtain ⟨h1,h2,h3⟩:=h
 refine ⟨h1.kept hg (.inr fun e=>?_),h2.grown6 hg (fun t ht e=>?_),h3⟩
 ·have:=(h1.lt R e).1;omega
 ·have:=((h2.2.1 t ht).lt R e).1;omega
theorem own_new7 {w:World} {B N n:Nat} {v:Value} {xs:List Value} (h:w.ownsRow B 122 3 v n xs) (hb:v.ownBlock=some N):∃ c,v=.slice (some ⟨N,0,none⟩) n c:=by
 rcases h.2 with ⟨q,_⟩ | ⟨g,c,cur,q,_⟩
 ·rw [q] at hb;cases hb
 ·subst q;simp [Value.ownBlock] at hb;subst hb;exact ⟨c,rfl⟩
theorem ProgAt.apart {w:World} {B g c N t:Nat} {vs:List Value} {rows:List (List I3)} (h:ProgAt w B g c vs rows) (hN:w.heap.size≤N) (ht:t<3):(some N:Option Nat)=none∨some N≠(vs.getD t undef).ownBlock:=by
 obtain ⟨h1,h2,h3⟩:=h
 exact .inr fun e=>by have:=((h2.2.1 t (by omega)).lt N e.symm).2;omega
theorem ProgAt.row {w:World} {B g c:Nat} {vs:List Value} {rows:List (List I3)} {k:Nat} {r:List I3} (h:ProgAt w B g c vs (rows.set k r)) (hk:k<rows.length):w.ownsRow B 122 3 (vs.getD k undef) r.length (flat r):=by
 have:=h.2.1.2.1 k (by rw [List.length_set];exact hk)
 rwa [getD_set6,if_pos ⟨rfl,hk⟩] at this
theorem ProgAt.turn7 {w:World} {B g c b n cc:Nat} {vs:List Value} {rows:List (List I3)} {k j:Nat} {r:List I3} (h:ProgAt w B g c vs (rows.set k (smJ r j))) (hk:k<3) (hl:rows.length=3) (hv:vs.getD k undef=.slice (some ⟨b,0,none⟩) n cc) (hj:j<smN r) (h7:((r.take 2).getD j (0,0,0)).1=7) :
  ProgAt (w.setCell ⟨b,j*3+2,none⟩ (.int .i64 (smN r:Int))) B g c vs (rows.set k (smJ r (j+1))):=by
 have e:(rows.set k (smJ r j)).getD k []=smJ r j:=by rw [getD_set6,if_pos ⟨rfl,by omega⟩]
 have h2:=h.turn (i:=j) hk hv (by rw [e,smJ_len];exact hj) (smN r:Int)
 rw [e,smJ_turn hj h7,List.set_set] at h2
 exact h2


theorem belD {a b c:World} (h:Below a.heap.size a b) (k:Below b.heap.size b c):Below a.heap.size a c:=h.trans (k.mono h.size)
theorem bel_new (w:World) (o:Obj):Below w.heap.size w (w.alloc o):=(Below.refl _ w).alloc (Nat.le_refl _) _


theorem own_news14 {w:World} {B e s n c:Nat} {a:Option Addr} {xs:List Value} (h:w.ownsRow B e s (.slice a n c) n xs):∀ ad,a=some ad→∀ j u,xs[j]?=some u→w.cell? (ad.add j)=some u:=by
 rintro ad rfl j u hj
 have hl:=(List.getElem?_eq_some_iff.1 hj).1
 have hc:∃ g,ad=⟨g,0,none⟩:=by
  rcases h.2 with ⟨q,_⟩ | ⟨g,c',cur,q,_⟩
  ·cases q
  ·injection q with q
   injection q with q
   exact ⟨g,q⟩
 obtain ⟨g,rfl⟩:=hc
 have h4:=h.cellAt j (by rw [h.1] at hl;exact hl)
 rw [hj] at h4
 by_cases e0:j=0
 ·subst e0;simpa [Addr.add] using h4
 ·simpa [Addr.add,e0] using h4
theorem own_no14 {w:World} {B e s n c:Nat} {a:Option Addr} {xs:List Value} (h:w.ownsRow B e s (.slice a n c) n xs):a=none→n=0∧c=0:=by
 rintro rfl
 rcases h.2 with ⟨q,h0⟩ | ⟨g,c',cur,q,_⟩
 ·injection q with _ _ q
  exact ⟨h0,q⟩
 ·cases q
theorem take_snoc14 {rows:List (List I3)} {k:Nat} (h:k<rows.length):rows.take (k+1)=rows.take k++[rows.getD k []]:=by
 rw [List.take_succ_eq_append_getElem h]
 simp [List.getD,List.getElem?_eq_getElem h]

theorem l02Own_is (B0 g c:Nat) (vs:List Value) (rows:List (List I3)) (w:World) (h:ProgAt w B0 g c vs rows) (hl:∀ r ∈ rows,r.length≤6) :
  Calls Tryz.prog 54 #[.agg #[.slice (some ⟨g,0,none⟩) 3 c]] w fun e w'=>(∃ v,e=.returned (.agg #[v])∧OwnProg w' w.heap.size v rows)∧Below w.heap.size w w':=by
 obtain ⟨i0,hi,hz0,hz1,hz2⟩:=info_parts info_instr
 obtain ⟨j0,hj,hy0,hy1,hy2⟩:=info_parts info_instrs
 have pX:=(Blk.new w 25 [.slice (some ⟨g,0,none⟩) 3 c]).below (bel_new _ (.cells #[.slice none 0 0] 25))
 have pR:=Blk.new (w.alloc (.cells #[.slice (some ⟨g,0,none⟩) 3 c] 25)) 25 [.slice none 0 0]
 have bw:=belD (bel_new w (.cells #[.slice (some ⟨g,0,none⟩) 3 c] 25)) (bel_new _ (.cells #[.slice none 0 0] 25))
 have hs1:(w.alloc (.cells #[.slice (some ⟨g,0,none⟩) 3 c] 25)).heap.size=w.heap.size+1:=by simp
 have hs2:((w.alloc (.cells #[.slice (some ⟨g,0,none⟩) 3 c] 25)).alloc (.cells #[.slice none 0 0] 25)).heap.size=w.heap.size+2:=by simp
 rw [hs1] at pR
 replace h:=h.below bw
 have h3:=h.2.2
 simp only [List.toArray] at pX pR bw h hs2
 go_enter Tryz.func54,Tryz.ntmps54
 go_wp2
 generalize (w.alloc (.cells #[.slice (some ⟨g,0,none⟩) 3 c] 25)).alloc (.cells #[.slice none 0 0] 25)=U at *
 have hE:=empty_n U 91 1 U.heap.size (Nat.le_refl _)
 rw [hs2] at hE
 go_loopw [3,4] (fun sv sk wr=>∃ (k:Nat) (us:List Value),k≤3∧sk=.int .i64 k∧RowsOwn wr (w.heap.size+2) k us (rows.take k)∧wr.ownsRow (w.heap.size+2) 91 1 sv k us∧Below (w.heap.size+2) U wr) (fun _ sk _=>3 - (intOf sk).toNat)
 case atStart=>exact ⟨0,[],by omega,rfl,⟨fun t ht=>by omega,fun t _ ht=>by omega⟩,hE,by rw [← hs2];exact bel_new U _⟩
 case round =>
  clear hE
  obtain ⟨k,us,hk,rfl,hR,hO,hb⟩:=hrel
  have hbU:Below U.heap.size U wr:=by rw [hs2];exact hb
  have cX:=(pX.below hbU).cell 0
  simp only [List.getElem?_cons_zero] at cX
  have hwr:w.heap.size+2≤wr.heap.size:=by have:=hbU.size;omega
  by_cases hlt:k<3
  ·have hlt2:(k:Int)<3:=by omega
   have hk0:(0:Int)≤(k:Int):=by omega
   have hP:=h.below hbU
   have hrow:=hP.2.1.2.1 k (by omega)
   have cK:=hP.cell hlt
   have hrl:(rows.getD k []).length≤6:=hl _ (by simp [List.getD,List.getElem?_eq_getElem (show k<rows.length by omega)])
   have htk:=take_snoc14 (show k<rows.length by omega)
   generalize rows.getD k []=r at *
   obtain ⟨ak,ck,hvk⟩:=slice8 hrow
   rw [hvk] at hrow cK
   have no1:=own_no14 hrow
   have hE:=empty_n wr 122 3 wr.heap.size (Nat.le_refl _)
   obtain ⟨nk,hnk⟩:∃ nk,nk=r.length:=⟨_,rfl⟩
   rw [← hnk] at hrow cK no1 hrl
   have hgl:Hid (vs.getD k undef=.slice ak nk ck):=by rw [hnk];exact hvk
   have hfl:(flat r).length=nk*3:=by rw [flat_length,hnk]
   have HN:Hid (nk=r.length):=hnk
   clear hvk hP hnk
   have cXE:=cells_kept (bel_new wr (.cells #[] 122)) _ _ cX
   have cKE:=cells_kept (bel_new wr (.cells #[] 122)) _ _ cK
   go_wp2_with (at_builtin;go_loud (refine wpList_app9 rfl _ _ 91 rfl wr.heap.size 122 i0 (.agg #[.int .i64 0,.int .i64 0,.int .i64 0]) 3 24 Tryz.underlying91 hi hz0 hz1 hz2 rfl (by decide) _ _ _ rfl hE ak nk ck rfl no1 (flat r) hfl (own_news14 (hrow.alloc _)) (flat_one7 r) ?c3 ?c4 ?c5 ?_))
   case c3=>unfold maxLen;omega
   case c4=>omega
   case c5=>simp
   intro v9 V0 hown hgrow _
   have q9:V0.ownsRow wr.heap.size 122 3 v9 nk (flat r):=by simpa using hown
   have bV:Below wr.heap.size wr V0:=((Below.refl _ wr).alloc (Nat.le_refl _) _).grown hgrow (by simp) (fun i hi=>(hE.lt _ hi).1)
   obtain ⟨a9,c9,rfl⟩:=slice8 q9
   have hR1:=hR.below bV
   have hO1:=owns_below hO bV
   have hb1:=hb.trans (bV.mono hwr)
   have hV0:w.heap.size+2≤V0.heap.size:=Nat.le_trans hwr bV.size
   clear hown hgrow hE hrow cK no1 cXE cKE
   go_wp2_with (at_builtin;refine wpList_append_own _ rfl _ _ 23 rfl (w.heap.size+2) 91 j0 (.slice none 0 0) 1 24 Tryz.underlying23 hj hy0 hy1 hy2 rfl (by decide) _ _ _ rfl (hO1.alloc _) ⟨V0.heap.size,0,none⟩ 1 1 [.slice a9 nk c9] rfl rfl (one_cell_v _ _ _) (one_slv _ _ _) ?c3 ?c4 ?c5 ?_)
   case c3=>unfold maxLen;omega
   case c4=>omega
   case c5=>simp;omega
   intro v8 V1 hown8 hgrow8 _
   have hO2:=hO1.alloc (.cells #[.slice a9 nk c9] 91)
   have q9':=(q9.alloc (.cells #[.slice a9 nk c9] 91)).kept hgrow8 (owns_ne (q9.alloc _) hO2 (by decide))
   have hR2:RowsOwn V1 (w.heap.size+2) k us (rows.take k):=⟨fun t ht=>((hR1.1 t ht).alloc _).kept hgrow8 (owns_ne ((hR1.1 t ht).alloc _) hO2 (by decide)),hR1.2⟩
   have hul:us.length=k:=by have:=hO1.1;omega
   have hnk9:nk=r.length:=HN.out
   have hpush:=hR2.push' (s0:=wr.heap.size) hul (show (rows.take k).length=k by rw [List.length_take];omega) (fun t x ht hx=>((hR.1 t ht).lt x hx).2) (r:=r) (sv:=.slice a9 nk c9) (by rw [← hnk9];exact q9') hwr
   rw [← htk] at hpush
   have hb2:Below (w.heap.size+2) U V1:=(hb1.alloc hV0 _).grown hgrow8 (by simp;omega) (fun i hi=>(hO1.lt _ hi).1)
   clear q9 q9' hR hR1 hR2 hO hO1 hO2 hgrow8 hb hb1 bV HN hnk9 hfl htk
   go_wp2
   go_roundw
   case rel=>exact ⟨k+1,_,by omega,by go_num,hpush,hown8,hb2⟩
   case measure=>simp [intOf];omega
  ·obtain rfl:k=3:=by omega
   have pR2:=pR.below hbU
   obtain ⟨as0,cs0,rfl⟩:=slice8 hO
   have hP8:OwnProg wr (w.heap.size+2) (.slice as0 3 cs0) rows:=by
    rw [show rows.take 3=rows from by rw [← h3];exact List.take_length] at hR
    exact ⟨us,by rw [h3];exact hO,by have:=hO.1;omega,fun t ht=>hR.1 t (by omega),fun t t' ht ht' hne=>hR.2 t t' (by omega) (by omega) hne⟩
   have r0:=pR2.cell 0
   have fr0:=pR2.frozen 0
   simp only [List.getElem?_cons_zero] at r0
   have pZ:=pR2.set 0 (.slice as0 3 cs0)
   simp only [List.set_cons_zero] at pZ
   have z0:=pZ.cell 0
   simp only [List.getElem?_cons_zero] at z0
   have bz:=(belD bw hbU).setCell (p:=⟨w.heap.size+1,0,none⟩) (Nat.le_succ _) (.slice as0 3 cs0)
   have hP5:OwnProg (wr.setCell ⟨w.heap.size+1,0,none⟩ (.slice as0 3 cs0)) w.heap.size (.slice as0 3 cs0) rows:=OwnProg.lower (OwnProg.low hP8 (show w.heap.size+1<w.heap.size+2 by omega) _) (by omega)
   clear hR hO pR pR2 pX hP8 hb
   go_wp2
   refine bodyPost_ret (by simp [results,Tryz.results54,go_sem,z0];try rfl) rfl ?_
   exact ⟨⟨_,rfl,hP5⟩,bz⟩


theorem flat_set14:∀ (xs:List I3) (i:Nat) (x:I3),i<xs.length→(((flat xs).set (i*3) (.int .i64 x.1)).set (i*3+1) (.int .i64 x.2.1)).set (i*3+2) (.int .i64 x.2.2)=flat (xs.set i x)
 | [],i,z,h=>by simp at h
 | y::xs,0,z,_=>by simp [flat,I3.cells]
 | y::xs,i+1,z,h=>by
  have ih:=flat_set14 xs i z (by simpa using h)
  have e0:(i+1)*3=i*3+1+1+1:=by omega
  have e1:(i+1)*3+1=(i*3+1)+1+1+1:=by omega
  have e2:(i+1)*3+2=(i*3+2)+1+1+1:=by omega
  simp only [flat,List.flatMap_cons,I3.cells,List.cons_append,List.nil_append] at ih ⊢
  rw [e1,e2,e0]
  simp only [List.set_cons_succ,List.flatMap_cons,I3.cells,List.cons_append,List.nil_append]
  first | (rw [ih];done) | (rw [ih];simp) | simp [ih]
theorem ProgAt.rowset {w W:World} {B g c:Nat} {vs:List Value} {rows:List (List I3)} (h:ProgAt w B g c vs rows) {k b n cc:Nat} (hk:k<3) (hv:vs.getD k undef=.slice (some ⟨b,0,none⟩) n cc) {xs:List I3}
  (hr:W.ownsRow B 122 3 (.slice (some ⟨b,0,none⟩) n cc) xs.length (flat xs)) (s2:w.grownBy W (some b)):ProgAt W B g c vs (rows.set k xs):=by
 obtain ⟨h1,h2,h3⟩:=h
 have hbg:b≠g:=fun e=>own_ne_own6 (h2.2.1 k (by omega)) h1 (by decide) (by rw [hv];simp [Value.ownBlock,e])
 refine ⟨h1.kept s2 (.inr (by simp [Value.ownBlock];omega)),⟨by simp [h2.1],fun t ht=>?_,fun t t' ht ht' hne=>h2.2.2 t t' (by simpa using ht) (by simpa using ht') hne⟩,by simp [h3]⟩
 rw [List.length_set] at ht
 rw [getD_set6]
 by_cases e:t=k
 ·rw [if_pos ⟨e,by omega⟩,e,hv]
  exact hr
 ·rw [if_neg (fun q=>e q.1)]
  refine (h2.2.1 t ht).kept s2 (.inr ?_)
  rcases h2.2.2 t k ht (by omega) e with q | q
  ·rw [q];simp
  ·rw [hv] at q;exact q
theorem own_poke14 {w:World} {B b n cc:Nat} {r:List I3} (h:w.ownsRow B 122 3 (.slice (some ⟨b,0,none⟩) n cc) r.length (flat r)) {i:Nat} (hi:i<r.length) (x:I3) :
  (((w.setCell ⟨b,i*3,none⟩ (.int .i64 x.1)).setCell ⟨b,i*3+1,none⟩ (.int .i64 x.2.1)).setCell ⟨b,i*3+2,none⟩ (.int .i64 x.2.2)).ownsRow B 122 3 (.slice (some ⟨b,0,none⟩) n cc) (r.set i x).length (flat (r.set i x)) ∧
  w.grownBy (((w.setCell ⟨b,i*3,none⟩ (.int .i64 x.1)).setCell ⟨b,i*3+1,none⟩ (.int .i64 x.2.1)).setCell ⟨b,i*3+2,none⟩ (.int .i64 x.2.2)) (some b):=by
 have hn:n=r.length:=by
  rcases h.2 with ⟨q,_⟩ | ⟨g',c',cur',q,_⟩
  ·cases q
  ·cases q;rfl
 subst hn
 obtain ⟨a1,a2⟩:=h.stored (i*3) (.int .i64 x.1)
 obtain ⟨b1,b2⟩:=a1.stored (i*3+1) (.int .i64 x.2.1)
 obtain ⟨c1,c2⟩:=b1.stored (i*3+2) (.int .i64 x.2.2)
 rw [flat_set14 _ _ _ hi] at c1
 refine ⟨by rw [List.length_set];exact c1,(a2.trans b2).trans c2⟩
theorem ProgAt.lay14 {w:World} {B g c:Nat} {vs:List Value} {rows:List (List I3)} (h:ProgAt w B g c vs rows) {k:Nat} (hk:k<3) {nv:Value} {xs:List I3} (hn:w.ownsRow B 122 3 nv xs.length (flat xs)) (hd:∀ t,t<3→t≠k→nv.ownBlock=none∨nv.ownBlock≠(vs.getD t undef).ownBlock):ProgAt (w.setCell ⟨g,k,none⟩ nv) B g c (vs.set k nv) (rows.set k xs)∧w.grownBy (w.setCell ⟨g,k,none⟩ nv) (some g):=by
 obtain ⟨h1,h2,h3⟩:=h
 have hg:=(h1.stored k nv).2
 refine ⟨⟨(h1.stored k nv).1,(h2.put (by omega) hn (fun t ht hne=>hd t (by omega) hne)).grown6 hg (fun t ht=>?_),by simp [h3]⟩,hg⟩
 rw [getD_set6]
 split
 ·exact own_ne_own6 hn h1 (by decide)
 ·rw [List.length_set] at ht
  exact own_ne_own6 (h2.2.1 t ht) h1 (by decide)
theorem ProgAt.beside14 {w W:World} {B g c:Nat} {vs:List Value} {rows:List (List I3)} (h:ProgAt w B g c vs rows) {k:Nat} (hk:k<3) (hg:w.grownBy W (vs.getD k undef).ownBlock) {v':Value} {xs:List I3} (hn:W.ownsRow B 122 3 v' xs.length (flat xs)) (hb:v'.ownBlock=(vs.getD k undef).ownBlock∨v'.ownBlock=some w.heap.size) :
  W.ownsRow B 91 1 (.slice (some ⟨g,0,none⟩) 3 c) 3 vs∧ProgAt (W.setCell ⟨g,k,none⟩ v') B g c (vs.set k v') (rows.set k xs)∧W.grownBy (W.setCell ⟨g,k,none⟩ v') (some g):=by
 obtain ⟨h1,h2,h3⟩:=h
 have hkr:=h2.2.1 k (by omega)
 have hgk:(vs.getD k undef).ownBlock≠some g:=own_ne_own6 hkr h1 (by decide)
 have h1W:=h1.kept hg (.inr (by simp only [Value.ownBlock];exact fun e=>hgk e.symm))
 have hoth:∀ t,t<3→t≠k→W.ownsRow B 122 3 (vs.getD t undef) (rows.getD t []).length (flat (rows.getD t [])):=fun t ht hne=>by
  refine (h2.2.1 t (by omega)).kept hg ?_
  rcases h2.2.2 t k (by omega) (by omega) hne with q | q
  ·exact .inl q
  ·exact .inr q
 have hdis:∀ t,t<3→t≠k→v'.ownBlock=none∨v'.ownBlock≠(vs.getD t undef).ownBlock:=fun t ht hne=>by
  rcases hb with q | q
  ·rw [q]
   exact h2.2.2 k t (by omega) (by omega) (fun e=>hne e.symm)
  ·rw [q]
   refine .inr (fun e=>?_)
   have:=((h2.2.1 t (by omega)).lt _ e.symm).2
   omega
 have hst:=h1W.stored k v'
 refine ⟨h1W,⟨hst.1,⟨by simp [h2.1],fun t ht=>?_,fun t t' ht ht' hne=>?_⟩,by simp [h3]⟩,hst.2⟩
 ·rw [List.length_set] at ht
  rw [getD_set6,getD_set6]
  by_cases e:t=k
  ·rw [if_pos ⟨e,by rw [h2.1];omega⟩,if_pos ⟨e,by omega⟩]
   exact hn.kept hst.2 (.inr (own_ne_own6 hn h1W (by decide)))
  ·rw [if_neg (fun q=>e q.1),if_neg (fun q=>e q.1)]
   exact (hoth t (by omega) e).kept hst.2 (.inr (own_ne_own6 (hoth t (by omega) e) h1W (by decide)))
 ·rw [List.length_set] at ht ht'
  rw [getD_set6,getD_set6]
  by_cases e:t=k
  ·rw [if_pos ⟨e,by rw [h2.1];omega⟩,if_neg (fun q=>hne (e.trans q.1.symm))]
   exact hdis t' (by omega) (fun q=>hne (e.trans q.symm))
  ·rw [if_neg (fun q=>e q.1)]
   by_cases e':t'=k
   ·rw [if_pos ⟨e',by rw [h2.1];omega⟩]
    rcases hdis t (by omega) e with q | q
    ·rw [q]
     cases hbb:(vs.getD t undef).ownBlock with
     | none=>exact .inl rfl
     | some x=>exact .inr (by simp)
    ·exact .inr (fun x=>q x.symm)
   ·rw [if_neg (fun q=>e' q.1)]
    exact h2.2.2 t t' (by omega) (by omega) hne

def VSt (p:Nat) (a:Option Addr) (n cap:Nat) (w W:World) (T g c:Nat) (vs:List Value) (rows:List (List I3)):Prop:=
 (ProgAt W (w.heap.size+2) g c vs rows∧∀ r ∈ rows,∀ x ∈ r,I3.fits x)∧(Blk W w.heap.size 25 [.slice (some ⟨g,0,none⟩) 3 c]∧Blk W (w.heap.size+1) 25 [.slice none 0 0])∧(Src W p (.slice a n cap) T∧Code W p a n cap)∧Went p w W
def VCut (p:Nat) (a:Option Addr) (n cap:Nat) (w W:World):Prop:=∃ (T g c:Nat) (vs:List Value) (rows:List (List I3)),T≤100∧VSt p a n cap w W T g c vs rows
section
variable {p n cap T g c : Nat} {a : Option Addr} {w W W' : World} {vs : List Value} {rows : List (List I3)}
theorem VSt.lt (h:VSt p a n cap w W T g c vs rows):w.heap.size+1<W.heap.size∧w.heap.size+2≤g∧g<W.heap.size:=⟨h.2.1.2.lt,h.1.1.1.lt g rfl⟩
theorem VSt.src (hp:p<w.heap.size) {T':Nat} (h:VSt p a n cap w W T g c vs rows) (hW:Went p W W') (hS:Src W' p (.slice a n cap) T'):VSt p a n cap w W' T' g c vs rows:=
 ⟨⟨⟨owns_wn h.1.1.1 hW (by omega),⟨h.1.1.2.1.1,fun t ht=>owns_wn (h.1.1.2.1.2.1 t ht) hW (by omega),h.1.1.2.1.2.2⟩,h.1.1.2.2⟩,h.1.2⟩,⟨h.2.1.1.kept hW (fun e=>by cases e;omega),h.2.1.2.kept hW (fun e=>by cases e;omega)⟩,⟨hS,h.2.2.1.2.went hW (by have:=h.lt;omega)⟩,h.2.2.2.trans hW⟩
theorem VSt.grown (hp:p<w.heap.size) (h:VSt p a n cap w W T g c vs rows) {o:Option Nat} (hg:W.grownBy W' o) (ho:∀ y,o=some y→w.heap.size+2≤y) {vs':List Value} {rows':List (List I3)} (hP:ProgAt W' (w.heap.size+2) g c vs' rows') (hf:∀ r ∈ rows',∀ x ∈ r,I3.fits x):VSt p a n cap w W' T g c vs' rows':=
 ⟨⟨hP,hf⟩,⟨h.2.1.1.kept hg (fun e=>by have:=ho _ e;omega),h.2.1.2.kept hg (fun e=>by have:=ho _ e;omega)⟩,
  ⟨h.2.2.1.1.grown hg (fun k e=>by have:=ho _ e;omega),h.2.2.1.2.below ((Below.refl p W).grown hg (by have:=h.lt;omega) (fun j hj=>by have:=ho _ hj;omega))⟩,h.2.2.2.grown hg (fun k e=>by have:=ho _ e;omega)⟩
theorem VSt.drew (hp:p<w.heap.size) (h:VSt p a n cap w W T g c vs rows):VSt p a n cap w W.drew T g c vs rows:=by
 have hg:W.grownBy W.drew none:=⟨rfl,rfl,rfl,Nat.le_refl _,fun _ _ _=>rfl⟩
 have hb:Below W.heap.size W W.drew:=⟨rfl,rfl,rfl,Nat.le_refl _,fun _ _=>rfl⟩
 exact h.grown hp hg (fun y e=>by cases e) (h.1.1.below hb) h.1.2
theorem VSt.below (hp:p<w.heap.size) (h:VSt p a n cap w W T g c vs rows) (hb:Below W.heap.size W W'):VSt p a n cap w W' T g c vs rows:=
 h.grown hp (o:=none) ⟨hb.os,hb.tape,hb.output,hb.size,fun k hk _=>hb.block k hk⟩ (fun y e=>by cases e) (h.1.1.below hb) h.1.2
theorem VSt.cells (h:VSt p a n cap w W T g c vs rows) {k:Nat} (hk:k<3):W.cell? ⟨w.heap.size,0,none⟩=some (.slice (some ⟨g,0,none⟩) 3 c)∧W.cell? ⟨g,k,none⟩=some (vs.getD k undef):=⟨h.2.1.1.cell 0,h.1.1.cell hk⟩
theorem VSt.row (h:VSt p a n cap w W T g c vs rows) {k:Nat} (hk:k<3):W.ownsRow (w.heap.size+2) 122 3 (vs.getD k undef) (rows.getD k []).length (flat (rows.getD k [])):=h.1.1.2.1.2.1 k (by rw [h.1.1.2.2];exact hk)
theorem fits_set14 (h:∀ r ∈ rows,∀ x ∈ r,I3.fits x) {k:Nat} {xs:List I3} (hx:∀ x ∈ xs,I3.fits x):∀ r ∈ rows.set k xs,∀ x ∈ r,I3.fits x:=fun r hr=>by
 rcases List.mem_or_eq_of_mem_set hr with h9 | h9
 ·exact h r h9
 ·rw [h9];exact hx
theorem fits_row14 (h:∀ r ∈ rows,∀ x ∈ r,I3.fits x) (k:Nat):∀ x ∈ rows.getD k [],I3.fits x:=fun x hx=>by
 rcases Nat.lt_or_ge k rows.length with hk | hk
 ·rw [List.getD,List.getElem?_eq_getElem hk] at hx
  exact h _ (List.getElem_mem hk) x hx
 ·rw [List.getD,List.getElem?_eq_none hk] at hx
  cases hx
theorem VSt.rest (hp:p<w.heap.size) (h:VSt p a n cap w W T g c vs rows) {W2:World} {o o2:Option Nat} (hg:W.grownBy W' o) (ho:∀ y,o=some y→w.heap.size+2≤y) (hg2:W'.grownBy W2 o2) (ho2:∀ y,o2=some y→w.heap.size+2≤y) {vs':List Value} {rows':List (List I3)} (hP:ProgAt W2 (w.heap.size+2) g c vs' rows') (hf:∀ r ∈ rows',∀ x ∈ r,I3.fits x):VSt p a n cap w W2 T g c vs' rows':=
 ⟨⟨hP,hf⟩,⟨(h.2.1.1.kept hg (fun e=>by have:=ho _ e;omega)).kept hg2 (fun e=>by have:=ho2 _ e;omega),(h.2.1.2.kept hg (fun e=>by have:=ho _ e;omega)).kept hg2 (fun e=>by have:=ho2 _ e;omega)⟩,
  ⟨(h.2.2.1.1.grown hg (fun k e=>by have:=ho _ e;omega)).grown hg2 (fun k e=>by have:=ho2 _ e;omega),h.2.2.1.2.below (((Below.refl p W).grown hg (by have:=h.lt;omega) (fun j hj=>by have:=ho _ hj;omega)).grown hg2 (by have:=h.lt;have:=hg.size;omega) (fun j hj=>by have:=ho2 _ hj;omega))⟩,(h.2.2.2.grown hg (fun k e=>by have:=ho _ e;omega)).grown hg2 (fun k e=>by have:=ho2 _ e;omega)⟩
theorem VSt.alloc (hp:p<w.heap.size) (h:VSt p a n cap w W T g c vs rows) (o:Obj):VSt p a n cap w (W.alloc o) T g c vs rows:=
 h.grown hp (World.grownBy_alloc W o none) (fun y e=>by cases e) (h.1.1.below (bel_new W o)) h.1.2
end
theorem three_new14 (W:World) (x y z:Value) (t:TypeId):∀ ad,some (⟨W.heap.size,0,none⟩:Addr)=some ad→∀ j u,[x,y,z][j]?=some u→(W.alloc (.cells #[x,y,z] t)).cell? (ad.add j)=some u:=by
 intro ad e j u hj
 cases e
 have hb:=Blk.new W t [x,y,z]
 match j,hj with
 | 0,hj=>simp at hj;subst hj;rw [show (⟨W.heap.size,0,none⟩:Addr).add 0=⟨W.heap.size,0,none⟩ from rfl];exact hb.cell 0
 | 1,hj=>simp at hj;subst hj;rw [show (⟨W.heap.size,0,none⟩:Addr).add 1=⟨W.heap.size,1,none⟩ from by simp [Addr.add]];exact hb.cell 1
 | 2,hj=>simp at hj;subst hj;rw [show (⟨W.heap.size,0,none⟩:Addr).add 2=⟨W.heap.size,2,none⟩ from by simp [Addr.add]];exact hb.cell 2
 | (j+3),hj=>simp at hj
theorem three_int14 (x y z:Int):∀ u ∈ [Value.int .i64 x,Value.int .i64 y,Value.int .i64 z],u.oneCell'=true:=by
 intro u hu
 simp at hu
 rcases hu with rfl | rfl | rfl<;>rfl
theorem own_cut14 {w:World} {B b nk ck m:Nat} {r:List I3} (h:w.ownsRow B 122 3 (.slice (some ⟨b,0,none⟩) nk ck) r.length (flat r)) (hm:m≤r.length) :
  w.ownsRow B 122 3 (.slice (some ⟨b,0,none⟩) m ck) (r.take m).length (flat (r.take m)):=by
 rcases h.2 with ⟨q,_⟩ | ⟨g,c,cur,q,h1,h2,h3,h4,h5,h6⟩
 ·cases q
 ·cases q
  have hl:(r.take m).length=m:=by rw [List.length_take];omega
  refine ⟨by rw [flat_length],.inr ⟨_,_,cur,by rw [hl],h1,h2,by rw [hl];omega,h4,h5,?_⟩⟩
  rw [hl]
  have e:flat r=flat (r.take m)++flat (r.drop m):=by unfold flat;rw [← List.flatMap_append,List.take_append_drop]
  have e2:cur.toList.take (m*3)=(cur.toList.take (r.length*3)).take (m*3):=by rw [List.take_take];congr 1;omega
  rw [e2,h6,e,List.take_append_of_le_length (by rw [flat_length,hl];omega),List.take_of_length_le (by rw [flat_length,hl];omega)]
theorem wf_small14 {z:Int} (h:0≤z∧z≤999999999):(Lit.int .i64 z).wf=true:=by
 simp only [Lit.wf,Bool.and_eq_true,decide_eq_true_eq]
 have h1:IntKind.i64.min=-9223372036854775808:=by decide
 have h2:IntKind.i64.max=9223372036854775807:=by decide
 omega
theorem flat_getB14:∀ (xs:List I3) (j:Nat),j<xs.length→(flat xs)[j*3+2]?=some (.int .i64 (xs.getD j (0,0,0)).2.2)
 | [],j,h=>by simp at h
 | x::xs,0,_=>by simp [flat,I3.cells]
 | x::xs,j+1,h=>by
  have ih:=flat_getB14 xs j (by simpa using h)
  have e2:(j+1)*3+2=(j*3+2)+1+1+1:=by omega
  simp only [flat,List.flatMap_cons,I3.cells,List.cons_append,List.nil_append] at ih ⊢
  rw [e2]
  simp only [List.getElem?_cons_succ]
  rw [ih]
  simp
theorem fits_elt14 {r:List I3} (h:∀ x ∈ r,I3.fits x) {i:Nat} (hi:i<r.length):(r.getD i (0,0,0)).fits:=by
 rw [List.getD,List.getElem?_eq_getElem hi]
 exact h _ (List.getElem_mem hi)
theorem fits_set15 {r:List I3} (h:∀ x ∈ r,I3.fits x) {i:Nat} {y:I3} (hy:y.fits):∀ x ∈ r.set i y,I3.fits x:=fun x hx=>by
 rcases List.mem_or_eq_of_mem_set hx with h9 | h9
 ·exact h x h9
 ·rw [h9];exact hy
theorem fits_turn14 {r:List I3} (h:∀ x ∈ r,I3.fits x) {i:Nat} (hi:i<r.length) {z:Int} (hz:(Lit.int .i64 z).wf=true):∀ x ∈ r.set i ((r.getD i (0,0,0)).1,(r.getD i (0,0,0)).2.1,z),I3.fits x:=
 fits_set15 h ⟨(fits_elt14 h hi).1,(fits_elt14 h hi).2.1,hz⟩
theorem fits_min14 {z m:Int} (h:(Lit.int .i64 z).wf=true) (g:(Lit.int .i64 m).wf=true):(Lit.int .i64 (min z m)).wf=true:=by
 rcases (by omega:min z m=z∨min z m=m) with e | e<;>rw [e]<;>assumption
theorem slice_hI14 (b n cap hi:Nat) (h2:hi≤n) (h3:n≤cap):∀ W,(Instr.slice 91 (.slice (some ⟨b,0,none⟩) n cap) none (some (.int .i64 (hi:Int))) none).run Tryz.prog W=.ok (.slice (some ⟨b,0,none⟩) hi cap) W:=fun W=>by
 have hhc:(hi:Int)≤(cap:Int):=by omega
 go_simp


theorem IsRow.below {k:IntKind} {w w':World} {a:Option Addr} {len cap:Nat} {zs:List Int} (h:IsRow k w a len cap zs) (hb:Below w.heap.size w w'):IsRow k w' a len cap zs:=by
 rcases h with h | ⟨x,h1,h2,h3,h4,h5,h6⟩
 ·exact .inl h
 ·refine .inr ⟨x,h1,h2,h3,h4,fun i hi=>?_,h6⟩
  have hc:=h5 i hi
  have hlt:(x.add i).block<w.heap.size:=by
   rcases Nat.lt_or_ge (x.add i).block w.heap.size with h' | h'
   ·exact h'
   ·simp [World.cell?,Array.getElem?_eq_none h'] at hc
  rw [hb.cell hlt]
  exact hc
theorem IsRow.len_le {k:IntKind} {w:World} {a:Option Addr} {len cap:Nat} {zs:List Int} (h:IsRow k w a len cap zs):len≤maxLen:=by
 rcases h with ⟨_,rfl,_,_⟩ | ⟨x,h1,h2,h3,_⟩
 ·omega
 ·omega
theorem IsRow.drew {k:IntKind} {w:World} {a:Option Addr} {len cap:Nat} {zs:List Int} (h:IsRow k w a len cap zs) (d:Nat):IsRow k (w.drewN d) a len cap zs:=h
end Go.Proofs.YtgmhhegckcionaaGreatDoor
