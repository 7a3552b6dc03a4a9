/-
  Joined: AstI, CntI, ChkU, MemR, ChkV, Lists, TxeP, ChkW, ChkY, ChkZ.
-/
import Derived.Deep.CutRange
import Derived.Test.YtgmhhegckcionaaGreatDoorP31

namespace Go.Proofs.YtgmhhegckcionaaGreatDoor
set_option maxRecDepth 100000
set_option maxHeartbeats 16000000
open Go.RowKit
set_option linter.unusedVariables false
set_option linter.unusedSimpArgs false
theorem SpcD.lower {w:World} {B B' nb d:Nat} {vs:Value} {cs:Sl × Sl × Sl} {M:V4→List I4} {L:List (Rec6 V4 × Value)} (h:SpcD w B nb vs cs M L d) (hB:B'≤B):SpcD w B' nb vs cs M L d:=
 ⟨own_lower h.row hB,h.map,fun i r mv h1 h2=>own_lower (h.mvs i r mv h1 h2) hB,h.nil,Nat.le_trans hB h.low⟩


def CtOk (rows:List (List I3)) (L:List (Rec6 V4 × Value)) (cts:List Int):Prop:=cts.length=L.length∧∀ i r mv,L[i]?=some (r,mv)→cts.getD i 0=0∨cts.getD i 0=(cntM rows r.1:Int)
theorem CtOk.put {rows:List (List I3)} {L:List (Rec6 V4 × Value)} {cts:List Int} (h:CtOk rows L cts) {at9:Nat} {r:Rec6 V4} {mv:Value} (hr:L[at9]?=some (r,mv)):CtOk rows L (cts.set at9 (cntM rows r.1:Int)):=by
 have hl:at9<L.length:=(List.getElem?_eq_some_iff.1 hr).1
 refine ⟨by simp [h.1],fun i r' mv' hi=>?_⟩
 by_cases e:at9=i
 ·subst e
  rw [hr] at hi
  cases hi
  right
  simp [List.getD,h.1,hl]
 ·have:=h.2 i r' mv' hi
  simp only [List.getD,List.getElem?_set_ne e] at this ⊢
  exact this


theorem step_kind {m:V4} {x:I3} {k:Nat} (h:(stepM m x k).2≠0):(stepM m x k).2=if x.1=6 then 13 else 12:=by
 by_cases h1:x.1=1
 ·exact absurd (by unfold stepM;rw [if_pos h1]) h
 by_cases h2:x.1=2
 ·exact absurd (by unfold stepM;rw [if_neg h1,if_pos h2]) h
 by_cases h3:x.1=3
 ·exact absurd (by unfold stepM;rw [if_neg h1,if_neg h2,if_pos h3]) h
 by_cases h4:x.1=4
 ·exact absurd (by unfold stepM;rw [if_neg h1,if_neg h2,if_neg h3,if_pos h4]) h
 by_cases h5:x.1=5
 ·exact absurd (by unfold stepM;rw [if_neg h1,if_neg h2,if_neg h3,if_neg h4,if_pos h5]) h
 by_cases h6:x.1=6
 ·rw [if_pos h6]
  by_cases hh:m.2.2.1.getD x.2.1.toNat 0=k+1
  ·exact absurd (by unfold stepM;rw [if_neg h1,if_neg h2,if_neg h3,if_neg h4,if_neg h5,if_pos h6,if_pos hh]) h
  ·unfold stepM
   rw [if_neg h1,if_neg h2,if_neg h3,if_neg h4,if_neg h5,if_pos h6,if_neg hh]
 ·rw [if_neg h6]
  by_cases h7:x.1=7
  ·by_cases hh:m.2.2.2.getD (k*2+x.2.1.toNat) 0=0
   ·exact absurd (by unfold stepM;rw [if_neg h1,if_neg h2,if_neg h3,if_neg h4,if_neg h5,if_neg h6,if_pos h7,if_pos hh]) h
   ·exact absurd (by unfold stepM;rw [if_neg h1,if_neg h2,if_neg h3,if_neg h4,if_neg h5,if_neg h6,if_pos h7,if_neg hh]) h
  ·by_cases hh:m.2.2.2.getD (k*2+x.2.1.toNat) 0=x.2.2
   ·exact absurd (by unfold stepM;rw [if_neg h1,if_neg h2,if_neg h3,if_neg h4,if_neg h5,if_neg h6,if_neg h7,if_pos hh]) h
   ·unfold stepM
    rw [if_neg h1,if_neg h2,if_neg h3,if_neg h4,if_neg h5,if_neg h6,if_neg h7,if_neg hh]
def CanB (rows:List (List I3)) (x:I3):Prop:=x=(14,0,0)∨∃ k p:Nat,k<3∧p<6∧x=((if ((codeM rows k).getD p (0,0,0)).1=6 then 13 else 12),(k:Int),(p:Int))
theorem own_can {rows:List (List I3)} {m:V4} {k:Int} (hp:progOk rows=true) (hs:shapeOk m=true) (hz:haltM rows m k=0) {x:I3} (hx:x ∈ ownM rows m k):CanB rows x:=by
 obtain ⟨h0,h2,hd,_⟩:=halt_can hz
 obtain ⟨q,rfl⟩:∃ q:Nat,k=q:=⟨k.toNat,by omega⟩
 rw [Int.toNat_natCast] at hd
 obtain ⟨p,e1,e2,e3,_⟩:=at_ins hp hs (show q<3 by omega) hd
 have hl:=(codeM_len hp (show q<3 by omega)).1
 unfold ownM at hx
 rw [Int.toNat_natCast] at hx
 by_cases h9:(goM rows m (q:Int)).2=0
 ·rw [if_pos h9] at hx
  cases hx
 ·rw [if_neg h9] at hx
  have hx2:=List.mem_singleton.1 hx
  refine .inr ⟨q,p,by omega,by omega,?_⟩
  rw [hx2,e1]
  unfold goM at h9 ⊢
  rw [Int.toNat_natCast] at h9 ⊢
  rw [step_kind h9,e3]
theorem dead_can {rows:List (List I3)} {m:V4} {x:I3} (hx:x ∈ deadM rows m):CanB rows x:=by
 unfold deadM at hx
 split at hx
 ·exact .inl (List.mem_singleton.1 hx)
 ·cases hx
theorem local_can {rows:List (List I3)} {m:V4} (hp:progOk rows=true) (hs:shapeOk m=true) {x:I3} (hx:x ∈ localS rows m):CanB rows x:=by
 rcases mem_localS.1 hx with h | ⟨k,hk,h⟩
 ·exact dead_can h
 ·rcases mem_foundM.1 h with h | h
  ·exact own_can hp hs (enab_halt hk) h
  ·exact dead_can h
def numB (x:I3):Int:=if x.1=14 then 0 else 1+x.2.1*6+x.2.2
theorem not14 (c:Prop) [Decidable c]:¬ (if c then (13:Int) else 12)=14:=by split<;>omega
theorem num_inj {rows:List (List I3)} {x y:I3} (hx:CanB rows x) (hy:CanB rows y) (h:numB x=numB y):x=y:=by
 rcases hx with rfl | ⟨k,p,hk,hp,rfl⟩<;>rcases hy with rfl | ⟨k',p',hk',hp',rfl⟩
 ·rfl
 ·exfalso
  rw [show numB (14,0,0)=0 from rfl] at h
  unfold numB at h
  rw [if_neg (not14 _)] at h
  simp only at h
  omega
 ·exfalso
  rw [show numB (14,0,0)=0 from rfl] at h
  unfold numB at h
  rw [if_neg (not14 _)] at h
  simp only at h
  omega
 ·unfold numB at h
  rw [if_neg (not14 _),if_neg (not14 _)] at h
  simp only at h
  obtain rfl:k=k':=by omega
  obtain rfl:p=p':=by omega
  rfl
theorem num_in {rows:List (List I3)} {x:I3} (hx:CanB rows x):0≤numB x∧numB x≤18:=by
 rcases hx with rfl | ⟨k,p,hk,hp,rfl⟩
 ·unfold numB;simp
 ·have h1:∀ (c:Prop) [Decidable c],(if c then (13:Int) else 12)≠14:=by intro c _;split<;>omega
  unfold numB
  simp only [if_neg (h1 _)]
  omega
theorem nodup_num {rows:List (List I3)}:∀ {xs:List I3},xs.Nodup→(∀ x ∈ xs,CanB rows x)→(xs.map numB).Nodup
 | [],_,_=>List.nodup_nil
 | x::xs,hn,hc=>by
  obtain ⟨h1,h2⟩:=List.nodup_cons.1 hn
  rw [List.map_cons,List.nodup_cons]
  refine ⟨fun hm=>?_,nodup_num h2 (fun y hy=>hc y (List.mem_cons_of_mem _ hy))⟩
  obtain ⟨y,hy,e⟩:=List.mem_map.1 hm
  have:=num_inj (hc x (List.mem_cons_self ..)) (hc y (List.mem_cons_of_mem _ hy)) e.symm
  subst this
  exact h1 hy
theorem Rises.nodup9 {xs:List I3} (h:Rises xs):xs.Nodup:=h.imp (fun h e=>by subst e;rw [ltB_irrefl] at h;cases h)
theorem can_few {rows:List (List I3)} {xs:List I3} (h:Rises xs) (hc:∀ x ∈ xs,CanB rows x):xs.length≤19:=by
 have h1:=nodup_few (nodup_num h.nodup9 hc) (a:=0) (b:=18) (fun y hy=>by
  obtain ⟨x,hx,rfl⟩:=List.mem_map.1 hy
  exact num_in (hc x hx))
 rw [List.length_map] at h1
 omega
theorem can_okB {rows:List (List I3)} {x:I3} (hx:CanB rows x):okB x=true:=by
 rcases hx with rfl | ⟨k,p,hk,hp,rfl⟩
 ·rfl
 ·unfold okB inB
  split<;>simp<;>omega
theorem tree_shape {rows:List (List I3)} (hp:progOk rows=true) {f:Nat} {m:V4} (hs:shapeOk m=true):∀ x ∈ treeM rows f m,shapeOk x=true:=
 tree_sub (fun x=>shapeOk x=true) (fun x hx t ht=>(nx_ok hp hx t ht).1) f m hs
theorem cmB_can {rows:List (List I3)} (hp:progOk rows=true) {f:Nat} {m:V4} (hs:shapeOk m=true):∀ x ∈ cmB rows f m,CanB rows x:=fun x hx=>by
 obtain ⟨s,h1,h2⟩:=mem_cmB.1 hx
 exact local_can hp (tree_shape hp hs s h1) h2
theorem cmF_ok {rows:List (List I3)} (hp:progOk rows=true) {f:Nat} {m:V4} (hs:shapeOk m=true):∀ y ∈ cmF rows f m,itOk y=true:=fun y hy=>by
 obtain ⟨s,h1,h2⟩:=mem_cmF.1 hy
 exact look_ok (tree_shape hp hs s h1) y h2
theorem entM_ok {rows:List (List I3)} (hp:progOk rows=true) {f:Nat} {m:V4} (hs:shapeOk m=true):entOk (entM rows f m)=true:=by
 have h1:=can_few (cmB_rises rows f m) (cmB_can hp hs)
 unfold entOk entM keyOk9
 simp only [Bool.and_eq_true,decide_eq_true_eq]
 refine ⟨⟨keyT_size6 hs,by rw [key_back6 hs];exact hs⟩,rise_of9 (fun x hx=>can_okB (cmB_can hp hs x hx)) (cmB_rises rows f m),riseI_of9 (cmF_ok hp hs) (cmF_rises rows f m),by omega⟩
theorem visT9 {rows:List (List I3)} (hp:progOk rows=true) {f:Nat} {m:V4} {st:Vs11} (hs:shapeOk m=true) (hf:leftN rows m<f) (ht:TrueM rows st.1) (hk:(visM rows f m st).2.2=true):(visM rows f m st).1=entM rows 18 m∧Left11 rows (leftN rows m+1) st (visM rows f m st).2.1∧entM rows 18 m ∈ (visM rows f m st).2.1.1:=
 visT hp (fun s hs=>entM_ok hp hs) hs hf ht hk


def UpE (es:List E3):Prop:=es.Pairwise (fun a b=>ltS a.1 b.1=true)
theorem UpE.lt {es:List E3} (h:UpE es) {j i:Nat} (hi:i<j) (hj:j<es.length):ltS (es.getD i e3d).1 (es.getD j e3d).1=true:=by
 rw [getD9 (show i<es.length by omega),getD9 hj]
 exact List.pairwise_iff_getElem.1 h i j (by omega) hj hi
structure UpR (es:List E3):Prop where
 up:UpE es
 few:es.length≤2000
theorem UpR.lt {es:List E3} (h:UpR es) {j i:Nat} (hi:i<j) (hj:j<es.length):ltS (es.getD i e3d).1 (es.getD j e3d).1=true:=h.up.lt hi hj
theorem upR_of {es:List E3} (h:memOk es=true):UpR es:=⟨(memOk_iff.1 h).2.1,memOk_len h⟩
theorem upR_nil:UpR []:=⟨List.Pairwise.nil,by simp⟩
theorem isE_atR {es:List E3} (h:UpE es) {t:Nat} (ht:t<es.length):plcE es (es.getD t e3d).1=t∧isE es (es.getD t e3d).1=true:=by
 have hp:plcE es (es.getD t e3d).1=t:=plcE_of (fun i hi=>h.lt hi ht) (by omega) (fun _=>ltS_irrefl _)
 refine ⟨hp,?_⟩
 rw [isE,hp,decide_eq_true ht,decide_eq_true rfl]
 rfl
theorem isE_iffR {es:List E3} (h:UpE es) {k:ByteArray}:isE es k=true↔∃ e ∈ es,e.1=k:=by
 constructor
 ·intro hi
  simp only [isE,Bool.and_eq_true,decide_eq_true_eq] at hi
  refine ⟨es.getD (plcE es k) e3d,?_,hi.2⟩
  rw [getD9 hi.1]
  exact List.getElem_mem _
 ·rintro ⟨e,he,rfl⟩
  obtain ⟨t,ht,rfl⟩:=List.getElem_of_mem he
  rw [← getD9 ht]
  exact (isE_atR h ht).2
theorem plcE_behindR {es:List E3} (h:UpE es) {k:ByteArray} {i:Nat} (hi:plcE es k≤i) (hl:i<es.length):ltS (es.getD i e3d).1 k=false:=by
 by_cases e:i=plcE es k
 ·rw [e];exact plcE_stop (by omega)
 ·cases hc:ltS (es.getD i e3d).1 k
  ·rfl
  ·have:=ltS_trans (h.lt (i:=plcE es k) (j:=i) (by omega) hl) hc
   rw [plcE_stop (by omega)] at this
   cases this
theorem putE_behindR {es:List E3} (h:UpE es) {k:ByteArray} {t:Nat} (h1:(if isE es k then plcE es k+1 else plcE es k)≤t) (ht:t<es.length):ltS k (es.getD t e3d).1=true:=by
 cases hc:isE es k
 ·rw [hc] at h1
  simp at h1
  cases hk:ltS k (es.getD t e3d).1
  ·have:=ltS_total (plcE_behindR h h1 ht) hk
   have hi:=(isE_iffR h (k:=k)).2 ⟨es.getD t e3d,by rw [getD9 ht];exact List.getElem_mem _,this⟩
   rw [hc] at hi
   cases hi
  ·rfl
 ·rw [hc] at h1
  simp at h1
  simp only [isE,Bool.and_eq_true,decide_eq_true_eq] at hc
  have:=h.lt (i:=plcE es k) (j:=t) (by omega) ht
  rw [hc.2] at this
  exact this
theorem putE_upE {es:List E3} {e:E3} (h:UpE es):UpE (putE es e):=by
 unfold putE UpE
 rw [List.pairwise_append,List.pairwise_append]
 refine ⟨⟨h.sublist (List.take_sublist _ _),by simp,?_⟩,h.sublist (List.drop_sublist _ _),?_⟩
 ·intro a ha b hb
  simp only [List.mem_singleton] at hb
  subst hb
  obtain ⟨t,h1,h2,rfl⟩:=mem_take9 ha
  exact plcE_ahead h1
 ·intro a ha b hb
  obtain ⟨t,h1,h2,rfl⟩:=mem_drop9 hb
  have hk:=putE_behindR h h1 h2
  simp only [List.mem_append,List.mem_singleton] at ha
  rcases ha with ha | rfl
  ·obtain ⟨t',h3,h4,rfl⟩:=mem_take9 ha
   exact ltS_trans (plcE_ahead h3) hk
  ·exact hk
theorem putE_up {es:List E3} {e:E3} (h:UpR es) (hr:isE es e.1=true∨es.length<2000):UpR (putE es e):=by
 refine ⟨putE_upE h.up,?_⟩
 rw [putE_len]
 rcases hr with h9 | h9
 ·rw [if_pos h9];exact h.few
 ·have:=h.few
  split<;>omega
theorem putE_memR {es:List E3} {e x:E3} (hx:x ∈ putE es e):x=e∨x ∈ es:=by
 unfold putE at hx
 simp only [List.mem_append,List.mem_singleton] at hx
 rcases hx with (hx | hx) | hx
 ·exact .inr (List.mem_of_mem_take hx)
 ·exact .inl hx
 ·exact .inr (List.mem_of_mem_drop hx)
theorem putE_new {es:List E3} {e x:E3} (hn:isE es e.1=false):x ∈ putE es e↔x=e∨x ∈ es:=by
 unfold putE
 rw [hn]
 simp only [List.mem_append,List.mem_singleton,Bool.false_eq_true,if_false]
 constructor
 ·rintro ((h | h) | h)
  ·exact .inr (List.mem_of_mem_take h)
  ·exact .inl h
  ·exact .inr (List.mem_of_mem_drop h)
 ·rintro (h | h)
  ·exact .inl (.inr h)
  ·rw [← List.take_append_drop (plcE es e.1) es] at h
   rcases List.mem_append.1 h with h | h
   ·exact .inl (.inl h)
   ·exact .inr h


def Str11 (rows:List (List I3)) (L:Nat) (st st':Vs11):Prop:=UpR st'.1∧(∀ e ∈ st.1,e ∈ st'.1)∧(∀ e ∈ st'.1,e ∈ st.1∨∃ s,shapeOk s=true∧leftN rows s<L∧e.1=keyT s)∧st.2≤st'.2∧st'.1.length+st.2=st.1.length+st'.2
theorem Str11.refl {rows:List (List I3)} {L:Nat} {st:Vs11} (h:UpR st.1):Str11 rows L st st:=⟨h,fun e he=>he,fun e he=>.inl he,Nat.le_refl _,rfl⟩
theorem Str11.trans {rows:List (List I3)} {L:Nat} {a b c:Vs11} (h:Str11 rows L a b) (k:Str11 rows L b c):Str11 rows L a c:=
 ⟨k.1,fun e he=>k.2.1 e (h.2.1 e he),fun e he=>by
  rcases k.2.2.1 e he with h9 | h9
  ·exact h.2.2.1 e h9
  ·exact .inr h9,Nat.le_trans h.2.2.2.1 k.2.2.2.1,by have:=h.2.2.2.2;have:=k.2.2.2.2;omega⟩
theorem Str11.mono {rows:List (List I3)} {L L':Nat} {a b:Vs11} (h:Str11 rows L a b) (hL:L≤L'):Str11 rows L' a b:=
 ⟨h.1,h.2.1,fun e he=>by
  rcases h.2.2.1 e he with h9 | ⟨s,h1,h2,h3⟩
  ·exact .inl h9
  ·exact .inr ⟨s,h1,by omega,h3⟩,h.2.2.2⟩
theorem visL_str {rows:List (List I3)} {L:Nat} {rec:V4→Vs11→E3 × Vs11 × Bool}:∀ (ts:List (Int × V4)) (e:E3) (st:Vs11),(∀ t ∈ ts,∀ st:Vs11,UpR st.1→(rec t.2 st).2.2=true→Str11 rows L st (rec t.2 st).2.1)→UpR st.1→(visL rec ts e st).2.2=true→Str11 rows L st (visL rec ts e st).2.1
 | [],e,st,hr,ht,hk=>Str11.refl ht
 | t::ts,e,st,hr,ht,hk=>by
  unfold visL at hk ⊢
  by_cases h:(rec t.2 st).2.2=true
  ·rw [if_pos h] at hk ⊢
   have h2:=hr t (List.mem_cons_self ..) st ht h
   exact h2.trans (visL_str ts _ _ (fun t' ht'=>hr t' (List.mem_cons_of_mem _ ht')) h2.1 hk)
  ·rw [if_neg h] at hk
   cases hk
theorem visL_key (rec:V4→Vs11→E3 × Vs11 × Bool):∀ (ts:List (Int × V4)) (e:E3) (st:Vs11),(visL rec ts e st).2.2=true→(visL rec ts e st).1.1=e.1
 | [],e,st,hk=>rfl
 | t::ts,e,st,hk=>by
  unfold visL at hk ⊢
  by_cases h:(rec t.2 st).2.2=true
  ·rw [if_pos h] at hk ⊢
   exact visL_key rec ts _ _ hk
  ·rw [if_neg h] at hk
   cases hk
theorem vis_str {rows:List (List I3)} (hp:progOk rows=true):∀ (f:Nat) (m:V4) (st:Vs11),shapeOk m=true→UpR st.1→(visM rows f m st).2.2=true→Str11 rows (leftN rows m+1) st (visM rows f m st).2.1
 | 0,m,st,hs,ht,hk=>by unfold visM at hk;cases hk
 | f+1,m,st,hs,ht,hk=>by
  unfold visM at hk ⊢
  by_cases h1:isE st.1 (keyT m)=true
  ·rw [if_pos h1]
   exact Str11.refl ht
  ·rw [if_neg h1] at hk ⊢
   by_cases h2:st.1.length=2000
   ·rw [if_pos h2] at hk
    cases hk
   ·rw [if_neg h2] at hk ⊢
    have key:=visL_str (rows:=rows) (L:=leftN rows m) (rec:=visM rows f) (nxM rows m) (keyT m,localS rows m,lookM m) (st.1,st.2+1) (fun t htm st' ht' hk'=>by
     obtain ⟨q1,q2⟩:=nx_ok hp hs t htm
     exact (vis_str hp f t.2 st' q1 ht' hk').mono (by omega)) ht
    have hkey:=visL_key (visM rows f) (nxM rows m) (keyT m,localS rows m,lookM m) (st.1,st.2+1)
    generalize visL (visM rows f) (nxM rows m) (keyT m,localS rows m,lookM m) (st.1,st.2+1)=R at *
    by_cases h3:R.2.2=true
    ·rw [if_pos h3] at hk ⊢
     have k2:=key h3
     have hk1:=hkey h3
     simp only at hk1
     by_cases h4:R.2.1.1.length=2000
     ·rw [if_pos h4] at hk
      cases hk
     ·rw [if_neg h4]
      have hni:isE R.2.1.1 (keyT m)=false:=by
       cases hi:isE R.2.1.1 (keyT m)
       ·rfl
       ·exfalso
        obtain ⟨e,he,hek⟩:=(isE_iffR k2.1.up (k:=keyT m)).1 hi
        rcases k2.2.2.1 e he with h9 | ⟨s,s1,s2,s3⟩
        ·exact h1 ((isE_iffR ht.up (k:=keyT m)).2 ⟨e,h9,hek⟩)
        ·have:s=m:=key_inj6 s1 hs (s3.symm.trans hek)
         subst this
         omega
      have hni2:isE R.2.1.1 R.1.1=false:=by rw [hk1];exact hni
      have hlen:=k2.1.few
      have hl:=putE_len (es:=R.2.1.1) (e:=R.1)
      rw [hni2] at hl
      simp only [Bool.false_eq_true,if_false] at hl
      have h5:=k2.2.2.2
      simp only at h5
      refine ⟨putE_up k2.1 (.inr (by omega)),fun e he=>(putE_new hni2).2 (.inr (k2.2.1 e he)),fun e he=>?_,by show st.2≤R.2.1.2;omega,?_⟩
      ·rcases (putE_new hni2).1 he with h9 | h9
       ·exact .inr ⟨m,hs,by omega,by rw [h9,hk1]⟩
       ·rcases k2.2.2.1 e h9 with h8 | ⟨s,s1,s2,s3⟩
        ·exact .inl h8
        ·exact .inr ⟨s,s1,by omega,s3⟩
      ·show (putE R.2.1.1 R.1).length+st.2=st.1.length+R.2.1.2
       omega
    ·rw [if_neg h3] at hk
     cases hk
def visK (rows:List (List I3)) (m:V4) (rec:V4→Vs11→E3 × Vs11):List (Int × V4)→List I3 × List Int→Vs11→(List I3 × List Int) × Vs11
 | [],acc,st=>(acc,st)
 | t::ts,acc,st=>visK rows m rec ts (((acc.1++ownM rows m t.1)++deadM rows t.2)++(rec t.2 st).1.2.1,acc.2++(rec t.2 st).1.2.2) (rec t.2 st).2
def entK (m:V4) (R:(List I3 × List Int) × Vs11):E3:=(keyT m,mergeB R.1.1 [],mrgI R.1.2)
def visJ (rows:List (List I3)) (g:Nat):Nat→V4→Vs11→E3 × Vs11
 | 0,_,st=>(e3d,st)
 | f+1,m,st =>
  if isE st.1 (keyT m)=true then (fndE st.1 (keyT m),st)
  else if 2000<g+(st.2+1) then (e3d,(st.1,st.2+1))
  else (entK m (visK rows m (visJ rows g f) (nxM rows m) (deadM rows m,lookM m) (st.1,st.2+1)),(putE (visK rows m (visJ rows g f) (nxM rows m) (deadM rows m,lookM m) (st.1,st.2+1)).2.1 (entK m (visK rows m (visJ rows g f) (nxM rows m) (deadM rows m,lookM m) (st.1,st.2+1))),(visK rows m (visJ rows g f) (nxM rows m) (deadM rows m,lookM m) (st.1,st.2+1)).2.2))
theorem visK_cnt {rows:List (List I3)} {m:V4} {rec:V4→Vs11→E3 × Vs11} (h:∀ x st,st.2≤(rec x st).2.2):∀ (ts:List (Int × V4)) (acc:List I3 × List Int) (st:Vs11),st.2≤(visK rows m rec ts acc st).2.2
 | [],acc,st=>Nat.le_refl _
 | t::ts,acc,st=>by
  unfold visK
  exact Nat.le_trans (h t.2 st) (visK_cnt h ts _ _)
theorem visJ_cnt {rows:List (List I3)} {g:Nat}:∀ (f:Nat) (m:V4) (st:Vs11),st.2≤(visJ rows g f m st).2.2
 | 0,m,st=>Nat.le_refl _
 | f+1,m,st=>by
  unfold visJ
  split
  ·exact Nat.le_refl _
  ·split
   ·exact Nat.le_succ _
   ·have:=visK_cnt (rows:=rows) (m:=m) (fun x st=>visJ_cnt (rows:=rows) (g:=g) f x st) (nxM rows m) (deadM rows m,lookM m) (st.1,st.2+1)
    simp only at this ⊢
    omega
def Side (rows:List (List I3)) (m:V4) (ts:List (Int × V4)) (e e':E3) (a a':List I3 × List Int):Prop:=
 ∃ (P:I3→Prop) (Q:Int→Prop),(∀ x,x ∈ e'.2.1↔x ∈ e.2.1∨P x)∧(∀ y,y ∈ e'.2.2↔y ∈ e.2.2∨Q y) ∧
  (∀ x,x ∈ a'.1↔x ∈ a.1∨(∃ t ∈ ts,x ∈ ownM rows m t.1∨x ∈ deadM rows t.2)∨P x)∧(∀ y,y ∈ a'.2↔y ∈ a.2∨Q y)∧(Rises e.2.1→Rises e'.2.1)∧(e.2.2.Pairwise (· < ·)→e'.2.2.Pairwise (· < ·))∧e'.1=e.1
theorem Side.nil {rows:List (List I3)} {m:V4} (e:E3) (a:List I3 × List Int):Side rows m [] e e a a:=⟨fun _=>False,fun _=>False,by simp,by simp,by simp,by simp,id,id,rfl⟩
theorem Side.cons {rows:List (List I3)} {m:V4} {t:Int × V4} {ts:List (Int × V4)} {e e':E3} {a a':List I3 × List Int} (r:E3) (h:Side rows m ts (e.1,mergeB e.2.1 r.2.1,mrgI (e.2.2++r.2.2)) e' (((a.1++ownM rows m t.1)++deadM rows t.2)++r.2.1,a.2++r.2.2) a'):Side rows m (t::ts) e e' a a':=by
 obtain ⟨P,Q,h1,h2,h3,h4,h5,h6,h7⟩:=h
 refine ⟨fun x=>x ∈ r.2.1∨P x,fun y=>y ∈ r.2.2∨Q y,fun x=>?_,fun y=>?_,fun x=>?_,fun y=>?_,fun _=>h5 (mergeB_rises _ _),fun _=>h6 (mrgI_rises _),h7⟩
 ·rw [h1,mem_mergeB,or_assoc]
 ·rw [h2,mrgI_mem,List.mem_append,or_assoc]
 ·rw [h3]
  simp only [List.mem_append,List.mem_cons,exists_eq_or_imp]
  constructor
  ·rintro ((((h | h) | h) | h) | h | h)
   ·exact .inl h
   ·exact .inr (.inl (.inl (.inl h)))
   ·exact .inr (.inl (.inl (.inr h)))
   ·exact .inr (.inr (.inl h))
   ·exact .inr (.inl (.inr h))
   ·exact .inr (.inr (.inr h))
  ·rintro (h | ((h | h) | h) | h | h)
   ·exact .inl (.inl (.inl (.inl h)))
   ·exact .inl (.inl (.inl (.inr h)))
   ·exact .inl (.inl (.inr h))
   ·exact .inr (.inl h)
   ·exact .inl (.inr h)
   ·exact .inr (.inr h)
 ·rw [h4]
  simp only [List.mem_append,or_assoc]
theorem Side.ent {rows:List (List I3)} {m:V4} (hs:shapeOk m=true) {e':E3} {a':List I3 × List Int} {st:Vs11} (h:Side rows m (nxM rows m) (keyT m,localS rows m,lookM m) e' (deadM rows m,lookM m) a'):entK m (a',st)=e':=by
 obtain ⟨P,Q,h1,h2,h3,h4,h5,h6,h7⟩:=h
 have hB:mergeB a'.1 []=e'.2.1:=(mergeB_rises _ _).same (h5 (localS_rises rows m)) (fun x=>by
  rw [mem_mergeB,h1,h3]
  simp only [List.not_mem_nil,or_false]
  rw [mem_localS]
  have hx:(∃ t ∈ nxM rows m,x ∈ ownM rows m t.1∨x ∈ deadM rows t.2)↔∃ k ∈ enabM rows m 3,x ∈ foundM rows m k:=by
   unfold nxM
   constructor
   ·rintro ⟨t,ht,h⟩
    obtain ⟨k,hk,rfl⟩:=List.mem_map.1 ht
    exact ⟨k,hk,mem_foundM.2 h⟩
   ·rintro ⟨k,hk,h⟩
    exact ⟨_,List.mem_map.2 ⟨k,hk,rfl⟩,mem_foundM.1 h⟩
  rw [hx,or_assoc])
 have hF:mrgI a'.2=e'.2.2:=rises_eq (mrgI_rises _) (h6 (lookM_rises hs)) (fun y=>by rw [mrgI_mem,h2,h4])
 unfold entK
 simp only
 rw [hB,hF,show keyT m=e'.1 from h7.symm]
theorem visLK1 {rows:List (List I3)} {m:V4} {g:Nat} {rec:V4→Vs11→E3 × Vs11 × Bool} {rec':V4→Vs11→E3 × Vs11} {L:Nat}:∀ (ts:List (Int × V4)) (e:E3) (a:List I3 × List Int) (st:Vs11),
  (∀ t ∈ ts,∀ st:Vs11,UpR st.1→(rec t.2 st).2.2=true→Str11 rows L st (rec t.2 st).2.1∧(g+(rec t.2 st).2.1.2≤2000→rec' t.2 st=((rec t.2 st).1,(rec t.2 st).2.1)))→UpR st.1→(visL rec ts e st).2.2=true→g+(visL rec ts e st).2.1.2≤2000 →
  Side rows m ts e (visL rec ts e st).1 a (visK rows m rec' ts a st).1∧(visK rows m rec' ts a st).2=(visL rec ts e st).2.1
 | [],e,a,st,hr,ht,hk,hg=>⟨Side.nil e a,rfl⟩
 | t::ts,e,a,st,hr,ht,hk,hg=>by
  unfold visL at hk hg ⊢
  unfold visK
  by_cases h:(rec t.2 st).2.2=true
  ·rw [if_pos h] at hk hg ⊢
   obtain ⟨h2,h3⟩:=hr t (List.mem_cons_self ..) st ht h
   have h4:=(visL_str ts (e.1,mergeB e.2.1 (rec t.2 st).1.2.1,mrgI (e.2.2++(rec t.2 st).1.2.2)) (rec t.2 st).2.1 (fun t' ht' st' hu hk'=>(hr t' (List.mem_cons_of_mem _ ht') st' hu hk').1) h2.1 hk).2.2.2.1
   rw [h3 (by omega)]
   obtain ⟨q1,q2⟩:=visLK1 (m:=m) (rec':=rec') ts _ (((a.1++ownM rows m t.1)++deadM rows t.2)++(rec t.2 st).1.2.1,a.2++(rec t.2 st).1.2.2) _ (fun t' ht'=>hr t' (List.mem_cons_of_mem _ ht')) h2.1 hk hg
   exact ⟨Side.cons (rec t.2 st).1 q1,q2⟩
  ·rw [if_neg h] at hk
   cases hk
theorem visJ_of {rows:List (List I3)} (hp:progOk rows=true) {g:Nat}:∀ (f:Nat) (m:V4) (st:Vs11),shapeOk m=true→UpR st.1→(visM rows f m st).2.2=true→g+(visM rows f m st).2.1.2≤2000→visJ rows g f m st=((visM rows f m st).1,(visM rows f m st).2.1)
 | 0,m,st,hs,ht,hk,hg=>by unfold visM at hk;cases hk
 | f+1,m,st,hs,ht,hk,hg=>by
  have hstr:=vis_str hp (f+1) m st hs ht hk
  unfold visM at hk hg hstr ⊢
  unfold visJ
  by_cases h1:isE st.1 (keyT m)=true
  ·rw [if_pos h1,if_pos h1]
  ·rw [if_neg h1] at hk hg hstr ⊢
   rw [if_neg h1]
   by_cases h2:st.1.length=2000
   ·rw [if_pos h2] at hk
    cases hk
   ·rw [if_neg h2] at hk hg hstr ⊢
    have key:=visLK1 (rows:=rows) (m:=m) (g:=g) (L:=leftN rows m) (rec:=visM rows f) (rec':=visJ rows g f) (nxM rows m) (keyT m,localS rows m,lookM m) (deadM rows m,lookM m) (st.1,st.2+1) (fun t htm st' ht' hk'=>by
     obtain ⟨q1,q2⟩:=nx_ok hp hs t htm
     exact ⟨(vis_str hp f t.2 st' q1 ht' hk').mono (by omega),fun h9=>visJ_of hp f t.2 st' q1 ht' hk' h9⟩) ht
    have kst:=visL_str (rows:=rows) (L:=leftN rows m) (rec:=visM rows f) (nxM rows m) (keyT m,localS rows m,lookM m) (st.1,st.2+1) (fun t htm st' ht' hk'=>by
     obtain ⟨q1,q2⟩:=nx_ok hp hs t htm
     exact (vis_str hp f t.2 st' q1 ht' hk').mono (by omega)) ht
    generalize visL (visM rows f) (nxM rows m) (keyT m,localS rows m,lookM m) (st.1,st.2+1)=R at *
    generalize hK:visK rows m (visJ rows g f) (nxM rows m) (deadM rows m,lookM m) (st.1,st.2+1)=K at *
    by_cases h3:R.2.2=true
    ·rw [if_pos h3] at hk hg ⊢
     by_cases h4:R.2.1.1.length=2000
     ·rw [if_pos h4] at hk
      cases hk
     ·rw [if_neg h4] at hg ⊢
      simp only at hg
      obtain ⟨k1,k2⟩:=key h3 hg
      have k3:=(kst h3).2.2.2.1
      simp only at k3
      rw [if_neg (by omega)]
      have k4:=k1.ent (st:=K.2) hs
      rw [show entK m K=R.1 from k4,k2]
    ·rw [if_neg h3] at hk
     cases hk
theorem visLK2 {rows:List (List I3)} {m:V4} {g:Nat} {rec:V4→Vs11→E3 × Vs11 × Bool} {rec':V4→Vs11→E3 × Vs11} {L:Nat} (hc:∀ x st,st.2≤(rec' x st).2.2):∀ (ts:List (Int × V4)) (e:E3) (a:List I3 × List Int) (st:Vs11),
  (∀ t ∈ ts,∀ st:Vs11,UpR st.1→st.1.length≤g+st.2→g+(rec' t.2 st).2.2≤2000→(rec t.2 st).2.2=true∧Str11 rows L st (rec t.2 st).2.1∧rec' t.2 st=((rec t.2 st).1,(rec t.2 st).2.1))→UpR st.1→st.1.length≤g+st.2→g+(visK rows m rec' ts a st).2.2≤2000 →
  (visL rec ts e st).2.2=true∧Str11 rows L st (visL rec ts e st).2.1∧Side rows m ts e (visL rec ts e st).1 a (visK rows m rec' ts a st).1∧(visK rows m rec' ts a st).2=(visL rec ts e st).2.1
 | [],e,a,st,hr,ht,hl,hg=>⟨rfl,Str11.refl ht,Side.nil e a,rfl⟩
 | t::ts,e,a,st,hr,ht,hl,hg=>by
  unfold visK at hg ⊢
  have hg1:=Nat.le_trans (Nat.add_le_add_left (visK_cnt (rows:=rows) (m:=m) hc ts (((a.1++ownM rows m t.1)++deadM rows t.2)++(rec' t.2 st).1.2.1,a.2++(rec' t.2 st).1.2.2) (rec' t.2 st).2) g) hg
  obtain ⟨h1,h2,h3⟩:=hr t (List.mem_cons_self ..) st ht hl hg1
  rw [h3] at hg ⊢
  unfold visL
  rw [if_pos h1]
  have h5:=h2.2.2.2.2
  obtain ⟨q0,q1,q2,q3⟩:=visLK2 (L:=L) (rec:=rec) hc ts (e.1,mergeB e.2.1 (rec t.2 st).1.2.1,mrgI (e.2.2++(rec t.2 st).1.2.2)) _ _ (fun t' ht'=>hr t' (List.mem_cons_of_mem _ ht')) h2.1 (by omega) hg
  exact ⟨q0,h2.trans q1,Side.cons (rec t.2 st).1 q2,q3⟩
theorem visM_of {rows:List (List I3)} (hp:progOk rows=true) {g:Nat}:∀ (f:Nat) (m:V4) (st:Vs11),shapeOk m=true→leftN rows m<f→UpR st.1→st.1.length≤g+st.2→g+(visJ rows g f m st).2.2≤2000→(visM rows f m st).2.2=true∧visJ rows g f m st=((visM rows f m st).1,(visM rows f m st).2.1)
 | 0,m,st,hs,hf,ht,hl,hg=>by omega
 | f+1,m,st,hs,hf,ht,hl,hg=>by
  unfold visJ at hg ⊢
  unfold visM
  by_cases h1:isE st.1 (keyT m)=true
  ·rw [if_pos h1,if_pos h1]
   exact ⟨rfl,rfl⟩
  ·rw [if_neg h1] at hg ⊢
   rw [if_neg h1]
   by_cases h0:2000<g+(st.2+1)
   ·rw [if_pos h0] at hg
    simp only at hg
    omega
   ·rw [if_neg h0] at hg ⊢
    simp only at hg
    rw [if_neg (show ¬ st.1.length=2000 by omega)]
    obtain ⟨k0,k1,k2,k3⟩:=visLK2 (rows:=rows) (m:=m) (g:=g) (L:=leftN rows m) (rec:=visM rows f) (rec':=visJ rows g f) (fun x st=>visJ_cnt f x st) (nxM rows m) (keyT m,localS rows m,lookM m) (deadM rows m,lookM m) (st.1,st.2+1) (fun t htm st' ht' hl' hg'=>by
     obtain ⟨q1,q2⟩:=nx_ok hp hs t htm
     obtain ⟨r1,r2⟩:=visM_of hp f t.2 st' q1 (by omega) ht' hl' hg'
     exact ⟨r1,(vis_str hp f t.2 st' q1 ht' r1).mono (by omega),r2⟩) ht (by show st.1.length≤g+(st.2+1);omega) hg
    generalize visL (visM rows f) (nxM rows m) (keyT m,localS rows m,lookM m) (st.1,st.2+1)=R at *
    generalize hK:visK rows m (visJ rows g f) (nxM rows m) (deadM rows m,lookM m) (st.1,st.2+1)=K at *
    rw [if_pos k0]
    have k5:=k1.2.2.2.2
    simp only at k5
    rw [k3] at hg
    rw [if_neg (by omega)]
    have k4:=k2.ent (st:=K.2) hs
    rw [show entK m K=R.1 from k4,k3]
    exact ⟨rfl,rfl⟩
theorem vis_both {rows:List (List I3)} (hp:progOk rows=true) {f:Nat} {m:V4} {es:List E3} (hs:shapeOk m=true) (hf:leftN rows m<f) (ht:UpR es):
  (es.length+(visJ rows es.length f m (es,0)).2.2≤2000→(visM rows f m (es,0)).2.2=true∧visJ rows es.length f m (es,0)=((visM rows f m (es,0)).1,(visM rows f m (es,0)).2.1)) ∧
  (¬ es.length+(visJ rows es.length f m (es,0)).2.2≤2000→(visM rows f m (es,0)).2.2=false):=by
 refine ⟨fun h=>visM_of hp f m (es,0) hs hf ht (by simp) h,fun h=>?_⟩
 cases hk:(visM rows f m (es,0)).2.2
 ·rfl
 ·exfalso
  have h1:=vis_str hp f m (es,0) hs ht hk
  have h2:=h1.2.2.2.2
  have h3:=h1.1.few
  simp only at h2
  have h4:=visJ_of hp (g:=es.length) f m (es,0) hs ht hk (by omega)
  rw [h4] at h
  simp only at h
  omega


def NumsAt (s:ByteArray):Nat→List Nat→Nat→Prop
 | p,[],q=>q=p
 | p,z::zs,q=>∃ k,Num s p z k∧NumsAt s (p+k) zs q
def Listed (s:ByteArray) (zs:List Nat):Prop:=∃ k,Num s 0 zs.length k∧zs.length≤4096∧NumsAt s k zs s.size
theorem Num.val_le {s:ByteArray} {p n k:Nat} (h:Num s p n k):n≤999999999:=h.2.2.2


theorem riseB_okB {xs:List I3} (h:riseB xs=true):∀ x ∈ xs,okB x=true:=by
 intro x hx
 obtain ⟨t,ht,rfl⟩:=List.getElem_of_mem hx
 have:=allR_at h ht
 simp only [bStep,Bool.and_eq_true] at this
 simpa [List.getD,List.getElem?_eq_getElem ht] using this.1
theorem okB_small {x:I3} (h:okB x=true):(0≤x.1∧x.1≤14)∧(0≤x.2.1∧x.2.1≤2)∧0≤x.2.2∧x.2.2≤5:=by
 unfold okB at h
 split at h
 ·simp only [Bool.and_eq_true,decide_eq_true_eq] at h
  omega
 ·split at h
  ·simp only [Bool.and_eq_true,inB,decide_eq_true_eq] at h
   omega
  ·cases h
theorem riseI_itOk {xs:List Int} (h:riseI xs=true):∀ x ∈ xs,0≤x∧x≤22:=by
 intro x hx
 obtain ⟨t,ht,rfl⟩:=List.getElem_of_mem hx
 have:=(riseI_at h t ht).2
 simp only [List.getD,List.getElem?_eq_getElem ht,Option.getD_some,itOk,decide_eq_true_eq] at this
 omega
theorem entOk_parts {e:E3} (h:entOk e=true):keyOk9 e.1=true∧riseB e.2.1=true∧riseI e.2.2=true∧e.2.1.length≤30:=by
 simp only [entOk,Bool.and_eq_true,decide_eq_true_eq] at h
 exact h


def EntR (e:E3):Prop:=Rises e.2.1∧(∀ x ∈ e.2.1,okB x=true)∧e.2.2.Pairwise (· < ·)∧∀ y ∈ e.2.2,itOk y=true
theorem entR_none:EntR e3d:=⟨List.Pairwise.nil,by simp [e3d],List.Pairwise.nil,by simp [e3d]⟩
def nmB (x:I3):Int:=if x.1=14 then 0 else (x.1 - 12)*18+(x.2.1*6+x.2.2+1)
theorem nmB_in {x:I3} (h:okB x=true):0≤nmB x∧nmB x≤36:=by
 unfold okB inB at h
 unfold nmB
 split at h
 ·rename_i h1;rw [if_pos h1];omega
 ·rename_i h1
  rw [if_neg h1]
  split at h
  ·simp at h;omega
  ·cases h
theorem nmB_inj {x y:I3} (h:okB x=true) (h':okB y=true) (e:nmB x=nmB y):x=y:=by
 obtain ⟨a,b,c⟩:=x
 obtain ⟨a',b',c'⟩:=y
 unfold okB inB at h h'
 unfold nmB at e
 simp only at h h' e
 by_cases h1:a=14<;>by_cases h2:a'=14
 ·rw [if_pos h1] at h;rw [if_pos h2] at h'
  simp at h h'
  obtain ⟨rfl,rfl⟩:=h
  obtain ⟨rfl,rfl⟩:=h'
  rw [h1,h2]
 ·rw [if_pos h1] at h e;rw [if_neg h2] at h' e
  split at h'
  ·simp at h';exfalso;omega
  ·cases h'
 ·rw [if_neg h1] at h e;rw [if_pos h2] at h' e
  split at h
  ·simp at h;exfalso;omega
  ·cases h
 ·rw [if_neg h1] at h e;rw [if_neg h2] at h' e
  split at h
  ·split at h'
   ·simp at h h'
    have e1:a=a':=by omega
    have e2:b=b':=by omega
    have e3:c=c':=by omega
    rw [e1,e2,e3]
   ·cases h'
  ·cases h
theorem nodup_map9 {f:I3→Int}:∀ {xs:List I3},xs.Nodup→(∀ x ∈ xs,∀ y ∈ xs,f x=f y→x=y)→(xs.map f).Nodup
 | [],_,_=>List.nodup_nil
 | x::xs,hn,hc=>by
  obtain ⟨h1,h2⟩:=List.nodup_cons.1 hn
  rw [List.map_cons,List.nodup_cons]
  refine ⟨fun hm=>?_,nodup_map9 h2 (fun y hy z hz=>hc y (List.mem_cons_of_mem _ hy) z (List.mem_cons_of_mem _ hz))⟩
  obtain ⟨y,hy,e⟩:=List.mem_map.1 hm
  have:=hc x (List.mem_cons_self ..) y (List.mem_cons_of_mem _ hy) e.symm
  subst this
  exact h1 hy
theorem Rises.nodup11 {xs:List I3} (h:Rises xs):xs.Nodup:=h.imp (fun h e=>by subst e;rw [ltB_irrefl] at h;cases h)
theorem EntR.bugs {e:E3} (h:EntR e):e.2.1.length≤37:=by
 have h1:=nodup_few (nodup_map9 h.1.nodup11 (f:=nmB) (fun x hx y hy=>nmB_inj (h.2.1 x hx) (h.2.1 y hy))) (a:=0) (b:=36) (fun y hy=>by
  obtain ⟨x,hx,rfl⟩:=List.mem_map.1 hy
  exact nmB_in (h.2.1 x hx))
 rw [List.length_map] at h1
 omega
theorem EntR.foot {e:E3} (h:EntR e):e.2.2.length≤23:=by
 have h1:=rise_len e.2.2 0 22 h.2.2.1 (fun x hx=>by
  have:=h.2.2.2 x hx
  unfold itOk at this
  simp only [decide_eq_true_eq] at this
  omega)
 omega
theorem riseB_lt9 {xs:List I3} (h:riseB xs=true):∀ {j i:Nat},i<j→j<xs.length→ltB (xs.getD i (0,0,0)) (xs.getD j (0,0,0))=true
 | 0,i,hi,_=>by omega
 | j+1,i,hi,hj=>by
  have hn:=allR_at h hj
  simp only [bStep,Bool.and_eq_true,Bool.or_eq_true,decide_eq_true_eq] at hn
  have hn2:ltB (xs.getD j (0,0,0)) (xs.getD (j+1) (0,0,0))=true:=by
   rcases hn.2 with h0 | h1
   ·omega
   ·simpa using h1
  by_cases e:i=j
  ·rw [e];exact hn2
  ·exact ltB_trans (riseB_lt9 h (j:=j) (i:=i) (by omega) (by omega)) hn2
theorem riseI_lt9 {xs:List Int} (h:riseI xs=true):∀ {j i:Nat},i<j→j<xs.length→xs.getD i 0<xs.getD j 0
 | 0,i,hi,_=>by omega
 | j+1,i,hi,hj=>by
  have hn:=allR_at h hj
  simp only [iStep,Bool.and_eq_true,Bool.or_eq_true,decide_eq_true_eq] at hn
  have hn2:xs.getD j 0<xs.getD (j+1) 0:=by
   rcases hn.2 with h0 | h1
   ·omega
   ·simpa using h1
  by_cases e:i=j
  ·rw [e];exact hn2
  ·exact Int.lt_trans (riseI_lt9 h (j:=j) (i:=i) (by omega) (by omega)) hn2
theorem riseB_up {xs:List I3} (h:riseB xs=true):Rises xs:=by
 refine List.pairwise_iff_getElem.2 (fun i j hi hj hij=>?_)
 have:=riseB_lt9 h hij hj
 simpa [List.getD,List.getElem?_eq_getElem hi,List.getElem?_eq_getElem hj] using this
theorem riseI_up {xs:List Int} (h:riseI xs=true):xs.Pairwise (· < ·):=by
 refine List.pairwise_iff_getElem.2 (fun i j hi hj hij=>?_)
 have:=riseI_lt9 h hij hj
 simpa [List.getD,List.getElem?_eq_getElem hi,List.getElem?_eq_getElem hj] using this
theorem riseI_all {xs:List Int} (h:riseI xs=true):∀ x ∈ xs,itOk x=true:=by
 intro x hx
 obtain ⟨t,ht,rfl⟩:=List.getElem_of_mem hx
 have:=(riseI_at h t ht).2
 simpa [List.getD,List.getElem?_eq_getElem ht] using this
theorem entR_of {e:E3} (h:entOk e=true):EntR e:=by
 obtain ⟨_,h2,h3,_⟩:=entOk_parts h
 refine ⟨?_,riseB_okB h2,?_,?_⟩
 ·exact riseB_up h2
 ·exact riseI_up h3
 ·exact riseI_all h3


theorem full_tree {rows:List (List I3)} (hp:progOk rows=true) (h:(fullS rows).length≤2000) (x:V4):x ∈ (fullS rows).map (·.1)↔x ∈ treeM rows 18 zeroV:=by
 constructor
 ·intro hx
  obtain ⟨r,hr,rfl⟩:=List.mem_map.1 hx
  obtain ⟨j,hj,hje⟩:=List.getElem_of_mem hr
  obtain ⟨p1,p2,p3⟩:=path_run (fullS_came rows) (fullS_head rows) j j r (Nat.le_refl _) (by rw [List.getElem?_eq_getElem hj,hje])
  have hlen:=run_len hp _ zeroV [] zero_shape p2
  have h18:=left18 hp zeroV
  unfold leftN at h18
  have:=tree_run 18 _ zeroV [] (show (pathS (fullS rows) j j).length≤18 by omega) p2
  rw [p1] at this
  exact this
 ·refine tree_sub (fun y=>y ∈ (fullS rows).map (·.1)) (fun y hy t ht=>?_) 18 zeroV ?_ x
  ·obtain ⟨r,hr,rfl⟩:=List.mem_map.1 hy
   exact fullS_closed h r hr t ht
  ·exact List.mem_map.2 ⟨(zeroV,0,0),List.mem_of_getElem? (fullS_head rows),rfl⟩
theorem keys_few {C:List V4} {es:List E3} (h:UpE es) (hk:∀ e ∈ es,∃ s ∈ C,e.1=keyT s):es.length≤C.length:=by
 have h1:(es.map (·.1)).Nodup:=by
  unfold UpE at h
  rw [List.Nodup,List.pairwise_map]
  exact h.imp (fun h9 e=>by rw [e,ltS_irrefl] at h9;cases h9)
 have h2:=nodup_le (es.map (·.1)) (C.map keyT) h1 (fun k hx=>by
  obtain ⟨e,he,rfl⟩:=List.mem_map.1 hx
  obtain ⟨s,hs,h9⟩:=hk e he
  exact List.mem_map.2 ⟨s,hs,h9.symm⟩)
 simpa using h2
theorem visL_room {rows:List (List I3)} {P:Vs11→Prop} {rec:V4→Vs11→E3 × Vs11 × Bool}:∀ (ts:List (Int × V4)) (e:E3) (st:Vs11),(∀ t ∈ ts,∀ st:Vs11,P st→(rec t.2 st).2.2=true∧P (rec t.2 st).2.1)→P st→(visL rec ts e st).2.2=true∧P (visL rec ts e st).2.1
 | [],e,st,hr,ht=>⟨rfl,ht⟩
 | t::ts,e,st,hr,ht=>by
  obtain ⟨h1,h2⟩:=hr t (List.mem_cons_self ..) st ht
  unfold visL
  rw [if_pos h1]
  exact visL_room (rows:=rows) ts _ _ (fun t' ht'=>hr t' (List.mem_cons_of_mem _ ht')) h2
theorem vis_room {rows:List (List I3)} {C:List V4} (hC:∀ x ∈ C,∀ t ∈ nxM rows x,t.2 ∈ C) (hfew:C.length≤1999) (hl:∀ x ∈ C,∀ t ∈ nxM rows x,leftN rows t.2<leftN rows x) :
  ∀ (f:Nat) (m:V4) (st:Vs11),m ∈ C→leftN rows m<f→(UpR st.1∧∀ e ∈ st.1,∃ s ∈ C,e.1=keyT s)→(visM rows f m st).2.2=true∧(UpR (visM rows f m st).2.1.1∧∀ e ∈ (visM rows f m st).2.1.1,∃ s ∈ C,e.1=keyT s)
 | 0,m,st,hm,hf,ht=>by omega
 | f+1,m,st,hm,hf,ht=>by
  have h9:=keys_few ht.1.up ht.2
  obtain ⟨k0,k1⟩:=visL_room (rows:=rows) (P:=fun st=>UpR st.1∧∀ e ∈ st.1,∃ s ∈ C,e.1=keyT s) (rec:=visM rows f) (nxM rows m) (keyT m,localS rows m,lookM m) (st.1,st.2+1) (fun t htm st' ht'=>vis_room hC hfew hl f t.2 st' (hC m hm t htm) (by have:=hl m hm t htm;omega) ht') ht
  have k2:=visL_key (visM rows f) (nxM rows m) (keyT m,localS rows m,lookM m) (st.1,st.2+1) k0
  unfold visM
  by_cases h1:isE st.1 (keyT m)=true
  ·rw [if_pos h1]
   exact ⟨rfl,ht⟩
  ·rw [if_neg h1,if_neg (show ¬ st.1.length=2000 by omega)]
   generalize visL (visM rows f) (nxM rows m) (keyT m,localS rows m,lookM m) (st.1,st.2+1)=R at *
   have h8:=keys_few k1.1.up k1.2
   rw [if_pos k0,if_neg (show ¬ R.2.1.1.length=2000 by omega)]
   refine ⟨rfl,putE_up k1.1 (.inr (by omega)),fun e he=>?_⟩
   rcases putE_memR he with h7 | h7
   ·exact ⟨m,hm,by rw [h7];exact k2⟩
   ·exact k1.2 e h7
def ClosE (rows:List (List I3)) (es:List E3):Prop:=∀ s,shapeOk s=true→entM rows 18 s ∈ es→∀ t ∈ nxM rows s,entM rows 18 t.2 ∈ es
theorem visL_clos {rows:List (List I3)} {L:Nat} {rec:V4→Vs11→E3 × Vs11 × Bool}:∀ (ts:List (Int × V4)) (e:E3) (st:Vs11),
  (∀ t ∈ ts,∀ st:Vs11,TrueM rows st.1→ClosE rows st.1→(rec t.2 st).2.2=true→Left11 rows L st (rec t.2 st).2.1∧ClosE rows (rec t.2 st).2.1.1∧entM rows 18 t.2 ∈ (rec t.2 st).2.1.1)→TrueM rows st.1→ClosE rows st.1→(visL rec ts e st).2.2=true →
  Left11 rows L st (visL rec ts e st).2.1∧ClosE rows (visL rec ts e st).2.1.1∧∀ t ∈ ts,entM rows 18 t.2 ∈ (visL rec ts e st).2.1.1
 | [],e,st,hr,ht,hc,hk=>⟨Left11.refl ht,hc,by simp⟩
 | t::ts,e,st,hr,ht,hc,hk=>by
  unfold visL at hk ⊢
  by_cases h:(rec t.2 st).2.2=true
  ·rw [if_pos h] at hk ⊢
   obtain ⟨h1,h2,h3⟩:=hr t (List.mem_cons_self ..) st ht hc h
   obtain ⟨q1,q2,q3⟩:=visL_clos (L:=L) ts (e.1,mergeB e.2.1 (rec t.2 st).1.2.1,mrgI (e.2.2++(rec t.2 st).1.2.2)) _ (fun t' ht'=>hr t' (List.mem_cons_of_mem _ ht')) h1.1 h2 hk
   refine ⟨h1.trans q1,q2,fun t' ht'=>?_⟩
   rcases List.mem_cons.1 ht' with h9 | h9
   ·rw [h9];exact q1.2.1 _ h3
   ·exact q3 t' h9
  ·rw [if_neg h] at hk
   cases hk
theorem vis_clos {rows:List (List I3)} (hp:progOk rows=true):∀ (f:Nat) (m:V4) (st:Vs11),shapeOk m=true→leftN rows m<f→TrueM rows st.1→ClosE rows st.1→(visM rows f m st).2.2=true→ClosE rows (visM rows f m st).2.1.1
 | 0,m,st,hs,hf,ht,hc,hk=>by omega
 | f+1,m,st,hs,hf,ht,hc,hk=>by
  have hall:=visT9 hp (f:=f+1) hs hf ht hk
  unfold visM at hk hall ⊢
  by_cases h1:isE st.1 (keyT m)=true
  ·rw [if_pos h1]
   exact hc
  ·rw [if_neg h1] at hk hall ⊢
   by_cases h2:st.1.length=2000
   ·rw [if_pos h2] at hk
    cases hk
   ·rw [if_neg h2] at hk hall ⊢
    have key:=visL_clos (rows:=rows) (L:=leftN rows m) (rec:=visM rows f) (nxM rows m) (keyT m,localS rows m,lookM m) (st.1,st.2+1) (fun t htm st' ht' hc' hk'=>by
     obtain ⟨q1,q2⟩:=nx_ok hp hs t htm
     obtain ⟨_,r2,r3⟩:=visT9 hp (f:=f) q1 (by omega) ht' hk'
     exact ⟨r2.mono (by omega),vis_clos hp f t.2 st' q1 (by omega) ht' hc' hk',r3⟩) ht hc
    generalize visL (visM rows f) (nxM rows m) (keyT m,localS rows m,lookM m) (st.1,st.2+1)=R at *
    by_cases h3:R.2.2=true
    ·rw [if_pos h3] at hk hall ⊢
     by_cases h4:R.2.1.1.length=2000
     ·rw [if_pos h4] at hk
      cases hk
     ·rw [if_neg h4] at hall ⊢
      obtain ⟨k1,k2,k3⟩:=key h3
      have e1:R.1=entM rows 18 m:=hall.1
      have hin:∀ e ∈ R.2.1.1,e ∈ putE R.2.1.1 R.1∨e.1=R.1.1:=fun e he=>by
       by_cases h9:e.1=R.1.1
       ·exact .inr h9
       ·left
        have hU:UpE R.2.1.1:=(upR_of k1.1.1).up
        unfold putE
        simp only [List.mem_append,List.mem_singleton]
        cases hi:isE R.2.1.1 R.1.1
        ·simp only [Bool.false_eq_true,if_false]
         rw [← List.take_append_drop (plcE R.2.1.1 R.1.1) R.2.1.1] at he
         rcases List.mem_append.1 he with h8 | h8
         ·exact .inl (.inl h8)
         ·exact .inr h8
        ·simp only [if_true]
         simp only [isE,Bool.and_eq_true,decide_eq_true_eq] at hi
         rw [← List.take_append_drop (plcE R.2.1.1 R.1.1) R.2.1.1] at he
         rcases List.mem_append.1 he with h8 | h8
         ·exact .inl (.inl h8)
         ·rw [List.drop_eq_getElem_cons hi.1] at h8
          rcases List.mem_cons.1 h8 with h7 | h7
          ·exfalso
           have h6:=hi.2
           rw [getD9 hi.1] at h6
           exact h9 (by rw [h7];exact h6)
          ·exact .inr h7
      have hself:R.1 ∈ putE R.2.1.1 R.1:=by unfold putE;simp
      have hin2:∀ s,shapeOk s=true→entM rows 18 s ∈ R.2.1.1→entM rows 18 s ∈ putE R.2.1.1 R.1:=fun s h5 h6=>by
       rcases hin _ h6 with h7 | h7
       ·exact h7
       ·have h8:s=m:=key_inj6 h5 hs (by rw [e1] at h7;exact h7)
        rw [h8,← e1]
        exact hself
      intro s h5 h6 t htm
      rcases putE_memR h6 with h7 | h7
      ·have h8:s=m:=key_inj6 h5 hs (by rw [e1] at h7;exact congrArg (·.1) h7)
       subst h8
       exact hin2 _ (nx_ok hp h5 t htm).1 (k3 t htm)
      ·exact hin2 _ (nx_ok hp h5 t htm).1 (k2 s h5 h7 t htm)
    ·rw [if_neg h3] at hk
     cases hk
theorem fresh_all {rows:List (List I3)} (hp:progOk rows=true) (h:(fullS rows).length≤1999) :
  (visM rows 19 zeroV ([],0)).2.2=true∧(visM rows 19 zeroV ([],0)).1=entM rows 18 zeroV∧TrueM rows (visM rows 19 zeroV ([],0)).2.1.1∧(visM rows 19 zeroV ([],0)).2.1.2=(fullS rows).length∧(visM rows 19 zeroV ([],0)).2.1.1.length=(fullS rows).length∧(visM rows 19 zeroV ([],0)).1.2.1=allI rows (fullS rows):=by
 have hf:leftN rows zeroV<19:=Nat.lt_succ_of_le (left18 hp zeroV)
 have hsh:=fullS_shaped hp
 have hm0:zeroV ∈ (fullS rows).map (·.1):=List.mem_map.2 ⟨(zeroV,0,0),List.mem_of_getElem? (fullS_head rows),rfl⟩
 have hS:∀ x ∈ (fullS rows).map (·.1),shapeOk x=true:=fun x hx=>by
  obtain ⟨r,hr,rfl⟩:=List.mem_map.1 hx
  exact hsh r hr
 have hC:∀ x ∈ (fullS rows).map (·.1),∀ t ∈ nxM rows x,t.2 ∈ (fullS rows).map (·.1):=fun x hx t ht=>by
  obtain ⟨r,hr,rfl⟩:=List.mem_map.1 hx
  exact fullS_closed (by omega) r hr t ht
 have hnil:TrueM rows []:=⟨rfl,by simp⟩
 obtain ⟨k0,k1,k2⟩:=vis_room hC (by rw [List.length_map];omega) (fun x hx t ht=>(nx_ok hp (hS x hx) t ht).2) 19 zeroV ([],0) hm0 hf ⟨upR_nil,by simp⟩
 obtain ⟨r1,r2,r3⟩:=visT9 hp (f:=19) (st:=([],0)) zero_shape hf hnil k0
 have hcl:=vis_clos hp 19 zeroV ([],0) zero_shape hf hnil (by intro s _ h9;simp at h9) k0
 have hl:=r2.2.2.2
 simp only [List.length_nil,Nat.zero_add,Nat.add_zero] at hl
 generalize visM rows 19 zeroV ([],0)=r at *
 have hle:=keys_few k1.up k2
 rw [List.length_map] at hle
 have hall:∀ x ∈ (fullS rows).map (·.1),entM rows 18 x ∈ r.2.1.1:=fun x hx=>by
  have hx2:=(full_tree hp (by omega) x).1 hx
  exact (tree_sub (fun y=>shapeOk y=true∧entM rows 18 y ∈ r.2.1.1) (fun y hy t ht=>⟨(nx_ok hp hy.1 t ht).1,hcl y hy.1 hy.2 t ht⟩) 18 zeroV ⟨zero_shape,r3⟩ x hx2).2
 have hge:(fullS rows).length≤r.2.1.1.length:=by
  have h1:(((fullS rows).map (·.1)).map keyT).Nodup:=by
   have hnd:=fullS_nodup rows
   rw [List.Nodup,List.pairwise_map]
   refine List.Pairwise.imp_of_mem (fun {a b} ha hb hne e=>hne (key_inj6 (hS a ha) (hS b hb) e)) hnd
  have h2:=nodup_le _ (r.2.1.1.map (·.1)) h1 (fun k hk=>by
   obtain ⟨x,hx,rfl⟩:=List.mem_map.1 hk
   exact List.mem_map.2 ⟨entM rows 18 x,hall x hx,rfl⟩)
  simpa using h2
 refine ⟨k0,r1,r2.1,by omega,by omega,?_⟩
 rw [r1]
 show cmB rows 18 zeroV=allI rows (fullS rows)
 rw [← all_same (show (fullS rows).length≤2000 by omega)]
 refine (cmB_rises rows 18 zeroV).same (rises_foldR _ _ List.Pairwise.nil) (fun x=>?_)
 rw [mem_cmB]
 unfold allS
 rw [mem_foldR]
 constructor
 ·rintro ⟨s,h1,h2⟩
  obtain ⟨q,hq,rfl⟩:=List.mem_map.1 ((full_tree hp (by omega) s).2 h1)
  exact .inr ⟨q,hq,h2⟩
 ·rintro (h1 | ⟨q,hq,h2⟩)
  ·simp at h1
  ·exact ⟨q.1,(full_tree hp (by omega) q.1).1 (List.mem_map.2 ⟨q,hq,rfl⟩),h2⟩


def AgrS (rows rows':List (List I3)) (s:V4):Prop:=∀ k,k<3→(codeM rows k)[(s.1.getD k 0).toNat]?=(codeM rows' k)[(s.1.getD k 0).toNat]?
section
variable {rows rows' : List (List I3)} {s : V4}
theorem pc_nat (hs:shapeOk s=true) {k:Nat} (hk:k<3):s.1.getD k 0=(((s.1.getD k 0).toNat:Nat):Int):=by
 have h:=getD_in (shape_bounds hs).1 (by decide) k
 omega
theorem AgrS.done (h:AgrS rows rows' s) (hs:shapeOk s=true) {k:Nat} (hk:k<3):doneM rows s k=doneM rows' s k:=by
 have e:=pc_nat hs hk
 have h1:=h k hk
 unfold doneM
 generalize (s.1.getD k 0).toNat=p at *
 rw [e]
 have a:∀ l:List I3,decide ((l.length:Int)≤(p:Int))=decide (l[p]?=none):=fun l=>by
  by_cases h9:l.length≤p
  ·rw [decide_eq_true (by omega),decide_eq_true (List.getElem?_eq_none h9)]
  ·rw [decide_eq_false (by omega),decide_eq_false (by rw [List.getElem?_eq_none_iff];exact h9)]
 rw [a,a,h1]
theorem AgrS.ins (h:AgrS rows rows' s) {k:Nat} (hk:k<3):insM rows s k=insM rows' s k:=by
 have h1:=h k hk
 unfold insM
 generalize (s.1.getD k 0).toNat=p at *
 unfold List.getD
 rw [h1]
theorem AgrS.can (h:AgrS rows rows' s) (hs:shapeOk s=true) {k:Nat} (hk:k<3):canM rows s k=canM rows' s k:=by
 unfold canM
 rw [h.done hs hk,h.ins hk]
theorem AgrS.enab (h:AgrS rows rows' s) (hs:shapeOk s=true):∀ j,j≤3→enabM rows s j=enabM rows' s j
 | 0,_=>rfl
 | j+1,hj=>by
  have ih:=h.enab hs j (by omega)
  unfold enabM
  rw [h.can hs (by omega),ih]
theorem AgrS.stuck (h:AgrS rows rows' s) (hs:shapeOk s=true):stuckM rows s=stuckM rows' s:=by
 unfold stuckM
 rw [h.enab hs 3 (Nat.le_refl _)]
 congr 1
 rw [leftM_step rows s (show 0<3 by omega),leftM_step rows s (show 1<3 by omega),leftM_step rows s (show 2<3 by omega),leftM_end,leftM_step rows' s (show 0<3 by omega),leftM_step rows' s (show 1<3 by omega),leftM_step rows' s (show 2<3 by omega),leftM_end,h.done hs (show 0<3 by omega),h.done hs (show 1<3 by omega),h.done hs (show 2<3 by omega)]
theorem enab_lt {k:Int} (hk:k ∈ enabM rows s 3):k.toNat<3:=by
 obtain ⟨h0,h2,_⟩:=halt_can (enab_halt hk)
 omega
theorem AgrS.go (h:AgrS rows rows' s) {k:Int} (hk:k ∈ enabM rows s 3):goM rows s k=goM rows' s k:=by
 unfold goM
 rw [h.ins (enab_lt hk)]
theorem AgrS.nx (h:AgrS rows rows' s) (hs:shapeOk s=true):nxM rows s=nxM rows' s:=by
 unfold nxM
 rw [← h.enab hs 3 (Nat.le_refl _)]
 exact List.map_congr_left (fun k hk=>by rw [h.go hk])
theorem AgrS.dead (h:AgrS rows rows' s) (hs:shapeOk s=true):deadM rows s=deadM rows' s:=by
 unfold deadM
 rw [h.stuck hs]
theorem AgrS.own (h:AgrS rows rows' s) {k:Int} (hk:k ∈ enabM rows s 3):ownM rows s k=ownM rows' s k:=by
 unfold ownM
 rw [h.go hk]
end
theorem tree_agree {rows rows':List (List I3)} (hp:progOk rows=true):∀ (f:Nat) (m:V4),shapeOk m=true→(∀ x ∈ treeM rows f m,AgrS rows rows' x)→treeM rows f m=treeM rows' f m
 | 0,m,hs,h=>rfl
 | f+1,m,hs,h=>by
  have hm:=h m (tree_head rows (f+1) m)
  simp only [treeM]
  rw [← hm.nx hs]
  congr 1
  have hx:∀ t ∈ nxM rows m,treeM rows f t.2=treeM rows' f t.2:=fun t ht=>tree_agree hp f t.2 (nx_ok hp hs t ht).1 (fun x hx=>h x (by
   simp only [treeM,List.mem_cons,List.mem_flatMap]
   exact .inr ⟨t,ht,hx⟩))
  generalize nxM rows m=ts at *
  clear hm h
  induction ts with
  | nil=>rfl
  | cons t ts ih =>
   rw [List.flatMap_cons,List.flatMap_cons,hx t (List.mem_cons_self ..),ih (fun t' ht'=>hx t' (List.mem_cons_of_mem _ ht'))]
theorem mem_local_agree {rows rows':List (List I3)} (hp:progOk rows=true) {s:V4} (hs:shapeOk s=true) (h:AgrS rows rows' s) (hn:∀ t ∈ nxM rows s,AgrS rows rows' t.2) (x:I3):x ∈ localS rows s↔x ∈ localS rows' s:=by
 rw [mem_localS,mem_localS,← h.enab hs 3 (Nat.le_refl _),h.dead hs]
 have hk:∀ k ∈ enabM rows s 3,(x ∈ foundM rows s k↔x ∈ foundM rows' s k):=fun k hk=>by
  have ht:((k,(goM rows s k).1):Int × V4) ∈ nxM rows s:=by unfold nxM;exact List.mem_map.2 ⟨k,hk,rfl⟩
  have h1:=hn _ ht
  have h2:=(nx_ok hp hs _ ht).1
  rw [mem_foundM,mem_foundM,h.own hk,← h.go hk,h1.dead h2]
 constructor
 ·rintro (h9 | ⟨k,h9,h8⟩)
  ·exact .inl h9
  ·exact .inr ⟨k,h9,(hk k h9).1 h8⟩
 ·rintro (h9 | ⟨k,h9,h8⟩)
  ·exact .inl h9
  ·exact .inr ⟨k,h9,(hk k h9).2 h8⟩
theorem entM_agree {rows rows':List (List I3)} (hp:progOk rows=true) {m:V4} (hs:shapeOk m=true) (h:∀ x ∈ treeM rows 18 m,AgrS rows rows' x):entM rows 18 m=entM rows' 18 m:=by
 have ht:=tree_agree hp 18 m hs h
 have hB:cmB rows 18 m=cmB rows' 18 m:=(cmB_rises rows 18 m).same (cmB_rises rows' 18 m) (fun x=>by
  rw [mem_cmB,mem_cmB,← ht]
  have key:∀ s ∈ treeM rows 18 m,(x ∈ localS rows s↔x ∈ localS rows' s):=fun s hs9=>mem_local_agree hp (tree_shape hp hs s hs9) (h s hs9) (fun t htn=>h _ (tree_closed hp 18 m hs (left18 hp m) s hs9 t htn)) x
  constructor
  ·rintro ⟨s,h1,h2⟩;exact ⟨s,h1,(key s h1).1 h2⟩
  ·rintro ⟨s,h1,h2⟩;exact ⟨s,h1,(key s h1).2 h2⟩)
 have hF:cmF rows 18 m=cmF rows' 18 m:=by
  unfold cmF
  rw [ht]
 unfold entM
 rw [hB,hF]
end Go.Proofs.YtgmhhegckcionaaGreatDoor
