/-
  Joined: FulQ, FulB, FulD, NrmQ, SlpP, SlpQ, Tab.
-/
import Derived.IntWalk
import Derived.Test.YtojcgajjnmjjpaaDoorC27

namespace Go.Proofs.YtojcgajjnmjjpaaDoor
set_option maxRecDepth 100000
set_option maxHeartbeats 16000000
set_option linter.unusedVariables false

def nxM (rows:List (List I3)) (m:V4):List (Int × V4):=(enabM rows m 3).map fun k=>(k,(goM rows m k).1)
theorem nxM_mem {rows:List (List I3)} {m:V4} {t:Int × V4} (h:t ∈ nxM rows m):haltM rows m t.1=0∧t.2=(goM rows m t.1).1:=by
 unfold nxM at h
 obtain ⟨k,hk,rfl⟩:=List.mem_map.1 h
 obtain ⟨i,hi,hie⟩:=List.getElem_of_mem hk
 obtain ⟨k',e,h3,hc⟩:=enab_at hi
 have e2:(enabM rows m 3).getD i 0=k:=by simp [List.getD,hi,hie]
 rw [e2] at e
 subst e
 exact ⟨halt_go h3 hc,rfl⟩
theorem nxM_shape {rows:List (List I3)} {m:V4} (hp:progOk rows=true) (hs:shapeOk m=true) {t:Int × V4} (h:t ∈ nxM rows m):shapeOk t.2=true:=by
 obtain ⟨h1,h2⟩:=nxM_mem h
 rw [h2]
 exact goM_shape hp hs h1
def fullS (rows:List (List I3)):List (Rec6 V4):=srch (nxM rows) 2000 0 [(zeroV,0,0)]
def Shaped (S:List (Rec6 V4)):Prop:=∀ r ∈ S,shapeOk r.1=true
theorem putS_shaped {i:Nat} {S:List (Rec6 V4)} {t:Int × V4} (h:Shaped S) (ht:shapeOk t.2=true):Shaped (putS i S t):=by
 unfold putS
 split
 ·exact h
 ·intro r hr
  rcases List.mem_append.1 hr with hr | hr
  ·exact h r hr
  ·simp at hr
   subst hr
   exact ht
theorem onS_shaped {i:Nat}:∀ (ts:List (Int × V4)) (S:List (Rec6 V4)),Shaped S→(∀ t ∈ ts,shapeOk t.2=true)→Shaped (onS i S ts)
 | [],S,h,_=>h
 | t::ts,S,h,ht=>onS_shaped ts _ (putS_shaped h (ht t (by simp))) (fun u hu=>ht u (by simp [hu]))
theorem srch_shaped {rows:List (List I3)} (hp:progOk rows=true):∀ (f i:Nat) (S:List (Rec6 V4)),Shaped S→Shaped (srch (nxM rows) f i S)
 | 0,_,S,h=>h
 | f+1,i,S,h=>by
  unfold srch
  split
  ·exact h
  ·rename_i r hr
   exact srch_shaped hp f (i+1) _ (onS_shaped _ S h (fun t ht=>nxM_shape hp (h r (List.mem_of_getElem? hr)) ht))
theorem fullS_shaped {rows:List (List I3)} (hp:progOk rows=true):Shaped (fullS rows):=srch_shaped hp _ _ _ (fun r hr=>by simp at hr;subst hr;exact zero_shape)
theorem fullS_head (rows:List (List I3)):(fullS rows)[0]?=some (zeroV,0,0):=by
 obtain ⟨r,hr⟩:=srch_pre (nxM rows) 2000 0 [(zeroV,0,0)]
 unfold fullS
 rw [← hr]
 rfl
theorem fullS_closed {rows:List (List I3)} (h:(fullS rows).length≤2000):∀ r ∈ fullS rows,∀ t ∈ nxM rows r.1,t.2 ∈ (fullS rows).map (·.1):=
 srch_closed 2000 0 _ (fun j r hj=>by omega) (by omega) (by unfold fullS at h;omega)


def remM (rows:List (List I3)) (m:V4) (k:Nat):Nat:=(codeM rows k).length - (m.1.getD k 0).toNat
theorem rem_step {rows:List (List I3)} {m:V4} (hp:progOk rows=true) (hs:shapeOk m=true) {k:Nat} (hk:k<3) (hd:doneM rows m k=false) :
  remM rows (goM rows m k).1 k+1≤remM rows m k∧∀ j,j≠k→remM rows (goM rows m k).1 j=remM rows m j:=by
 have h1:=stepM_own hp hs hk hd
 have hb:=shape_bounds hs
 have hpc:=getD_in hb.1 (by omega) k
 have hlt:m.1.getD k 0<(codeM rows k).length:=by
  unfold doneM at hd
  rw [decide_eq_false_iff_not] at hd
  omega
 rw [goM_natC]
 refine ⟨?_,fun j hj=>?_⟩
 ·unfold remM
  omega
 ·unfold remM
  rw [stepM_other m _ hj]


def capN (n:Nat):Nat:=Nat.min n 1000000
def cntF (rows:List (List I3)):Nat→V4→Nat
 | 0,_=>1
 | f+1,m=>if enabM rows m 3=[] then 1 else capN ((enabM rows m 3).map fun k=>cntF rows f (goM rows m k).1).sum
def leftN (rows:List (List I3)) (m:V4):Nat:=remM rows m 0+remM rows m 1+remM rows m 2
def cntM (rows:List (List I3)) (m:V4):Nat:=cntF rows (leftN rows m) m
theorem left_step {rows:List (List I3)} {m:V4} (hp:progOk rows=true) (hs:shapeOk m=true) {k:Int} (h:haltM rows m k=0):leftN rows (goM rows m k).1+1≤leftN rows m:=by
 obtain ⟨h0,h2,hd,hc⟩:=halt_can h
 obtain ⟨q,rfl⟩:∃ q:Nat,k=q:=⟨k.toNat,by omega⟩
 rw [Int.toNat_natCast] at hd
 obtain ⟨r1,r2⟩:=rem_step hp hs (show q<3 by omega) hd
 unfold leftN
 have hq:q=0∨q=1∨q=2:=by omega
 rcases hq with rfl | rfl | rfl
 ·have a:=r2 1 (by omega);have b:=r2 2 (by omega);omega
 ·have a:=r2 0 (by omega);have b:=r2 2 (by omega);omega
 ·have a:=r2 0 (by omega);have b:=r2 1 (by omega);omega
theorem enab_halt {rows:List (List I3)} {m:V4} {k:Int} (h:k ∈ enabM rows m 3):haltM rows m k=0:=(nxM_mem (t:=(k,(goM rows m k).1)) (List.mem_map.2 ⟨k,h,rfl⟩)).1
theorem enab_none {rows:List (List I3)} {m:V4} (hp:progOk rows=true) (hs:shapeOk m=true) (h:leftN rows m=0):enabM rows m 3=[]:=by
 rw [List.eq_nil_iff_forall_not_mem]
 intro k hk
 have:=left_step hp hs (enab_halt hk)
 omega
theorem cntF_more {rows:List (List I3)} (hp:progOk rows=true):∀ (f:Nat) (m:V4),shapeOk m=true→leftN rows m≤f→cntF rows (f+1) m=cntF rows f m
 | 0,m,hs,h=>by
  show (if enabM rows m 3=[] then 1 else _)=1
  rw [if_pos (enab_none hp hs (by omega))]
 | f+1,m,hs,h=>by
  show (if enabM rows m 3=[] then 1 else capN ((enabM rows m 3).map fun k=>cntF rows (f+1) (goM rows m k).1).sum)=(if enabM rows m 3=[] then 1 else capN ((enabM rows m 3).map fun k=>cntF rows f (goM rows m k).1).sum)
  have e:((enabM rows m 3).map fun k=>cntF rows (f+1) (goM rows m k).1)=((enabM rows m 3).map fun k=>cntF rows f (goM rows m k).1):=by
   refine List.map_congr_left (fun k hk=>?_)
   have hz:=enab_halt hk
   exact cntF_more hp f _ (goM_shape hp hs hz) (by have:=left_step hp hs hz;omega)
  rw [e]
theorem cntF_any {rows:List (List I3)} (hp:progOk rows=true) {m:V4} (hs:shapeOk m=true):∀ (d:Nat),cntF rows (leftN rows m+d) m=cntM rows m
 | 0=>rfl
 | d+1=>by
  rw [← Nat.add_assoc,cntF_more hp _ m hs (by omega)]
  exact cntF_any hp hs d
theorem cnt_eq {rows:List (List I3)} (hp:progOk rows=true) {m:V4} (hs:shapeOk m=true):cntM rows m=if enabM rows m 3=[] then 1 else capN ((enabM rows m 3).map fun k=>cntM rows (goM rows m k).1).sum:=by
 have h1:cntM rows m=cntF rows (leftN rows m+1) m:=(cntF_any hp hs 1).symm
 rw [h1]
 show (if enabM rows m 3=[] then 1 else capN ((enabM rows m 3).map fun k=>cntF rows (leftN rows m) (goM rows m k).1).sum)=_
 have e:((enabM rows m 3).map fun k=>cntF rows (leftN rows m) (goM rows m k).1)=((enabM rows m 3).map fun k=>cntM rows (goM rows m k).1):=by
  refine List.map_congr_left (fun k hk=>?_)
  have hz:=enab_halt hk
  have hl:=left_step hp hs hz
  obtain ⟨d,hd⟩:∃ d,leftN rows m=leftN rows (goM rows m k).1+d:=⟨leftN rows m - leftN rows (goM rows m k).1,by omega⟩
  rw [hd]
  exact cntF_any hp (goM_shape hp hs hz) d
 rw [e]
theorem capN_le (n:Nat):capN n≤1000000:=Nat.min_le_right _ _
theorem capN_eq (n:Nat):capN n=min n 1000000:=rfl
theorem cnt_bounds {rows:List (List I3)} (hp:progOk rows=true):∀ (f:Nat) (m:V4),shapeOk m=true→leftN rows m≤f→1≤cntM rows m∧cntM rows m≤1000000
 | 0,m,hs,h=>by
  rw [cnt_eq hp hs,if_pos (enab_none hp hs (by omega))]
  omega
 | f+1,m,hs,h=>by
  rw [cnt_eq hp hs]
  by_cases he:enabM rows m 3=[]
  ·rw [if_pos he];omega
  ·rw [if_neg he]
   refine ⟨?_,capN_le _⟩
   cases hx:enabM rows m 3 with
   | nil=>exact absurd hx he
   | cons k ks =>
    have hk:k ∈ enabM rows m 3:=by rw [hx];simp
    have hz:=enab_halt hk
    have:=(cnt_bounds hp f _ (goM_shape hp hs hz) (by have:=left_step hp hs hz;omega)).1
    rw [List.map_cons,List.sum_cons,capN_eq]
    omega
theorem cap_fold (F:Int→Nat):∀ (ks:List Int) (s:Nat),s≤1000000→ks.foldl (fun s k=>capN (s+F k)) s=capN (s+(ks.map F).sum)
 | [],s,h=>by simp [capN_eq];omega
 | k::ks,s,h=>by
  rw [List.foldl_cons,cap_fold F ks _ (capN_le _),List.map_cons,List.sum_cons]
  simp only [capN_eq]
  omega
def pcsN (m:V4):Int:=m.1.getD 0 0+m.1.getD 1 0+m.1.getD 2 0
theorem pcs_step {rows:List (List I3)} {m:V4} (hp:progOk rows=true) (hs:shapeOk m=true) {k:Int} (h:haltM rows m k=0):pcsN m<pcsN (goM rows m k).1:=by
 obtain ⟨h0,h2,hd,hc⟩:=halt_can h
 obtain ⟨q,rfl⟩:∃ q:Nat,k=q:=⟨k.toNat,by omega⟩
 rw [Int.toNat_natCast] at hd
 have h1:=stepM_own hp hs (show q<3 by omega) hd
 have ho:=fun j (hj:j≠q)=>stepM_other m (insM rows m q) hj
 rw [goM_natC]
 unfold pcsN
 have hq:q=0∨q=1∨q=2:=by omega
 rcases hq with rfl | rfl | rfl
 ·have a:=ho 1 (by omega);have b:=ho 2 (by omega);omega
 ·have a:=ho 0 (by omega);have b:=ho 2 (by omega);omega
 ·have a:=ho 0 (by omega);have b:=ho 1 (by omega);omega
theorem pcs_bounds {m:V4} (hs:shapeOk m=true):0≤pcsN m∧pcsN m≤18:=by
 have hb:=(shape_bounds hs).1
 have a:=getD_in hb (by omega) 0
 have b:=getD_in hb (by omega) 1
 have c:=getD_in hb (by omega) 2
 unfold pcsN
 omega


theorem depM_symm (x y:I4):depM x y=depM y x:=by
 unfold depM
 by_cases h1:x.1=y.1
 ·simp [h1]
 ·have h1':¬ y.1=x.1:=fun e=>h1 e.symm
  by_cases h2:x.2.2.2=y.2.2.2
  ·simp only [h1,h1',h2,decide_false,Bool.false_or,decide_true,Bool.and_true]
   rw [Bool.and_comm (decide (x.2.2.1=1))]
  ·have h2':¬ y.2.2.2=x.2.2.2:=fun e=>h2 e.symm
   simp [h1,h1',h2,h2']
theorem depM_thread {x y:I4} (h:x.1=y.1):depM x y=true:=by unfold depM;simp [h]
def Free (es:List I4) (e:I4) (rest:List I4):Prop:=∃ a b,es=a++e::b∧rest=a++b∧∀ x ∈ a,depM x e=false
def Pick (es:List I4) (e:I4) (rest:List I4):Prop:=Free es e rest∧∀ e' rest',Free es e' rest'→e.1≤e'.1
inductive Nrm:List I4→List Int→Prop
 | nil:Nrm [] []
 | cons {es rest:List I4} {e:I4} {ts:List Int}:Pick es e rest→Nrm rest ts→Nrm es (e.1::ts)
def Sw1 (es es':List I4):Prop:=∃ a x y b,es=a++x::y::b∧es'=a++y::x::b∧depM x y=false
inductive Sw:List I4→List I4→Prop
 | refl (es:List I4):Sw es es
 | step {es es' es'':List I4}:Sw es es'→Sw1 es' es''→Sw es es''
theorem Sw1.symm {es es':List I4} (h:Sw1 es es'):Sw1 es' es:=by
 obtain ⟨a,x,y,b,h1,h2,h3⟩:=h
 exact ⟨a,y,x,b,h2,h1,by rw [depM_symm];exact h3⟩
theorem Sw.trans {a b c:List I4} (h:Sw a b) (g:Sw b c):Sw a c:=by
 induction g with
 | refl=>exact h
 | step _ s ih=>exact .step ih s
theorem Sw.symm {a b:List I4} (h:Sw a b):Sw b a:=by
 induction h with
 | refl=>exact .refl _
 | step _ s ih=>exact (Sw.step (.refl _) s.symm).trans ih
theorem Sw1.cons {es es':List I4} (e:I4) (h:Sw1 es es'):Sw1 (e::es) (e::es'):=by
 obtain ⟨a,x,y,b,h1,h2,h3⟩:=h
 exact ⟨e::a,x,y,b,by rw [h1];rfl,by rw [h2];rfl,h3⟩
theorem Sw.cons {es es':List I4} (e:I4) (h:Sw es es'):Sw (e::es) (e::es'):=by
 induction h with
 | refl=>exact .refl _
 | step _ s ih=>exact .step ih (s.cons e)


theorem left_18 {rows:List (List I3)} (hp:progOk rows=true) (m:V4):leftN rows m≤18:=by
 obtain ⟨h1,h2⟩:=progOk_parts hp
 have h:∀ k,(codeM rows k).length≤6:=fun k=>by
  unfold codeM
  rcases Nat.lt_or_ge k rows.length with hk | hk
  ·simp only [List.getD,List.getElem?_eq_getElem hk,Option.getD_some]
   exact (h2 _ (List.getElem_mem hk)).1
  ·simp [List.getD,List.getElem?_eq_none hk]
 unfold leftN remM
 have a:=h 0;have b:=h 1;have c:=h 2
 omega


theorem runI_shift (rows:List (List I3)):∀ (ks:List Int) (m:V4) (fs:List I3),runI rows m fs ks=((runI rows m [] ks).1,fs++(runI rows m [] ks).2.1,(runI rows m [] ks).2.2)
 | [],m,fs=>by simp [runI]
 | k::ks,m,fs=>by
  by_cases hz:haltM rows m k=0
  ·rw [runI_yes hz,runI_yes hz,runI_shift rows ks _ (fs++ownM rows m k),runI_shift rows ks _ ([]++ownM rows m k)]
   simp
  ·have e:∀ f,runI rows m f (k::ks)=(m,f,haltM rows m k):=fun f=>by
    show (if haltM rows m k=0 then _ else _)=_
    rw [if_neg hz]
   rw [e,e]
   simp
def Eq7 (rows:List (List I3)) (m:V4) (ks ks':List Int):Prop:=(runI rows m [] ks').2.2=0∧(runI rows m [] ks').1=(runI rows m [] ks).1∧Sw (evsM rows m ks) (evsM rows m ks')∧∀ x,x ∈ (runI rows m [] ks').2.1↔x ∈ (runI rows m [] ks).2.1
theorem Eq7.trans {rows:List (List I3)} {m:V4} {a b c:List Int} (h:Eq7 rows m a b) (g:Eq7 rows m b c):Eq7 rows m a c:=⟨g.1,g.2.1.trans h.2.1,h.2.2.1.trans g.2.2.1,fun x=>(g.2.2.2 x).trans (h.2.2.2 x)⟩
theorem run_front {rows:List (List I3)} {m:V4} {k:Int} {ks:List Int} (hz:haltM rows m k=0):runI rows m [] (k::ks)=((runI rows (goM rows m k).1 [] ks).1,ownM rows m k++(runI rows (goM rows m k).1 [] ks).2.1,(runI rows (goM rows m k).1 [] ks).2.2):=by
 rw [runI_yes hz,runI_shift,List.nil_append]
theorem Eq7.cons {rows:List (List I3)} {m:V4} {k:Int} {a b:List Int} (hz:haltM rows m k=0) (h:Eq7 rows (goM rows m k).1 a b):Eq7 rows m (k::a) (k::b):=by
 obtain ⟨h1,h2,h3,h4⟩:=h
 unfold Eq7
 rw [run_front hz,run_front hz]
 refine ⟨h1,h2,Sw.cons _ h3,fun x=>?_⟩
 simp only [List.mem_append,h4]

open Go.RowKit

def tab (n:Nat) (f:Nat→Value):List Value:=(List.range n).map f
theorem tab_get {n i:Nat} (f:Nat→Value) (h:i<n):(tab n f)[i]?=some (f i):=by simp [tab,h]
theorem tab_congr {n:Nat} {f g:Nat→Value} (h:∀ i,i<n→f i=g i):tab n f=tab n g:=by
 unfold tab
 refine List.map_congr_left (fun i hi=>h i (by simpa using hi))
theorem tab_set (n i:Nat) (f:Nat→Value) (v:Value):(tab n f).set i v=tab n (fun j=>if j=i then v else f j):=by
 refine List.ext_getElem (by simp [tab]) (fun j h1 h2=>?_)
 simp only [tab,List.length_set,List.length_map,List.length_range] at h1
 rw [List.getElem_set]
 simp only [tab,List.getElem_map,List.getElem_range]
 by_cases e:j=i
 ·subst e;simp
 ·simp [e,Ne.symm e]
theorem made_tab (z:Value) (n:Nat):(madeCells #[z] n).toList=tab n fun _=>z:=by
 unfold madeCells tab
 refine List.ext_getElem (by simp) (fun j h1 h2=>?_)
 simp [Nat.mod_one]
theorem made_tab3 (z:Value) (n:Nat):(madeCells #[z,z,z] n).toList=tab n fun _=>z:=by
 unfold madeCells tab
 refine List.ext_getElem (by simp) (fun j h1 h2=>?_)
 have h3:j % 3<3:=Nat.mod_lt _ (by omega)
 simp
 match j % 3,h3 with
 | 0,_=>rfl
 | 1,_=>rfl
 | 2,_=>rfl
theorem blk_of_full {w:World} {B e s g n:Nat} {xs:List Value} (h:w.ownsRow B e s (.slice (some ⟨g,0,none⟩) n n) n xs):Blk w g e xs∧B≤g:=by
 obtain ⟨hl,h | ⟨g',cap,cur,hv,hB,hg,h1,h2,h3,h4⟩⟩:=h
 ·cases h.1
 ·cases hv
  refine ⟨?_,hB⟩
  unfold Blk
  rw [hg,← h4,List.take_of_length_le (by simp [h3])]
def tab2 (n:Nat) (F:Nat→Nat→Bool):List Value:=tab (n*n) fun j=>.bool (F (j / n) (j % n))
theorem at_two {n i k:Nat} (hi:i<n) (hk:k<n):i*n+k<n*n∧(i*n+k) / n=i∧(i*n+k) % n=k:=by
 refine ⟨?_,?_,?_⟩
 ·have:(i+1)*n≤n*n:=Nat.mul_le_mul_right n (by omega)
  rw [Nat.add_mul] at this
  omega
 ·rw [Nat.mul_comm,Nat.mul_add_div (by omega),Nat.div_eq_of_lt hk,Nat.add_zero]
 ·rw [Nat.mul_comm,Nat.mul_add_mod,Nat.mod_eq_of_lt hk]
theorem tab2_get {n i k:Nat} (F:Nat→Nat→Bool) (hi:i<n) (hk:k<n):(tab2 n F)[i*n+k]?=some (.bool (F i k)):=by
 obtain ⟨h1,h2,h3⟩:=at_two hi hk
 unfold tab2
 rw [tab_get _ h1,h2,h3]
theorem tab2_congr {n:Nat} {F G:Nat→Nat→Bool} (h:∀ i k,i<n→k<n→F i k=G i k):tab2 n F=tab2 n G:=by
 refine tab_congr (fun j hj=>?_)
 have hn:0<n:=by
  rcases Nat.eq_zero_or_pos n with e | e
  ·subst e;simp at hj
  ·exact e
 rw [h _ _ ((Nat.div_lt_iff_lt_mul hn).2 hj) (Nat.mod_lt _ hn)]
theorem tab2_set {n i k:Nat} (F:Nat→Nat→Bool) (b:Bool) (hi:i<n) (hk:k<n):(tab2 n F).set (i*n+k) (.bool b)=tab2 n (fun h c=>if h=i∧c=k then b else F h c):=by
 obtain ⟨h1,h2,h3⟩:=at_two hi hk
 unfold tab2
 rw [tab_set]
 refine tab_congr (fun j hj=>?_)
 by_cases e:j=i*n+k
 ·subst e
  rw [if_pos rfl,h2,h3]
  simp only [and_self,if_true]
 ·rw [if_neg e]
  have e9:¬ (j / n=i∧j % n=k):=by
   rintro ⟨e1,e2⟩
   apply e
   have:=Nat.div_add_mod j n
   rw [e1,e2,Nat.mul_comm] at this
   exact this.symm
  simp only [if_neg e9]
theorem ix_two {n i k N:Nat} (hN:N=n*n) (hb:N≤16777216) (hi:i<n) (hk:k<n):∃ M P:Nat,wrap64 ((i:Int)*(n:Int))=(M:Int)∧wrap64 ((M:Int)+(k:Int))=(P:Int)∧(P:Int)<(N:Int)∧(0:Int)≤(P:Int)∧P=i*n+k:=by
 have h1:=(at_two hi hk).1
 rw [← hN] at h1
 refine ⟨i*n,i*n+k,?_,?_,Int.ofNat_lt.2 h1,Int.natCast_nonneg _,rfl⟩
 ·rw [← Int.natCast_mul]
  generalize i*n=M at h1
  exact IntWalk.wrap64_in _ ⟨by omega,by omega⟩
 ·rw [← Int.natCast_add]
  generalize i*n+k=P at h1
  exact IntWalk.wrap64_in _ ⟨by omega,by omega⟩
theorem wrap_sq {n N:Nat} (hN:N=n*n) (hb:N≤16777216):wrap64 ((n:Int)*(n:Int))=(N:Int):=by
 rw [← Int.natCast_mul,← hN]
 exact IntWalk.wrap64_in _ ⟨by omega,by omega⟩
end Go.Proofs.YtojcgajjnmjjpaaDoor
