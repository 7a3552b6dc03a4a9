/-
  Joined: Rw3, KeyB, SrcP, SpcP.
-/
import Derived.Maps.OwnSet
import Derived.Test.YtjgffnlmjmibgaaDoorN31
import Derived.Test.YtjgffnlmjmibgaaDoorN33

namespace Go.Proofs.YtjgffnlmjmibgaaDoor
set_option maxRecDepth 100000
set_option maxHeartbeats 16000000
open Go.RowKit
set_option linter.unusedVariables false

def Ap3 (v u:Value):Prop:=∀ g,v.ownBlock=some g→u.ownBlock≠some g
theorem Ap3.symm {v u:Value} (h:Ap3 v u):Ap3 u v:=fun g hg h2=>h g h2 hg
theorem Ap3.or {v u:Value} (h:Ap3 v u):v.ownBlock=none∨v.ownBlock≠u.ownBlock:=by
 cases e:v.ownBlock with
 | none=>exact .inl rfl
 | some g=>exact .inr fun e2=>h g e e2.symm
theorem Ap3.types {w:World} {B B' e e' s s' n n':Nat} {v v':Value} {xs xs':List Value} (h:w.ownsRow B e s v n xs) (h':w.ownsRow B' e' s' v' n' xs') (he:e≠e'):Ap3 v v':=fun g hg h2=>by
 rcases owns_ne h h' he with h3 | h3
 ·rw [h3] at hg;cases hg
 ·exact h3 (hg.trans h2.symm)
theorem own_lt3 {w:World} {B e s n:Nat} {v:Value} {xs:List Value} (h:w.ownsRow B e s v n xs) {g:Nat} (hg:v.ownBlock=some g):B≤g∧g<w.heap.size:=by
 rcases h.2 with ⟨rfl,_⟩ | ⟨g',cap,cur,rfl,hb,hgg,_⟩
 ·simp [Value.ownBlock] at hg
 ·simp [Value.ownBlock] at hg
  subst hg
  refine ⟨hb,?_⟩
  rcases Nat.lt_or_ge g' w.heap.size with h1 | h1
  ·exact h1
  ·rw [Array.getElem?_eq_none h1] at hgg;cases hgg
theorem Ap3.fresh {w w':World} {B e e' s s' n n' B':Nat} {v v':Value} {xs xs':List Value} (h:w.ownsRow B e s v n xs) (h':w'.ownsRow B' e' s' v' n' xs') (hB:w.heap.size≤B'):Ap3 v v':=fun g hg h2=>by
 have h1:=(own_lt3 h hg).2
 have h3:=(own_lt3 h' h2).1
 omega
theorem Ap3.moved {w:World} {B e s n:Nat} {v u u':Value} {xs:List Value} (h:w.ownsRow B e s v n xs) (ha:Ap3 v u) (hu:u'.ownBlock=u.ownBlock∨u'.ownBlock=some w.heap.size):Ap3 v u':=fun g hg h2=>by
 rcases hu with hu | hu
 ·exact ha g hg (hu▸h2)
 ·have h1:=(own_lt3 h hg).2
  rw [hu] at h2
  cases h2
  omega

structure Tri (w:World) (B:Nat) (v1 v2 v3:Value) (ts:List ByteArray) (fs bs:List Int):Prop where
 ks:w.ownsRow B 9 1 v1 ts.length (ts.map Value.string)
 fr:w.ownsRow B 3 1 v2 fs.length (fs.map (Value.int .i64))
 bw:w.ownsRow B 3 1 v3 bs.length (bs.map (Value.int .i64))
 ap:Ap3 v2 v3
theorem Tri.below {w w':World} {B:Nat} {v1 v2 v3:Value} {ts:List ByteArray} {fs bs:List Int} (h:Tri w B v1 v2 v3 ts fs bs) (hb:Below w.heap.size w w'):Tri w' B v1 v2 v3 ts fs bs:=
 ⟨owns_below h.ks hb,owns_below h.fr hb,owns_below h.bw hb,h.ap⟩
theorem Tri.a12 {w:World} {B:Nat} {v1 v2 v3:Value} {ts:List ByteArray} {fs bs:List Int} (h:Tri w B v1 v2 v3 ts fs bs):Ap3 v1 v2:=Ap3.types h.ks h.fr (by decide)
theorem Tri.a13 {w:World} {B:Nat} {v1 v2 v3:Value} {ts:List ByteArray} {fs bs:List Int} (h:Tri w B v1 v2 v3 ts fs bs):Ap3 v1 v3:=Ap3.types h.ks h.bw (by decide)
theorem Tri.put1 {w w':World} {B:Nat} {v1 v2 v3 u:Value} {ts ts':List ByteArray} {fs bs:List Int} (h:Tri w B v1 v2 v3 ts fs bs) (hu:w'.ownsRow B 9 1 u ts'.length (ts'.map Value.string)) (hg:w.grownBy w' v1.ownBlock):Tri w' B u v2 v3 ts' fs bs:=
 ⟨hu,World.ownsRow.kept h.fr hg h.a12.symm.or,World.ownsRow.kept h.bw hg h.a13.symm.or,h.ap⟩
theorem Tri.put2 {w w':World} {B:Nat} {v1 v2 v3 u:Value} {ts:List ByteArray} {fs fs' bs:List Int} (h:Tri w B v1 v2 v3 ts fs bs) (hu:w'.ownsRow B 3 1 u fs'.length (fs'.map (Value.int .i64))) (hg:w.grownBy w' v2.ownBlock) (ha:u.ownBlock=v2.ownBlock∨u.ownBlock=some w.heap.size):Tri w' B v1 u v3 ts fs' bs:=
 ⟨World.ownsRow.kept h.ks hg h.a12.or,hu,World.ownsRow.kept h.bw hg h.ap.symm.or,(Ap3.moved h.bw h.ap.symm ha).symm⟩
theorem Tri.put3 {w w':World} {B:Nat} {v1 v2 v3 u:Value} {ts:List ByteArray} {fs bs bs':List Int} (h:Tri w B v1 v2 v3 ts fs bs) (hu:w'.ownsRow B 3 1 u bs'.length (bs'.map (Value.int .i64))) (hg:w.grownBy w' v3.ownBlock) (ha:u.ownBlock=v3.ownBlock∨u.ownBlock=some w.heap.size):Tri w' B v1 v2 u ts fs bs':=
 ⟨World.ownsRow.kept h.ks hg h.a13.or,World.ownsRow.kept h.fr hg h.ap.or,hu,Ap3.moved h.fr h.ap ha⟩

structure Off3 (wi w:World) (v1 v2 v3 u1 u2 u3:Value):Prop where
 size:wi.heap.size≤w.heap.size
 keep:∀ k,k<wi.heap.size→v1.ownBlock≠some k→v2.ownBlock≠some k→v3.ownBlock≠some k→w.heap[k]?=wi.heap[k]?
 at1:u1.ownBlock=v1.ownBlock∨∃ g,wi.heap.size≤g∧u1.ownBlock=some g
 at2:u2.ownBlock=v2.ownBlock∨∃ g,wi.heap.size≤g∧u2.ownBlock=some g
 at3:u3.ownBlock=v3.ownBlock∨∃ g,wi.heap.size≤g∧u3.ownBlock=some g
theorem Off3.refl (w:World) (v1 v2 v3:Value):Off3 w w v1 v2 v3 v1 v2 v3:=⟨Nat.le_refl _,fun _ _ _ _ _=>rfl,.inl rfl,.inl rfl,.inl rfl⟩
theorem Off3.below {wi w w':World} {v1 v2 v3 u1 u2 u3:Value} (h:Off3 wi w v1 v2 v3 u1 u2 u3) (hb:Below w.heap.size w w'):Off3 wi w' v1 v2 v3 u1 u2 u3:=
 ⟨Nat.le_trans h.size hb.size,fun k hk a b c=>(hb.block k (Nat.lt_of_lt_of_le hk h.size)).trans (h.keep k hk a b c),h.at1,h.at2,h.at3⟩
theorem moved3 {wi w:World} {u v u':Value} (h:u.ownBlock=v.ownBlock∨∃ g,wi.heap.size≤g∧u.ownBlock=some g) (hs:wi.heap.size≤w.heap.size) (ha:u'.ownBlock=u.ownBlock∨u'.ownBlock=some w.heap.size):u'.ownBlock=v.ownBlock∨∃ g,wi.heap.size≤g∧u'.ownBlock=some g:=by
 rcases ha with ha | ha
 ·rw [ha];exact h
 ·exact .inr ⟨_,hs,ha⟩
theorem kept3 {wi:World} {u v:Value} (h:u.ownBlock=v.ownBlock∨∃ g,wi.heap.size≤g∧u.ownBlock=some g) {k:Nat} (hk:k<wi.heap.size) (hv:v.ownBlock≠some k):some k≠u.ownBlock:=by
 rcases h with h | ⟨g,hg,h⟩
 ·rw [h];exact fun e=>hv e.symm
 ·rw [h];intro e;cases e;omega
theorem Off3.put1 {wi w w':World} {v1 v2 v3 u1 u2 u3 u:Value} (h:Off3 wi w v1 v2 v3 u1 u2 u3) (hg:w.grownBy w' u1.ownBlock) (ha:u.ownBlock=u1.ownBlock∨u.ownBlock=some w.heap.size):Off3 wi w' v1 v2 v3 u u2 u3:=
 ⟨Nat.le_trans h.size hg.size,fun k hk a b c=>(hg.block k (Nat.lt_of_lt_of_le hk h.size) (kept3 h.at1 hk a)).trans (h.keep k hk a b c),moved3 h.at1 h.size ha,h.at2,h.at3⟩
theorem Off3.put2 {wi w w':World} {v1 v2 v3 u1 u2 u3 u:Value} (h:Off3 wi w v1 v2 v3 u1 u2 u3) (hg:w.grownBy w' u2.ownBlock) (ha:u.ownBlock=u2.ownBlock∨u.ownBlock=some w.heap.size):Off3 wi w' v1 v2 v3 u1 u u3:=
 ⟨Nat.le_trans h.size hg.size,fun k hk a b c=>(hg.block k (Nat.lt_of_lt_of_le hk h.size) (kept3 h.at2 hk b)).trans (h.keep k hk a b c),h.at1,moved3 h.at2 h.size ha,h.at3⟩
theorem Off3.put3 {wi w w':World} {v1 v2 v3 u1 u2 u3 u:Value} (h:Off3 wi w v1 v2 v3 u1 u2 u3) (hg:w.grownBy w' u3.ownBlock) (ha:u.ownBlock=u3.ownBlock∨u.ownBlock=some w.heap.size):Off3 wi w' v1 v2 v3 u1 u2 u:=
 ⟨Nat.le_trans h.size hg.size,fun k hk a b c=>(hg.block k (Nat.lt_of_lt_of_le hk h.size) (kept3 h.at3 hk c)).trans (h.keep k hk a b c),h.at1,h.at2,moved3 h.at3 h.size ha⟩
theorem Off3.row {wi w:World} {v1 v2 v3 u1 u2 u3:Value} (h:Off3 wi w v1 v2 v3 u1 u2 u3) {B e s n:Nat} {v:Value} {xs:List Value} (ho:wi.ownsRow B e s v n xs) (a1:Ap3 v v1) (a2:Ap3 v v2) (a3:Ap3 v v3):w.ownsRow B e s v n xs:=by
 have hlt:=fun g hg=>(own_lt3 ho (g:=g) hg).2
 refine ⟨ho.1,?_⟩
 rcases ho.2 with hn | ⟨g,cap,cur,rfl,hb,hgg,rest⟩
 ·exact .inl hn
 ·exact .inr ⟨g,cap,cur,rfl,hb,(h.keep g (hlt g rfl) (a1 g rfl) (a2 g rfl) (a3 g rfl)).trans hgg,rest⟩

/-! The rows that go with the list of states. -/
def keysL (S:List (Rec6 V4)):List ByteArray:=S.map fun r=>keyT r.1
def fromL:List (Rec6 V4)→List Int
 | []=>[]
 | _::S=>-1::S.map fun r=>(r.2.1:Int)
def byL:List (Rec6 V4)→List Int
 | []=>[]
 | _::S=>-1::S.map fun r=>r.2.2
theorem keysL_len (S:List (Rec6 V4)):(keysL S).length=S.length:=by simp [keysL]
theorem fromL_len (S:List (Rec6 V4)):(fromL S).length=S.length:=by cases S<;>simp [fromL]
theorem byL_len (S:List (Rec6 V4)):(byL S).length=S.length:=by cases S<;>simp [byL]
theorem keysL_app (S:List (Rec6 V4)) (r:Rec6 V4):keysL (S++[r])=keysL S++[keyT r.1]:=by simp [keysL]
theorem fromL_app {S:List (Rec6 V4)} (h:S≠[]) (r:Rec6 V4):fromL (S++[r])=fromL S++[(r.2.1:Int)]:=by
 cases S with
 | nil=>exact absurd rfl h
 | cons a S=>simp [fromL]
theorem byL_app {S:List (Rec6 V4)} (h:S≠[]) (r:Rec6 V4):byL (S++[r])=byL S++[r.2.2]:=by
 cases S with
 | nil=>exact absurd rfl h
 | cons a S=>simp [byL]

set_option linter.unusedSimpArgs false

theorem btV_str6 (xs:List Int) (h:∀ x ∈ xs,0≤x∧x≤255) (i:Nat) (hi:i<xs.length):btV (strOfNums xs) i=xs.getD i 0:=by
 have hx:=h xs[i] (List.getElem_mem hi)
 unfold btV
 simp [strOfNums,List.getD,List.getElem?_eq_getElem hi]
 omega
theorem keyT_size6 {m:V4} (h:shapeOk m=true):(keyT m).size=15:=by
 obtain ⟨l0,l1,l2,l3,_⟩:=shape_parts h
 unfold keyT
 rw [strOfNums_size,List.length_map]
 unfold allOf
 simp [l0,l1,l2,l3]
theorem key_back6 {m:V4} (h:shapeOk m=true):bytesV (keyT m)=m:=by
 obtain ⟨l0,l1,l2,l3,hd⟩:=shape_parts h
 have hb:∀ i,i<15→btV (keyT m) i - 48=(allOf m).getD i 0:=fun i hi=>by
  have hl:(allOf m).length=15:=by unfold allOf;simp [l0,l1,l2,l3]
  unfold keyT
  rw [btV_str6 _ (fun x hx=>by obtain ⟨z,hz,rfl⟩:=List.mem_map.1 hx;have:=hd z hz;omega) i (by rw [List.length_map];omega)]
  have e:((allOf m).map fun z=>48+z).getD i 0=48+(allOf m).getD i 0:=by
   have hi':i<(allOf m).length:=by omega
   simp [List.getD,List.getElem?_eq_getElem hi']
  rw [e]
  omega
 have b0:=hb 0 (by omega)
 have b1:=hb 1 (by omega)
 have b2:=hb 2 (by omega)
 have b3:=hb 3 (by omega)
 have b4:=hb 4 (by omega)
 have b5:=hb 5 (by omega)
 have b6:=hb 6 (by omega)
 have b7:=hb 7 (by omega)
 have b8:=hb 8 (by omega)
 have b9:=hb 9 (by omega)
 have b10:=hb 10 (by omega)
 have b11:=hb 11 (by omega)
 have b12:=hb 12 (by omega)
 have b13:=hb 13 (by omega)
 have b14:=hb 14 (by omega)
 clear hb hd l0 l1 l2 l3
 obtain ⟨p0,p1,p2,v0,v1,v2,v3,h0,h1,x0,y0,x1,y1,x2,y2,rfl⟩:=shape_lists h
 unfold bytesV partV fillL
 simp [List.range_succ,b0,b1,b2,b3,b4,b5,b6,b7,b8,b9,b10,b11,b12,b13,b14]
 simp [allOf]
theorem key_inj6 {m q:V4} (h:shapeOk m=true) (h':shapeOk q=true) (e:keyT m=keyT q):m=q:=by rw [← key_back6 h,e,key_back6 h']


theorem has_key {S:List (Rec6 V4)} {x:V4} (hS:Shaped S) (hx:shapeOk x=true):hasS S x=true↔keyT x ∈ keysL S:=by
 rw [hasS_iff]
 unfold keysL
 constructor
 ·intro h
  obtain ⟨r,hr,rfl⟩:=List.mem_map.1 h
  exact List.mem_map.2 ⟨r,hr,rfl⟩
 ·intro h
  obtain ⟨r,hr,e⟩:=List.mem_map.1 h
  exact List.mem_map.2 ⟨r,hr,key_inj6 (hS r hr) hx e⟩
theorem nx_at {rows:List (List I3)} {m:V4} {j:Nat} {k:Int} (h:(enabM rows m 3)[j]?=some k):(nxM rows m).drop j=(k,(goM rows m k).1)::(nxM rows m).drop (j+1):=by
 obtain ⟨hj,e⟩:=List.getElem?_eq_some_iff.1 h
 have hj':j<(nxM rows m).length:=by unfold nxM;simpa using hj
 have e2:(nxM rows m)[j]'hj'=(k,(goM rows m k).1):=by simp only [nxM,List.getElem_map,e]
 rw [List.drop_eq_getElem_cons hj',e2]
structure Out6 (rows:List (List I3)) (i:Nat) (S:List (Rec6 V4)):Prop where
 at9:i≤S.length
 pos:S≠[]
 len:S.length≤2000
 shp:Shaped S
 run:srch (nxM rows) (2000 - i) i S=fullS rows
structure In6 (rows:List (List I3)) (i j:Nat) (m:V4) (S:List (Rec6 V4)):Prop where
 at9:i<S.length
 len:S.length≤2000
 shp:Shaped S
 run:srch (nxM rows) (1999 - i) (i+1) (onS i S ((nxM rows m).drop j))=fullS rows
theorem Out6.start (rows:List (List I3)):Out6 rows 0 [(zeroV,0,0)]:=⟨by simp,by simp,by simp,fun r hr=>by simp at hr;subst hr;exact zero_shape,rfl⟩
theorem Out6.go {rows:List (List I3)} {i:Nat} {S:List (Rec6 V4)} (h:Out6 rows i S) (hi:i<S.length):In6 rows i 0 (S[i]'hi).1 S:=by
 refine ⟨hi,h.len,h.shp,?_⟩
 have e:=h.run
 have hl:=h.len
 rw [show 2000 - i=(1999 - i)+1 by omega,srch_go hi] at e
 exact e
theorem Out6.fin {rows:List (List I3)} {i:Nat} {S:List (Rec6 V4)} (h:Out6 rows i S) (hi:S.length≤i):fullS rows=S:=by rw [← h.run,srch_end hi]
theorem In6.fin {rows:List (List I3)} {i j:Nat} {m:V4} {S:List (Rec6 V4)} (h:In6 rows i j m S) (hj:(enabM rows m 3).length≤j):Out6 rows (i+1) S:=by
 refine ⟨h.at9,fun e=>by have:=h.at9;rw [e] at this;simp at this,h.len,h.shp,?_⟩
 have e:=h.run
 rw [List.drop_eq_nil_of_le (by unfold nxM;simpa using hj)] at e
 rw [show 2000 - (i+1)=1999 - i by omega]
 exact e
theorem In6.old {rows:List (List I3)} {i j:Nat} {m:V4} {S:List (Rec6 V4)} (h:In6 rows i j m S) {k:Int} (hk:(enabM rows m 3)[j]?=some k) (hx:shapeOk (goM rows m k).1=true) (hh:keyT (goM rows m k).1 ∈ keysL S):In6 rows i (j+1) m S:=by
 refine ⟨h.at9,h.len,h.shp,?_⟩
 have e:=h.run
 rw [nx_at hk,onS_cons] at e
 unfold putS at e
 rw [if_pos ((has_key h.shp hx).2 hh)] at e
 exact e
theorem In6.new {rows:List (List I3)} {i j:Nat} {m:V4} {S:List (Rec6 V4)} (h:In6 rows i j m S) {k:Int} (hk:(enabM rows m 3)[j]?=some k) (hx:shapeOk (goM rows m k).1=true) (hh:keyT (goM rows m k).1 ∉ keysL S) (hl:S.length≠2000):In6 rows i (j+1) m (S++[((goM rows m k).1,i,k)]):=by
 have h1:=h.len
 refine ⟨by have:=h.at9;simp;omega,by simp;omega,?_,?_⟩
 ·intro r hr
  rcases List.mem_append.1 hr with hr | hr
  ·exact h.shp r hr
  ·simp at hr;subst hr;exact hx
 ·have e:=h.run
  rw [nx_at hk,onS_cons] at e
  unfold putS at e
  rw [if_neg (fun h2=>hh ((has_key h.shp hx).1 h2))] at e
  exact e
theorem In6.full {rows:List (List I3)} {i j:Nat} {m:V4} {S:List (Rec6 V4)} (h:In6 rows i j m S) {k:Int} (hk:(enabM rows m 3)[j]?=some k) (hx:shapeOk (goM rows m k).1=true) (hh:keyT (goM rows m k).1 ∉ keysL S) (hl:S.length=2000):2000<(fullS rows).length:=by
 have e:=h.run
 rw [nx_at hk,onS_cons] at e
 unfold putS at e
 rw [if_neg (fun h2=>hh ((has_key h.shp hx).1 h2))] at e
 rw [← e]
 show 2000<(srch (nxM rows) (1999 - i) (i+1) (onS i (S++[((goM rows m k).1,i,k)]) ((nxM rows m).drop (j+1)))).length
 have h1:=(onS_pre i ((nxM rows m).drop (j+1)) (S++[((goM rows m k).1,i,k)])).length_le
 have h2:=(srch_pre (nxM rows) (1999 - i) (i+1) (onS i (S++[((goM rows m k).1,i,k)]) ((nxM rows m).drop (j+1)))).length_le
 simp at h1
 omega


def ixS:List (Rec6 V4)→V4→Nat
 | [],_=>0
 | r::S,x=>if r.1=x then 0 else ixS S x+1
theorem ixS_app:∀ {S:List (Rec6 V4)} {x:V4} (T:List (Rec6 V4)),x ∈ S.map (·.1)→ixS (S++T) x=ixS S x
 | [],_,_,h=>by simp at h
 | r::S,x,T,h=>by
  show (if r.1=x then 0 else ixS (S++T) x+1)=if r.1=x then 0 else ixS S x+1
  split
  ·rfl
  ·rename_i hne
   have h2:x ∈ S.map (·.1):=by
    rcases List.mem_cons.1 (by simpa using h:x ∈ r.1::S.map (·.1)) with h3 | h3
    ·exact absurd h3.symm hne
    ·exact h3
   rw [ixS_app T h2]
theorem ixS_pre {S T:List (Rec6 V4)} {x:V4} (h:S <+: T) (hx:x ∈ S.map (·.1)):ixS T x=ixS S x:=by
 obtain ⟨U,rfl⟩:=h
 exact ixS_app U hx
theorem ixS_new:∀ {S:List (Rec6 V4)} {x:V4} (i:Nat) (k:Int),x ∉ S.map (·.1)→ixS (S++[(x,i,k)]) x=S.length
 | [],x,i,k,_=>by simp [ixS]
 | r::S,x,i,k,h=>by
  have h1:r.1≠x:=fun e=>h (by simp [e])
  have h2:x ∉ S.map (·.1):=fun e=>h (by simpa using Or.inr e)
  show (if r.1=x then 0 else ixS (S++[(x,i,k)]) x+1)=_
  rw [if_neg h1,ixS_new i k h2]
  rfl
theorem ixS_get:∀ {S:List (Rec6 V4)} {x:V4},x ∈ S.map (·.1)→∃ r,S[ixS S x]?=some r∧r.1=x
 | [],_,h=>by simp at h
 | r::S,x,h=>by
  by_cases h1:r.1=x
  ·exact ⟨r,by simp [ixS,h1],h1⟩
  ·have h2:x ∈ S.map (·.1):=by
    rcases List.mem_cons.1 (by simpa using h:x ∈ r.1::S.map (·.1)) with h3 | h3
    ·exact absurd h3.symm h1
    ·exact h3
   obtain ⟨q,hq,he⟩:=ixS_get h2
   exact ⟨q,by simp [ixS,h1,hq],he⟩
def mvOf (rows:List (List I3)) (S:List (Rec6 V4)) (m:V4) (k:Int):I4:=((goM rows m k).2,k,m.1.getD k.toNat 0,(ixS S (goM rows m k).1:Int))
def mvsOf (rows:List (List I3)) (S:List (Rec6 V4)) (m:V4):List I4:=(enabM rows m 3).map (mvOf rows S m)
structure NumD (D:DataW Unit) (S:List (Rec6 V4)):Prop where
 has:∀ t:ByteArray,Maps.has D (.string t.data.toList)=true↔t ∈ keysL S
 at9:∀ x,x ∈ S.map (·.1)→∀ z,D.atKey (.string (keyT x).data.toList) z=.lit (.int .i64 (ixS S x))
theorem NumD.start:NumD (.map []) []:=⟨fun t=>by simp [keysL,Maps.has],fun x hx=>by simp at hx⟩
theorem lit_ne {s t:ByteArray} (h:s≠t):(Lit.string s.data.toList)≠Lit.string t.data.toList:=fun e=>by
 injection e with e
 exact h (ByteArray.ext (Array.ext' e))
theorem NumD.put {D:DataW Unit} {S:List (Rec6 V4)} (h:NumD D S) (hm:Maps.IsMap D) (hS:Shaped S) {x:V4} (hx:shapeOk x=true) (hn:x ∉ S.map (·.1)) (i:Nat) (k:Int) :
  NumD (D.put (.string (keyT x).data.toList) (.lit (.int .i64 S.length))) (S++[(x,i,k)]):=by
 have hkl:WideAt.IsKeyLit (.string (keyT x).data.toList):=trivial
 refine ⟨fun t=>?_,fun y hy z=>?_⟩
 ·rw [keysL_app]
  by_cases e:t=keyT x
  ·subst e
   rw [Maps.has_put_same hm hkl]
   simp
  ·rw [Maps.has_put_other (lit_ne e),h.has]
   simp [e]
 ·by_cases e:y=x
  ·subst e
   rw [Maps.atKey_put_same hm hkl,ixS_new i k hn]
  ·have hy2:y ∈ S.map (·.1):=by
    rcases List.mem_append.1 (by simpa using hy:y ∈ S.map (·.1)++[x]) with h3 | h3
    ·exact h3
    ·exact absurd (by simpa using h3) e
   obtain ⟨r,hr,rfl⟩:=List.mem_map.1 hy2
   have hk:keyT r.1≠keyT x:=fun e2=>e (key_inj6 (hS r hr) hx e2)
   rw [Maps.atKey_put_other (lit_ne hk),h.at9 _ hy2,ixS_app _ hy2]

/-! The records of states: 22 cells each. -/
def rcC (cs:Sl × Sl × Sl) (r:Rec6 V4) (mv:Value):List Value:=.string (keyT r.1)::(machCells cs.1.val cs.2.1.val cs.2.2.val r.1++[.int .i64 r.2.1,.int .i64 r.2.2,mv])
theorem rcC_len (cs:Sl × Sl × Sl) (r:Rec6 V4) (mv:Value):(rcC cs r mv).length=22:=rfl
def rcF (cs:Sl × Sl × Sl) (L:List (Rec6 V4 × Value)):List Value:=L.flatMap fun x=>rcC cs x.1 x.2
theorem rcF_app (cs:Sl × Sl × Sl) (L:List (Rec6 V4 × Value)) (x:Rec6 V4 × Value):rcF cs (L++[x])=rcF cs L++rcC cs x.1 x.2:=by simp [rcF]
theorem rcF_at (cs:Sl × Sl × Sl):∀ (L:List (Rec6 V4 × Value)) (i j:Nat) (x:Rec6 V4 × Value),L[i]?=some x→j<22→(rcF cs L)[i*22+j]?=(rcC cs x.1 x.2)[j]?
 | [],_,_,_,h,_=>by simp at h
 | y::L,0,j,x,h,hj=>by
  simp at h
  subst h
  show (rcC cs y.1 y.2++rcF cs L)[0*22+j]?=_
  rw [List.getElem?_append_left (by rw [rcC_len];omega)]
  congr 1
  omega
 | y::L,i+1,j,x,h,hj=>by
  have ih:=rcF_at cs L i j x (by simpa using h) hj
  show (rcC cs y.1 y.2++rcF cs L)[(i+1)*22+j]?=_
  rw [List.getElem?_append_right (by rw [rcC_len];omega),rcC_len,← ih]
  congr 1
  omega
theorem rcC_set (cs:Sl × Sl × Sl) (r:Rec6 V4) (mv mv':Value):(rcC cs r mv).set 21 mv'=rcC cs r mv':=rfl
theorem rcF_set (cs:Sl × Sl × Sl):∀ (L:List (Rec6 V4 × Value)) (i:Nat) (r:Rec6 V4) (mv mv':Value),L[i]?=some (r,mv)→(rcF cs L).set (i*22+21) mv'=rcF cs (L.set i (r,mv'))
 | [],_,_,_,_,h=>by simp at h
 | y::L,0,r,mv,mv',h=>by
  simp at h
  subst h
  show (rcC cs r mv++rcF cs L).set (0*22+21) mv'=rcC cs r mv'++rcF cs L
  rw [List.set_append_left _ _ (by rw [rcC_len];omega)]
  rw [show 0*22+21=21 by omega,rcC_set]
 | y::L,i+1,r,mv,mv',h=>by
  have ih:=rcF_set cs L i r mv mv' (by simpa using h)
  show (rcC cs y.1 y.2++rcF cs L).set ((i+1)*22+21) mv'=rcC cs y.1 y.2++rcF cs (L.set i (r,mv'))
  rw [List.set_append_right _ _ (by rw [rcC_len];omega),rcC_len,← ih]
  congr 2
  omega
end Go.Proofs.YtjgffnlmjmibgaaDoor
