/-
  Joined: ScI, LstM, Rw3, KeyB, SrcP, SpcP, SpcH, Kit8, ForP.
-/
import Derived.Maps.OwnSet
import Derived.Lib.Hide
import Derived.Maps.OwnOps
import Derived.Maps.Own
import Derived.Test.YtojcgajjnmjjpaaDoorC35
import Derived.Test.YtojcgajjnmjjpaaDoorC36

namespace Go.Proofs.YtojcgajjnmjjpaaDoor
set_option maxRecDepth 100000
set_option maxHeartbeats 16000000
open Go.RowKit
set_option linter.unusedVariables false
set_option linter.unusedSimpArgs false

theorem ints_of_row {w:World} {B n c:Nat} {a:Option Addr} {xs:List Int} (h:w.ownsRow B 3 1 (.slice a n c) n (xs.map (Value.int .i64))):Ints .i64 w a n c xs:=by
 have hl:=h.1
 rw [List.length_map,Nat.mul_one] at hl
 rcases h.2 with ⟨h1,h2⟩ | ⟨g,cap,cur,h1,_,_,h3,h4,_⟩
 ·cases h1
  exact ⟨hl,Nat.le_refl _,Nat.zero_le _,.inl rfl⟩
 ·cases h1
  exact Ints.of_owns h


theorem lst_slice {w:World} {B:Nat} {v:Value} {xs:List Int} (h:w.ownsRow B 3 1 v xs.length (xs.map (Value.int .i64))):∃ a cap,v=.slice a xs.length cap∧Ints .i64 w a xs.length cap xs:=by
 obtain ⟨a,cap,rfl⟩:=owns_sliceN h
 exact ⟨a,cap,rfl,ints_of_row h⟩


def Ap3 (v u:Value):Prop:=∀ g,v.ownBlock=some g→u.ownBlock≠some g
theorem Ap3.symm {v u:Value} (h:Ap3 v u):Ap3 u v:=fun g hg h2=>h g h2 hg
theorem Ap3.or {v u:Value} (h:Ap3 v u):v.ownBlock=none∨v.ownBlock≠u.ownBlock:=by
 cases e:v.ownBlock with
 | none=>exact .inl rfl
 | some g=>exact .inr fun e2=>h g e e2.symm
theorem Ap3.types {w:World} {B B' e e' s s' n n':Nat} {v v':Value} {xs xs':List Value} (h:w.ownsRow B e s v n xs) (h':w.ownsRow B' e' s' v' n' xs') (he:e≠e'):Ap3 v v':=fun g hg h2=>by
 rcases owns_ne h h' he with h3 | h3
 ·rw [h3] at hg;cases hg
 ·exact h3 (hg.trans h2.symm)
theorem own_lt3 {w:World} {B e s n:Nat} {v:Value} {xs:List Value} (h:w.ownsRow B e s v n xs) {g:Nat} (hg:v.ownBlock=some g):B≤g∧g<w.heap.size:=by
 rcases h.2 with ⟨rfl,_⟩ | ⟨g',cap,cur,rfl,hb,hgg,_⟩
 ·simp [Value.ownBlock] at hg
 ·simp [Value.ownBlock] at hg
  subst hg
  refine ⟨hb,?_⟩
  rcases Nat.lt_or_ge g' w.heap.size with h1 | h1
  ·exact h1
  ·rw [Array.getElem?_eq_none h1] at hgg;cases hgg
theorem Ap3.fresh {w w':World} {B e e' s s' n n' B':Nat} {v v':Value} {xs xs':List Value} (h:w.ownsRow B e s v n xs) (h':w'.ownsRow B' e' s' v' n' xs') (hB:w.heap.size≤B'):Ap3 v v':=fun g hg h2=>by
 have h1:=(own_lt3 h hg).2
 have h3:=(own_lt3 h' h2).1
 omega
theorem Ap3.moved {w:World} {B e s n:Nat} {v u u':Value} {xs:List Value} (h:w.ownsRow B e s v n xs) (ha:Ap3 v u) (hu:u'.ownBlock=u.ownBlock∨u'.ownBlock=some w.heap.size):Ap3 v u':=fun g hg h2=>by
 rcases hu with hu | hu
 ·exact ha g hg (hu▸h2)
 ·have h1:=(own_lt3 h hg).2
  rw [hu] at h2
  cases h2
  omega

structure Tri (w:World) (B:Nat) (v1 v2 v3:Value) (ts:List ByteArray) (fs bs:List Int):Prop where
 ks:w.ownsRow B 9 1 v1 ts.length (ts.map Value.string)
 fr:w.ownsRow B 3 1 v2 fs.length (fs.map (Value.int .i64))
 bw:w.ownsRow B 3 1 v3 bs.length (bs.map (Value.int .i64))
 ap:Ap3 v2 v3
theorem Tri.below {w w':World} {B:Nat} {v1 v2 v3:Value} {ts:List ByteArray} {fs bs:List Int} (h:Tri w B v1 v2 v3 ts fs bs) (hb:Below w.heap.size w w'):Tri w' B v1 v2 v3 ts fs bs:=
 ⟨owns_below h.ks hb,owns_below h.fr hb,owns_below h.bw hb,h.ap⟩
theorem Tri.a12 {w:World} {B:Nat} {v1 v2 v3:Value} {ts:List ByteArray} {fs bs:List Int} (h:Tri w B v1 v2 v3 ts fs bs):Ap3 v1 v2:=Ap3.types h.ks h.fr (by decide)
theorem Tri.a13 {w:World} {B:Nat} {v1 v2 v3:Value} {ts:List ByteArray} {fs bs:List Int} (h:Tri w B v1 v2 v3 ts fs bs):Ap3 v1 v3:=Ap3.types h.ks h.bw (by decide)
theorem Tri.put1 {w w':World} {B:Nat} {v1 v2 v3 u:Value} {ts ts':List ByteArray} {fs bs:List Int} (h:Tri w B v1 v2 v3 ts fs bs) (hu:w'.ownsRow B 9 1 u ts'.length (ts'.map Value.string)) (hg:w.grownBy w' v1.ownBlock):Tri w' B u v2 v3 ts' fs bs:=
 ⟨hu,World.ownsRow.kept h.fr hg h.a12.symm.or,World.ownsRow.kept h.bw hg h.a13.symm.or,h.ap⟩
theorem Tri.put2 {w w':World} {B:Nat} {v1 v2 v3 u:Value} {ts:List ByteArray} {fs fs' bs:List Int} (h:Tri w B v1 v2 v3 ts fs bs) (hu:w'.ownsRow B 3 1 u fs'.length (fs'.map (Value.int .i64))) (hg:w.grownBy w' v2.ownBlock) (ha:u.ownBlock=v2.ownBlock∨u.ownBlock=some w.heap.size):Tri w' B v1 u v3 ts fs' bs:=
 ⟨World.ownsRow.kept h.ks hg h.a12.or,hu,World.ownsRow.kept h.bw hg h.ap.symm.or,(Ap3.moved h.bw h.ap.symm ha).symm⟩
theorem Tri.put3 {w w':World} {B:Nat} {v1 v2 v3 u:Value} {ts:List ByteArray} {fs bs bs':List Int} (h:Tri w B v1 v2 v3 ts fs bs) (hu:w'.ownsRow B 3 1 u bs'.length (bs'.map (Value.int .i64))) (hg:w.grownBy w' v3.ownBlock) (ha:u.ownBlock=v3.ownBlock∨u.ownBlock=some w.heap.size):Tri w' B v1 v2 u ts fs bs':=
 ⟨World.ownsRow.kept h.ks hg h.a13.or,World.ownsRow.kept h.fr hg h.ap.or,hu,Ap3.moved h.fr h.ap ha⟩

structure Off3 (wi w:World) (v1 v2 v3 u1 u2 u3:Value):Prop where
 size:wi.heap.size≤w.heap.size
 keep:∀ k,k<wi.heap.size→v1.ownBlock≠some k→v2.ownBlock≠some k→v3.ownBlock≠some k→w.heap[k]?=wi.heap[k]?
 at1:u1.ownBlock=v1.ownBlock∨∃ g,wi.heap.size≤g∧u1.ownBlock=some g
 at2:u2.ownBlock=v2.ownBlock∨∃ g,wi.heap.size≤g∧u2.ownBlock=some g
 at3:u3.ownBlock=v3.ownBlock∨∃ g,wi.heap.size≤g∧u3.ownBlock=some g
theorem Off3.refl (w:World) (v1 v2 v3:Value):Off3 w w v1 v2 v3 v1 v2 v3:=⟨Nat.le_refl _,fun _ _ _ _ _=>rfl,.inl rfl,.inl rfl,.inl rfl⟩
theorem Off3.below {wi w w':World} {v1 v2 v3 u1 u2 u3:Value} (h:Off3 wi w v1 v2 v3 u1 u2 u3) (hb:Below w.heap.size w w'):Off3 wi w' v1 v2 v3 u1 u2 u3:=
 ⟨Nat.le_trans h.size hb.size,fun k hk a b c=>(hb.block k (Nat.lt_of_lt_of_le hk h.size)).trans (h.keep k hk a b c),h.at1,h.at2,h.at3⟩
theorem moved3 {wi w:World} {u v u':Value} (h:u.ownBlock=v.ownBlock∨∃ g,wi.heap.size≤g∧u.ownBlock=some g) (hs:wi.heap.size≤w.heap.size) (ha:u'.ownBlock=u.ownBlock∨u'.ownBlock=some w.heap.size):u'.ownBlock=v.ownBlock∨∃ g,wi.heap.size≤g∧u'.ownBlock=some g:=by
 rcases ha with ha | ha
 ·rw [ha];exact h
 ·exact .inr ⟨_,hs,ha⟩
theorem kept3 {wi:World} {u v:Value} (h:u.ownBlock=v.ownBlock∨∃ g,wi.heap.size≤g∧u.ownBlock=some g) {k:Nat} (hk:k<wi.heap.size) (hv:v.ownBlock≠some k):some k≠u.ownBlock:=by
 rcases h with h | ⟨g,hg,h⟩
 ·rw [h];exact fun e=>hv e.symm
 ·rw [h];intro e;cases e;omega
theorem Off3.put1 {wi w w':World} {v1 v2 v3 u1 u2 u3 u:Value} (h:Off3 wi w v1 v2 v3 u1 u2 u3) (hg:w.grownBy w' u1.ownBlock) (ha:u.ownBlock=u1.ownBlock∨u.ownBlock=some w.heap.size):Off3 wi w' v1 v2 v3 u u2 u3:=
 ⟨Nat.le_trans h.size hg.size,fun k hk a b c=>(hg.block k (Nat.lt_of_lt_of_le hk h.size) (kept3 h.at1 hk a)).trans (h.keep k hk a b c),moved3 h.at1 h.size ha,h.at2,h.at3⟩
theorem Off3.put2 {wi w w':World} {v1 v2 v3 u1 u2 u3 u:Value} (h:Off3 wi w v1 v2 v3 u1 u2 u3) (hg:w.grownBy w' u2.ownBlock) (ha:u.ownBlock=u2.ownBlock∨u.ownBlock=some w.heap.size):Off3 wi w' v1 v2 v3 u1 u u3:=
 ⟨Nat.le_trans h.size hg.size,fun k hk a b c=>(hg.block k (Nat.lt_of_lt_of_le hk h.size) (kept3 h.at2 hk b)).trans (h.keep k hk a b c),h.at1,moved3 h.at2 h.size ha,h.at3⟩
theorem Off3.put3 {wi w w':World} {v1 v2 v3 u1 u2 u3 u:Value} (h:Off3 wi w v1 v2 v3 u1 u2 u3) (hg:w.grownBy w' u3.ownBlock) (ha:u.ownBlock=u3.ownBlock∨u.ownBlock=some w.heap.size):Off3 wi w' v1 v2 v3 u1 u2 u:=
 ⟨Nat.le_trans h.size hg.size,fun k hk a b c=>(hg.block k (Nat.lt_of_lt_of_le hk h.size) (kept3 h.at3 hk c)).trans (h.keep k hk a b c),h.at1,h.at2,moved3 h.at3 h.size ha⟩
theorem Off3.row {wi w:World} {v1 v2 v3 u1 u2 u3:Value} (h:Off3 wi w v1 v2 v3 u1 u2 u3) {B e s n:Nat} {v:Value} {xs:List Value} (ho:wi.ownsRow B e s v n xs) (a1:Ap3 v v1) (a2:Ap3 v v2) (a3:Ap3 v v3):w.ownsRow B e s v n xs:=by
 have hlt:=fun g hg=>(own_lt3 ho (g:=g) hg).2
 refine ⟨ho.1,?_⟩
 rcases ho.2 with hn | ⟨g,cap,cur,rfl,hb,hgg,rest⟩
 ·exact .inl hn
 ·exact .inr ⟨g,cap,cur,rfl,hb,(h.keep g (hlt g rfl) (a1 g rfl) (a2 g rfl) (a3 g rfl)).trans hgg,rest⟩

/-! The rows that go with the list of states. -/
def keysL (S:List (Rec6 V4)):List ByteArray:=S.map fun r=>keyT r.1
def fromL:List (Rec6 V4)→List Int
 | []=>[]
 | _::S=>-1::S.map fun r=>(r.2.1:Int)
def byL:List (Rec6 V4)→List Int
 | []=>[]
 | _::S=>-1::S.map fun r=>r.2.2
theorem keysL_len (S:List (Rec6 V4)):(keysL S).length=S.length:=by simp [keysL]
theorem fromL_len (S:List (Rec6 V4)):(fromL S).length=S.length:=by cases S<;>simp [fromL]
theorem byL_len (S:List (Rec6 V4)):(byL S).length=S.length:=by cases S<;>simp [byL]
theorem keysL_app (S:List (Rec6 V4)) (r:Rec6 V4):keysL (S++[r])=keysL S++[keyT r.1]:=by simp [keysL]
theorem fromL_app {S:List (Rec6 V4)} (h:S≠[]) (r:Rec6 V4):fromL (S++[r])=fromL S++[(r.2.1:Int)]:=by
 cases S with
 | nil=>exact absurd rfl h
 | cons a S=>simp [fromL]
theorem byL_app {S:List (Rec6 V4)} (h:S≠[]) (r:Rec6 V4):byL (S++[r])=byL S++[r.2.2]:=by
 cases S with
 | nil=>exact absurd rfl h
 | cons a S=>simp [byL]


theorem btV_str6 (xs:List Int) (h:∀ x ∈ xs,0≤x∧x≤255) (i:Nat) (hi:i<xs.length):btV (strOfNums xs) i=xs.getD i 0:=by
 have hx:=h xs[i] (List.getElem_mem hi)
 unfold btV
 simp [strOfNums,List.getD,List.getElem?_eq_getElem hi]
 omega
theorem keyT_size6 {m:V4} (h:shapeOk m=true):(keyT m).size=15:=by
 obtain ⟨l0,l1,l2,l3,_⟩:=shape_parts h
 unfold keyT
 rw [strOfNums_size,List.length_map]
 unfold allOf
 simp [l0,l1,l2,l3]
theorem key_back6 {m:V4} (h:shapeOk m=true):bytesV (keyT m)=m:=by
 obtain ⟨l0,l1,l2,l3,hd⟩:=shape_parts h
 have hb:∀ i,i<15→btV (keyT m) i - 48=(allOf m).getD i 0:=fun i hi=>by
  have hl:(allOf m).length=15:=by unfold allOf;simp [l0,l1,l2,l3]
  unfold keyT
  rw [btV_str6 _ (fun x hx=>by obtain ⟨z,hz,rfl⟩:=List.mem_map.1 hx;have:=hd z hz;omega) i (by rw [List.length_map];omega)]
  have e:((allOf m).map fun z=>48+z).getD i 0=48+(allOf m).getD i 0:=by
   have hi':i<(allOf m).length:=by omega
   simp [List.getD,List.getElem?_eq_getElem hi']
  rw [e]
  omega
 have b0:=hb 0 (by omega)
 have b1:=hb 1 (by omega)
 have b2:=hb 2 (by omega)
 have b3:=hb 3 (by omega)
 have b4:=hb 4 (by omega)
 have b5:=hb 5 (by omega)
 have b6:=hb 6 (by omega)
 have b7:=hb 7 (by omega)
 have b8:=hb 8 (by omega)
 have b9:=hb 9 (by omega)
 have b10:=hb 10 (by omega)
 have b11:=hb 11 (by omega)
 have b12:=hb 12 (by omega)
 have b13:=hb 13 (by omega)
 have b14:=hb 14 (by omega)
 clear hb hd l0 l1 l2 l3
 obtain ⟨p0,p1,p2,v0,v1,v2,v3,h0,h1,x0,y0,x1,y1,x2,y2,rfl⟩:=shape_lists h
 unfold bytesV partV fillL
 simp [List.range_succ,b0,b1,b2,b3,b4,b5,b6,b7,b8,b9,b10,b11,b12,b13,b14]
 simp [allOf]
theorem key_inj6 {m q:V4} (h:shapeOk m=true) (h':shapeOk q=true) (e:keyT m=keyT q):m=q:=by rw [← key_back6 h,e,key_back6 h']


theorem has_key {S:List (Rec6 V4)} {x:V4} (hS:Shaped S) (hx:shapeOk x=true):hasS S x=true↔keyT x ∈ keysL S:=by
 rw [hasS_iff]
 unfold keysL
 constructor
 ·intro h
  obtain ⟨r,hr,rfl⟩:=List.mem_map.1 h
  exact List.mem_map.2 ⟨r,hr,rfl⟩
 ·intro h
  obtain ⟨r,hr,e⟩:=List.mem_map.1 h
  exact List.mem_map.2 ⟨r,hr,key_inj6 (hS r hr) hx e⟩
theorem nx_at {rows:List (List I3)} {m:V4} {j:Nat} {k:Int} (h:(enabM rows m 3)[j]?=some k):(nxM rows m).drop j=(k,(goM rows m k).1)::(nxM rows m).drop (j+1):=by
 obtain ⟨hj,e⟩:=List.getElem?_eq_some_iff.1 h
 have hj':j<(nxM rows m).length:=by unfold nxM;simpa using hj
 have e2:(nxM rows m)[j]'hj'=(k,(goM rows m k).1):=by simp only [nxM,List.getElem_map,e]
 rw [List.drop_eq_getElem_cons hj',e2]
structure Out6 (rows:List (List I3)) (i:Nat) (S:List (Rec6 V4)):Prop where
 at9:i≤S.length
 pos:S≠[]
 len:S.length≤2000
 shp:Shaped S
 run:srch (nxM rows) (2000 - i) i S=fullS rows
structure In6 (rows:List (List I3)) (i j:Nat) (m:V4) (S:List (Rec6 V4)):Prop where
 at9:i<S.length
 len:S.length≤2000
 shp:Shaped S
 run:srch (nxM rows) (1999 - i) (i+1) (onS i S ((nxM rows m).drop j))=fullS rows
theorem Out6.start (rows:List (List I3)):Out6 rows 0 [(zeroV,0,0)]:=⟨by simp,by simp,by simp,fun r hr=>by simp at hr;subst hr;exact zero_shape,rfl⟩
theorem Out6.go {rows:List (List I3)} {i:Nat} {S:List (Rec6 V4)} (h:Out6 rows i S) (hi:i<S.length):In6 rows i 0 (S[i]'hi).1 S:=by
 refine ⟨hi,h.len,h.shp,?_⟩
 have e:=h.run
 have hl:=h.len
 rw [show 2000 - i=(1999 - i)+1 by omega,srch_go hi] at e
 exact e
theorem Out6.fin {rows:List (List I3)} {i:Nat} {S:List (Rec6 V4)} (h:Out6 rows i S) (hi:S.length≤i):fullS rows=S:=by rw [← h.run,srch_end hi]
theorem In6.fin {rows:List (List I3)} {i j:Nat} {m:V4} {S:List (Rec6 V4)} (h:In6 rows i j m S) (hj:(enabM rows m 3).length≤j):Out6 rows (i+1) S:=by
 refine ⟨h.at9,fun e=>by have:=h.at9;rw [e] at this;simp at this,h.len,h.shp,?_⟩
 have e:=h.run
 rw [List.drop_eq_nil_of_le (by unfold nxM;simpa using hj)] at e
 rw [show 2000 - (i+1)=1999 - i by omega]
 exact e
theorem In6.old {rows:List (List I3)} {i j:Nat} {m:V4} {S:List (Rec6 V4)} (h:In6 rows i j m S) {k:Int} (hk:(enabM rows m 3)[j]?=some k) (hx:shapeOk (goM rows m k).1=true) (hh:keyT (goM rows m k).1 ∈ keysL S):In6 rows i (j+1) m S:=by
 refine ⟨h.at9,h.len,h.shp,?_⟩
 have e:=h.run
 rw [nx_at hk,onS_cons] at e
 unfold putS at e
 rw [if_pos ((has_key h.shp hx).2 hh)] at e
 exact e
theorem In6.new {rows:List (List I3)} {i j:Nat} {m:V4} {S:List (Rec6 V4)} (h:In6 rows i j m S) {k:Int} (hk:(enabM rows m 3)[j]?=some k) (hx:shapeOk (goM rows m k).1=true) (hh:keyT (goM rows m k).1 ∉ keysL S) (hl:S.length≠2000):In6 rows i (j+1) m (S++[((goM rows m k).1,i,k)]):=by
 have h1:=h.len
 refine ⟨by have:=h.at9;simp;omega,by simp;omega,?_,?_⟩
 ·intro r hr
  rcases List.mem_append.1 hr with hr | hr
  ·exact h.shp r hr
  ·simp at hr;subst hr;exact hx
 ·have e:=h.run
  rw [nx_at hk,onS_cons] at e
  unfold putS at e
  rw [if_neg (fun h2=>hh ((has_key h.shp hx).1 h2))] at e
  exact e
theorem In6.full {rows:List (List I3)} {i j:Nat} {m:V4} {S:List (Rec6 V4)} (h:In6 rows i j m S) {k:Int} (hk:(enabM rows m 3)[j]?=some k) (hx:shapeOk (goM rows m k).1=true) (hh:keyT (goM rows m k).1 ∉ keysL S) (hl:S.length=2000):2000<(fullS rows).length:=by
 have e:=h.run
 rw [nx_at hk,onS_cons] at e
 unfold putS at e
 rw [if_neg (fun h2=>hh ((has_key h.shp hx).1 h2))] at e
 rw [← e]
 show 2000<(srch (nxM rows) (1999 - i) (i+1) (onS i (S++[((goM rows m k).1,i,k)]) ((nxM rows m).drop (j+1)))).length
 have h1:=(onS_pre i ((nxM rows m).drop (j+1)) (S++[((goM rows m k).1,i,k)])).length_le
 have h2:=(srch_pre (nxM rows) (1999 - i) (i+1) (onS i (S++[((goM rows m k).1,i,k)]) ((nxM rows m).drop (j+1)))).length_le
 simp at h1
 omega


def ixS:List (Rec6 V4)→V4→Nat
 | [],_=>0
 | r::S,x=>if r.1=x then 0 else ixS S x+1
theorem ixS_app:∀ {S:List (Rec6 V4)} {x:V4} (T:List (Rec6 V4)),x ∈ S.map (·.1)→ixS (S++T) x=ixS S x
 | [],_,_,h=>by simp at h
 | r::S,x,T,h=>by
  show (if r.1=x then 0 else ixS (S++T) x+1)=if r.1=x then 0 else ixS S x+1
  split
  ·rfl
  ·rename_i hne
   have h2:x ∈ S.map (·.1):=by
    rcases List.mem_cons.1 (by simpa using h:x ∈ r.1::S.map (·.1)) with h3 | h3
    ·exact absurd h3.symm hne
    ·exact h3
   rw [ixS_app T h2]
theorem ixS_pre {S T:List (Rec6 V4)} {x:V4} (h:S <+: T) (hx:x ∈ S.map (·.1)):ixS T x=ixS S x:=by
 obtain ⟨U,rfl⟩:=h
 exact ixS_app U hx
theorem ixS_new:∀ {S:List (Rec6 V4)} {x:V4} (i:Nat) (k:Int),x ∉ S.map (·.1)→ixS (S++[(x,i,k)]) x=S.length
 | [],x,i,k,_=>by simp [ixS]
 | r::S,x,i,k,h=>by
  have h1:r.1≠x:=fun e=>h (by simp [e])
  have h2:x ∉ S.map (·.1):=fun e=>h (by simpa using Or.inr e)
  show (if r.1=x then 0 else ixS (S++[(x,i,k)]) x+1)=_
  rw [if_neg h1,ixS_new i k h2]
  rfl
theorem ixS_get:∀ {S:List (Rec6 V4)} {x:V4},x ∈ S.map (·.1)→∃ r,S[ixS S x]?=some r∧r.1=x
 | [],_,h=>by simp at h
 | r::S,x,h=>by
  by_cases h1:r.1=x
  ·exact ⟨r,by simp [ixS,h1],h1⟩
  ·have h2:x ∈ S.map (·.1):=by
    rcases List.mem_cons.1 (by simpa using h:x ∈ r.1::S.map (·.1)) with h3 | h3
    ·exact absurd h3.symm h1
    ·exact h3
   obtain ⟨q,hq,he⟩:=ixS_get h2
   exact ⟨q,by simp [ixS,h1,hq],he⟩
def mvOf (rows:List (List I3)) (S:List (Rec6 V4)) (m:V4) (k:Int):I4:=((goM rows m k).2,k,m.1.getD k.toNat 0,(ixS S (goM rows m k).1:Int))
def mvsOf (rows:List (List I3)) (S:List (Rec6 V4)) (m:V4):List I4:=(enabM rows m 3).map (mvOf rows S m)
structure NumD (D:DataW Unit) (S:List (Rec6 V4)):Prop where
 has:∀ t:ByteArray,Maps.has D (.string t.data.toList)=true↔t ∈ keysL S
 at9:∀ x,x ∈ S.map (·.1)→∀ z,D.atKey (.string (keyT x).data.toList) z=.lit (.int .i64 (ixS S x))
theorem NumD.start:NumD (.map []) []:=⟨fun t=>by simp [keysL,Maps.has],fun x hx=>by simp at hx⟩
theorem lit_ne {s t:ByteArray} (h:s≠t):(Lit.string s.data.toList)≠Lit.string t.data.toList:=fun e=>by
 injection e with e
 exact h (ByteArray.ext (Array.ext' e))
theorem NumD.put {D:DataW Unit} {S:List (Rec6 V4)} (h:NumD D S) (hm:Maps.IsMap D) (hS:Shaped S) {x:V4} (hx:shapeOk x=true) (hn:x ∉ S.map (·.1)) (i:Nat) (k:Int) :
  NumD (D.put (.string (keyT x).data.toList) (.lit (.int .i64 S.length))) (S++[(x,i,k)]):=by
 have hkl:WideAt.IsKeyLit (.string (keyT x).data.toList):=trivial
 refine ⟨fun t=>?_,fun y hy z=>?_⟩
 ·rw [keysL_app]
  by_cases e:t=keyT x
  ·subst e
   rw [Maps.has_put_same hm hkl]
   simp
  ·rw [Maps.has_put_other (lit_ne e),h.has]
   simp [e]
 ·by_cases e:y=x
  ·subst e
   rw [Maps.atKey_put_same hm hkl,ixS_new i k hn]
  ·have hy2:y ∈ S.map (·.1):=by
    rcases List.mem_append.1 (by simpa using hy:y ∈ S.map (·.1)++[x]) with h3 | h3
    ·exact h3
    ·exact absurd (by simpa using h3) e
   obtain ⟨r,hr,rfl⟩:=List.mem_map.1 hy2
   have hk:keyT r.1≠keyT x:=fun e2=>e (key_inj6 (hS r hr) hx e2)
   rw [Maps.atKey_put_other (lit_ne hk),h.at9 _ hy2,ixS_app _ hy2]

/-! The records of states: 22 cells each. -/
def rcC (cs:Sl × Sl × Sl) (r:Rec6 V4) (mv:Value):List Value:=.string (keyT r.1)::(machCells cs.1.val cs.2.1.val cs.2.2.val r.1++[.int .i64 r.2.1,.int .i64 r.2.2,mv])
theorem rcC_len (cs:Sl × Sl × Sl) (r:Rec6 V4) (mv:Value):(rcC cs r mv).length=22:=rfl
def rcF (cs:Sl × Sl × Sl) (L:List (Rec6 V4 × Value)):List Value:=L.flatMap fun x=>rcC cs x.1 x.2
theorem rcF_app (cs:Sl × Sl × Sl) (L:List (Rec6 V4 × Value)) (x:Rec6 V4 × Value):rcF cs (L++[x])=rcF cs L++rcC cs x.1 x.2:=by simp [rcF]
theorem rcF_at (cs:Sl × Sl × Sl):∀ (L:List (Rec6 V4 × Value)) (i j:Nat) (x:Rec6 V4 × Value),L[i]?=some x→j<22→(rcF cs L)[i*22+j]?=(rcC cs x.1 x.2)[j]?
 | [],_,_,_,h,_=>by simp at h
 | y::L,0,j,x,h,hj=>by
  simp at h
  subst h
  show (rcC cs y.1 y.2++rcF cs L)[0*22+j]?=_
  rw [List.getElem?_append_left (by rw [rcC_len];omega)]
  congr 1
  omega
 | y::L,i+1,j,x,h,hj=>by
  have ih:=rcF_at cs L i j x (by simpa using h) hj
  show (rcC cs y.1 y.2++rcF cs L)[(i+1)*22+j]?=_
  rw [List.getElem?_append_right (by rw [rcC_len];omega),rcC_len,← ih]
  congr 1
  omega
theorem rcC_set (cs:Sl × Sl × Sl) (r:Rec6 V4) (mv mv':Value):(rcC cs r mv).set 21 mv'=rcC cs r mv':=rfl
theorem rcF_set (cs:Sl × Sl × Sl):∀ (L:List (Rec6 V4 × Value)) (i:Nat) (r:Rec6 V4) (mv mv':Value),L[i]?=some (r,mv)→(rcF cs L).set (i*22+21) mv'=rcF cs (L.set i (r,mv'))
 | [],_,_,_,_,h=>by simp at h
 | y::L,0,r,mv,mv',h=>by
  simp at h
  subst h
  show (rcC cs r mv++rcF cs L).set (0*22+21) mv'=rcC cs r mv'++rcF cs L
  rw [List.set_append_left _ _ (by rw [rcC_len];omega)]
  rw [show 0*22+21=21 by omega,rcC_set]
 | y::L,i+1,r,mv,mv',h=>by
  have ih:=rcF_set cs L i r mv mv' (by simpa using h)
  show (rcC cs y.1 y.2++rcF cs L).set ((i+1)*22+21) mv'=rcC cs y.1 y.2++rcF cs (L.set i (r,mv'))
  rw [List.set_append_right _ _ (by rw [rcC_len];omega),rcC_len,← ih]
  congr 2
  omega


theorem law_str6:Maps.Keyed Tryd.prog 9:=Maps.string_keyed Tryd.underlying9
theorem zero_int6 (w:World):(zeroValue 3).run Tryd.prog w=.ok (.int .i64 0) w:=by kernel_rfl
structure SpcD (w:World) (B nb:Nat) (vs:Value) (cs:Sl × Sl × Sl) (M:V4→List I4) (L:List (Rec6 V4 × Value)) (d:Nat):Prop where
 row:w.ownsRow B 140 22 vs L.length (rcF cs L)
 map:∃ D:DataW Unit,w.ownsMap Tryd.prog 9 (plainElem Tryd.prog 3) nb L.length D∧NumD D (L.map (·.1))
 mvs:∀ i r mv,i<d→L[i]?=some (r,mv)→w.ownsRow B 144 4 mv (M r.1).length (flat4 (M r.1))
 nil:∀ i r mv,d≤i→L[i]?=some (r,mv)→mv=.slice none 0 0
 low:B≤nb
structure KeptS (w w':World) (X nb:Nat) (vs:Value):Prop where
 os:w'.os=w.os
 tape:w'.tape=w.tape
 output:w'.output=w.output
 size:w.heap.size≤w'.heap.size
 block:∀ k,k<w.heap.size→k≠X→k≠nb→vs.ownBlock≠some k→w'.heap[k]?=w.heap[k]?
def MovedS (w:World) (vs vs':Value):Prop:=vs'.ownBlock=vs.ownBlock∨∃ g,w.heap.size≤g∧vs'.ownBlock=some g
theorem MovedS.refl (w:World) (vs:Value):MovedS w vs vs:=.inl rfl
theorem MovedS.trans {w w':World} {a b c:Value} (h:MovedS w a b) (hs:w.heap.size≤w'.heap.size) (k:MovedS w' b c):MovedS w a c:=by
 rcases k with k | ⟨g,hg,k⟩
 ·unfold MovedS
  rw [k]
  exact h
 ·exact .inr ⟨g,Nat.le_trans hs hg,k⟩
theorem KeptS.refl (w:World) (X nb:Nat) (vs:Value):KeptS w w X nb vs:=⟨rfl,rfl,rfl,Nat.le_refl _,fun _ _ _ _ _=>rfl⟩
theorem KeptS.trans {a b c:World} {X nb:Nat} {v v':Value} (h:KeptS a b X nb v) (hm:MovedS a v v') (k:KeptS b c X nb v'):KeptS a c X nb v:=
 ⟨k.os.trans h.os,k.tape.trans h.tape,k.output.trans h.output,Nat.le_trans h.size k.size,fun j hj h1 h2 h3=>(k.block j (Nat.lt_of_lt_of_le hj h.size) h1 h2 (fun e=>by
  rcases hm with hm | ⟨g,hg,hm⟩
  ·exact h3 (hm▸e)
  ·rw [hm] at e;cases e;omega)).trans (h.block j hj h1 h2 h3)⟩
theorem KeptS.belowR {a b c:World} {X nb:Nat} {v:Value} (h:KeptS a b X nb v) (k:Below b.heap.size b c):KeptS a c X nb v:=
 ⟨k.os.trans h.os,k.tape.trans h.tape,k.output.trans h.output,Nat.le_trans h.size k.size,fun j hj h1 h2 h3=>(k.block j (Nat.lt_of_lt_of_le hj h.size)).trans (h.block j hj h1 h2 h3)⟩
theorem KeptS.of_below {a b:World} (X nb:Nat) (v:Value) (k:Below a.heap.size a b):KeptS a b X nb v:=(KeptS.refl a X nb v).belowR k
theorem KeptS.below {a b:World} {X nb B:Nat} {v:Value} (h:KeptS a b X nb v) (hX:B≤X) (hn:B≤nb) (hv:∀ k,v.ownBlock=some k→B≤k) (hB:B≤a.heap.size):Below B a b:=
 ⟨h.os,h.tape,h.output,h.size,fun k hk=>h.block k (by omega) (by omega) (by omega) (fun e=>by have:=hv k e;omega)⟩
theorem map_blk {w:World} {nb n g t:Nat} {D:DataW Unit} {cs:List Value} (h:w.ownsMap Tryd.prog 9 (plainElem Tryd.prog 3) nb n D) (hB:Blk w g t cs):g≠nb:=by
 rintro rfl
 obtain ⟨es,clock,hb,_⟩:=h
 unfold Blk at hB
 rw [hb] at hB
 simp at hB
theorem map_own {w:World} {nb n B e s k:Nat} {v:Value} {xs:List Value} {D:DataW Unit} (h:w.ownsMap Tryd.prog 9 (plainElem Tryd.prog 3) nb n D) (ho:w.ownsRow B e s v k xs):v.ownBlock≠some nb:=by
 intro e2
 obtain ⟨es,clock,hb,_⟩:=h
 rcases ho.2 with ⟨rfl,_⟩ | ⟨g,cap,cur,rfl,_,hg,_⟩
 ·simp [Value.ownBlock] at e2
 ·simp [Value.ownBlock] at e2
  subst e2
  rw [hb] at hg
  simp at hg
section
variable {w w' : World} {B X nb d : Nat} {vs : Value} {cs : Sl × Sl × Sl} {M : V4 → List I4} {L : List (Rec6 V4 × Value)}
theorem SpcD.below (h:SpcD w B nb vs cs M L d) (hb:Below w.heap.size w w'):SpcD w' B nb vs cs M L d:=by
 obtain ⟨D,hm,hn⟩:=h.map
 exact ⟨owns_below h.row hb,⟨D,hm.kept (row:=none) ⟨hb.os,hb.tape,hb.output,hb.size,fun k hk _=>hb.block k hk⟩ (by simp),hn⟩,fun i r mv hi hr=>owns_below (h.mvs i r mv hi hr) hb,h.nil,h.low⟩
theorem SpcD.grown {g t:Nat} {cs':List Value} (h:SpcD w B nb vs cs M L d) (hg:w.grownBy w' (some g)) (hB:Blk w g t cs') (h1:140≠t) (h2:144≠t):SpcD w' B nb vs cs M L d:=by
 obtain ⟨D,hm,hn⟩:=h.map
 refine ⟨h.row.kept hg (.inr (own_ne_blk9 h.row hB h1)),⟨D,hm.kept hg (fun e=>map_blk hm hB (by cases e;rfl)),hn⟩,fun i r mv hi hr=>?_,h.nil,h.low⟩
 have:=h.mvs i r mv hi hr
 exact this.kept hg (.inr (own_ne_blk9 this hB h2))
theorem KeptS.row (k:KeptS w w' X nb vs) (h:SpcD w B nb vs cs M L d) {t:Nat} {cs':List Value} (hX:Blk w X t cs') {B' e s n:Nat} {v:Value} {xs:List Value} (ho:w.ownsRow B' e s v n xs) (h1:e≠140) (h2:e≠t):w'.ownsRow B' e s v n xs:=by
 obtain ⟨D,hm,_⟩:=h.map
 have hlt:=fun g hg=>(own_lt3 ho (g:=g) hg).2
 have hnX:=own_ne_blk9 ho hX h2
 have hnm:=map_own hm ho
 have hap:=Ap3.types ho h.row h1
 refine ⟨ho.1,?_⟩
 rcases ho.2 with hn | ⟨g,cap,cur,rfl,hb,hgg,rest⟩
 ·exact .inl hn
 ·refine .inr ⟨g,cap,cur,rfl,hb,(k.block g (hlt g rfl) (fun e=>hnX (by rw [← e];rfl)) (fun e=>hnm (by rw [← e];rfl)) (hap g rfl)).trans hgg,rest⟩
theorem KeptS.blk (k:KeptS w w' X nb vs) (h:SpcD w B nb vs cs M L d) {t:Nat} {cs':List Value} (hX:Blk w X t cs') {g e:Nat} {xs:List Value} (p:Blk w g e xs) (h1:140≠e) (h2:t≠e):Blk w' g e xs:=by
 obtain ⟨D,hm,_⟩:=h.map
 exact (k.block g p.lt (fun e2=>blk_ne hX p h2 e2.symm) (map_blk hm p) (own_ne_blk9 h.row p h1)).trans p
theorem KeptS.ownI (k:KeptS w w' X nb vs) (h:SpcD w B nb vs cs M L d) {cs':List Value} (hX:Blk w X 96 cs') {B':Nat} {s:Sl} {zs:List Int} (ho:OwnI w B' s zs):OwnI w' B' s zs:=k.row h hX ho (by decide) (by decide)
theorem SpcD.at9 (h:SpcD w B nb vs cs M L d) {i:Nat} {r:Rec6 V4} {mv:Value} (hr:L[i]?=some (r,mv)):∃ g c,vs=.slice (some ⟨g,0,none⟩) L.length c∧g<w.heap.size∧w.rangeAt g (i*22) (rcC cs r mv):=by
 have hl:=(List.getElem?_eq_some_iff.1 hr).1
 rcases h.row.2 with ⟨_,h0⟩ | ⟨g,c,cur,hv,_⟩
 ·omega
 ·refine ⟨g,c,hv,(own_lt3 h.row (by rw [hv];rfl)).2,fun j v hj=>?_⟩
  have hj2:j<22:=(List.getElem?_eq_some_iff.1 hj).1
  have h9:=h.row
  rw [hv] at h9
  rw [h9.cellAt (i*22+j) (by omega),rcF_at cs L i j _ hr hj2]
  exact hj
end


theorem bel8 {a b c:World} (h:Below a.heap.size a b) (k:Below b.heap.size b c):Below a.heap.size a c:=h.trans (k.mono h.size)
theorem owns8 {B e k n:Nat} {v:Value} {xs:List Value} {w w':World} (h:w.ownsRow B e k v n xs) (hb:Below w.heap.size w w'):w'.ownsRow B e k v n xs:=
 h.kept (row:=none) ⟨hb.os,hb.tape,hb.output,hb.size,fun i hi _=>hb.block i hi⟩ (by cases v.ownBlock<;>simp)
theorem cell8 {w w':World} (h:Below w.heap.size w w') {p:Addr} {v:Value} (hv:w.cell? p=some v):w'.cell? p=some v:=by
 rw [h.cell (World.block_lt_of_cell? _ _ hv)]
 exact hv
theorem grown8 {w w':World} {row:Option Nat} (g:w.grownBy w' row) {p:Addr} {v:Value} (hc:w.cell? p=some v) (hne:some p.block≠row):w'.cell? p=some v:=by
 have hl:=World.block_lt_of_cell? _ _ hc
 rw [← hc]
 unfold World.cell?
 rw [g.block p.block hl hne]
theorem some8 {w:World} {B e s n:Nat} {v:Value} {cs:List Value} (h:w.ownsRow B e s v n cs) (hn:0<n):∃ g c,v=.slice (some ⟨g,0,none⟩) n c:=by
 rcases h.2 with ⟨rfl,h0⟩ | ⟨g,cap,cur,hv,_⟩
 ·omega
 ·exact ⟨g,cap,hv⟩
theorem slice8 {w:World} {B e s n:Nat} {v:Value} {cs:List Value} (h:w.ownsRow B e s v n cs):∃ a c,v=.slice a n c:=by
 rcases h.2 with ⟨rfl,h0⟩ | ⟨g,cap,cur,hv,_⟩
 ·subst h0;exact ⟨none,0,rfl⟩
 ·exact ⟨some ⟨g,0,none⟩,cap,hv⟩
theorem empty8 (w:World) (t s B:Nat) (hB:B≤w.heap.size):(w.alloc (.cells #[] t)).ownsRow B t s (.slice (some ⟨w.heap.size,0,none⟩) 0 0) 0 []:=World.ownsRow_lit w #[] 0 hB (by unfold maxLen;omega) (by simp)
theorem ints8 {w:World} {B n c:Nat} {a:Option Addr} {xs:List Int} (h:w.ownsRow B 3 1 (.slice a n c) n (xs.map (Value.int .i64))):Ints .i64 w a n c xs:=by
 rcases h.2 with ⟨e,h0⟩ | ⟨b,cc,cur,e,h1,h2,h3,h4⟩
 ·cases e
  have hl:=h.1
  exact ⟨by simpa using hl,Nat.le_refl _,by unfold maxLen;omega,.inl rfl⟩
 ·cases e
  exact Ints.of_owns h
theorem news8 {w:World} {b off n c:Nat} {xs:List Int} (h:Ints .i64 w (some ⟨b,off,none⟩) n c xs):∀ j u,(xs.map (Value.int .i64))[j]?=some u→w.cell? ((⟨b,off,none⟩:Addr).add j)=some u:=by
 intro j u hj
 obtain ⟨hl,_,_,hcase⟩:=h
 have hjl:j<xs.length:=by simpa using (List.getElem?_eq_some_iff.1 hj).1
 rcases hcase with h0 | ⟨b',off',he,hb,hc⟩
 ·omega
 ·cases he
  have:=hc j (by omega)
  have e:(⟨b,off,none⟩:Addr).add j=⟨b,off+j,none⟩:=by unfold Addr.add;split<;>simp_all
  rw [e,this]
  simp [List.getElem?_eq_getElem hjl] at hj
  simp [List.getD,List.getElem?_eq_getElem hjl,hj]
theorem one8 (xs:List Int):∀ u ∈ xs.map (Value.int .i64),u.oneCell'=true:=by
 intro u hu
 obtain ⟨x,_,rfl⟩:=List.mem_map.1 hu
 rfl
theorem step_app8 {P:Program} {ops:Array Oper} {o:Oper} {a:Act} {w:World} {K:Act→World→Prop} {Q:Exit→Act→World→Prop} {E:Prop}
  (hg:o.guard=none) (s x:Operand) (t:TypeId) (hop:o.op=Op.call { callee:=Callee.builtin Builtin.append,args:=#[s,x],argTypes:=#[t,t] })
  (base:Nat) (e:TypeId) (i:TypeInfo) (z:Value) (size bytes:Nat) (h1:P.underlying t=some (.slice e)) (h2:P.info? e=some i) (h3:i.zero=some z) (h4:i.size=size) (h5:i.bytes=bytes) (h6:z.cells.size=size) (h7:0<size)
  (v:Value) (n:Nat) (olds:List Value) (hs:a.eval s=v) (hown:w.ownsRow base e size v n olds)
  (ad:Addr) (m c:Nat) (news:List Value) (hx:a.eval x=.slice (some ad) m c) (hn:news.length=m*size) (hc:∀ j u,news[j]?=some u→w.cell? (ad.add j)=some u) (h1c:∀ u ∈ news,u.oneCell'=true)
  (b1:n+m≤maxLen) (b2:(n+m)*bytes≤140737488355328) (hbw:base≤w.heap.size)
  (hK:∀ v' w',w'.ownsRow base e size v' (n+m) (olds++news)→w.grownBy w' v.ownBlock→(v'.ownBlock=v.ownBlock∨v'.ownBlock=some w.heap.size)→K (a.put o.dst v') w') :
  if Region.wanted o (yielded ops a.tmps)=true then Oper.wp P o a w K Q else E:=by
 have hw:Region.wanted o (yielded ops a.tmps)=true:=by simp [Region.wanted,hg]
 rw [if_pos hw]
 obtain ⟨v',w',hrun,r1,r2,_,r4⟩:=run_append_own_at (P:=P) (w:=w) base t o.type e i z size bytes h1 h2 h3 h4 h5 h6 h7 v n olds hown ad m c news hn hc h1c b1 b2 hbw
 subst hs
 unfold Oper.wp
 simp [execOp,hop,resolve,invoke,builtin,hx,hrun,Result.andThen]
 exact hK v' w' r1 r2 r4


def pkT (xs:List Int):ByteArray:=strOfNums (packL xs)
def okF (xs:List Int):Prop:=allOk xs∧xs.length≤4096
theorem pk_inj {xs ys:List Int} (hx:okF xs) (hy:okF ys) (h:pkT xs=pkT ys):xs=ys:=by
 obtain ⟨na,ea,ma⟩:=nats_of hx.1
 obtain ⟨nb,eb,mb⟩:=nats_of hy.1
 have la:na.length=xs.length:=by rw [ea];simp
 have lb:nb.length=ys.length:=by rw [eb];simp
 have La:=listed_pack ma (by have:=hx.2;omega)
 have Lb:=listed_pack mb (by have:=hy.2;omega)
 rw [← packL_nats,← ea] at La
 rw [← packL_nats,← eb] at Lb
 unfold pkT at h
 rw [← h] at Lb
 rw [ea,eb,La.only Lb]
theorem stJ_small (es:List I4):∀ s,∀ x ∈ (stJ es s).2,x≤3
 | 0,x,hx=>by simp [stJ,stI] at hx
 | s+1,x,hx=>by
  rw [stJ_next] at hx
  rcases List.mem_append.1 hx with hx | hx
  ·exact stJ_small es s x hx
  ·rw [List.mem_singleton] at hx
   subst hx
   exact leastT_three _
theorem nrmE_ok {es:List I4} (h:inThree es) (hl:es.length≤4096):okF (nrmE es):=by
 refine ⟨?_,by rw [nrmE_len h];exact hl⟩
 rw [← stJ_end h]
 intro z hz
 obtain ⟨t,ht,rfl⟩:=List.mem_map.1 hz
 have:=stJ_small es es.length t ht
 omega
structure FmD (D:DataW Unit) (fs:List (List Int)):Prop where
 has:∀ t:ByteArray,Maps.has D (.string t.data.toList)=true↔t ∈ fs.map pkT
 bnd:∀ (t:ByteArray) (c:Int),D.atKey (.string t.data.toList) (.lit (.int .i64 0))=.lit (.int .i64 c)→0≤c∧c≤fs.length
 siz:Maps.size D=(fs.foldl ddG []).length
 ok:∀ x ∈ fs,okF x
theorem FmD.start:FmD (.map []) []:=⟨fun t=>by simp [Maps.has],fun t c h=>by
 simp [DataW.atKey] at h
 subst h
 simp,rfl,fun x hx=>by simp at hx⟩
theorem FmD.put {D:DataW Unit} {fs:List (List Int)} (h:FmD D fs) (hm:Maps.IsMap D) (ht:Maps.Tidy D) {x:List Int} (hx:okF x) {c:Int} (hc0:0≤c) (hc:c≤fs.length) :
  FmD (D.put (.string (pkT x).data.toList) (.lit (.int .i64 (c+1)))) (fs++[x]):=by
 have hkl:WideAt.IsKeyLit (.string (pkT x).data.toList):=trivial
 refine ⟨fun t=>?_,fun y d hd=>?_,?_,fun y hy=>?_⟩
 ·by_cases e:t=pkT x
  ·subst e
   rw [Maps.has_put_same hm hkl]
   simp
  ·rw [Maps.has_put_other (lit_ne e),h.has]
   simp [e]
 ·by_cases e:y=pkT x
  ·subst e
   rw [Maps.atKey_put_same hm hkl] at hd
   injection hd with hd
   injection hd with _ hd
   subst hd
   simp
   omega
  ·rw [Maps.atKey_put_other (lit_ne e)] at hd
   have:=h.bnd y d hd
   simp
   omega
 ·rw [Maps.size_put ht,List.foldl_append]
  show _=(ddG (fs.foldl ddG []) x).length
  have hmem:x ∈ fs.foldl ddG []↔x ∈ fs:=by rw [dd_mem];simp
  by_cases e:x ∈ fs
  ·have h1:Maps.has D (.string (pkT x).data.toList)=true:=(h.has _).2 (List.mem_map.2 ⟨x,e,rfl⟩)
   rw [h1,if_pos rfl,h.siz,show ddG (fs.foldl ddG []) x=fs.foldl ddG [] from if_pos (hmem.2 e)]
  ·have h1:Maps.has D (.string (pkT x).data.toList)=false:=by
    cases q:Maps.has D (.string (pkT x).data.toList)
    ·rfl
    ·obtain ⟨y,hy,e2⟩:=List.mem_map.1 ((h.has _).1 q)
     exact absurd (pk_inj (h.ok y hy) hx e2▸hy) e
   rw [h1,h.siz,show ddG (fs.foldl ddG []) x=fs.foldl ddG []++[x] from if_neg (fun q=>e (hmem.1 q))]
   simp
 ·rcases List.mem_append.1 hy with hy | hy
  ·exact h.ok y hy
  ·simp at hy;subst hy;exact hx
def FmAt (w:World) (nb:Nat) (fs:List (List Int)):Prop:=∃ D:DataW Unit,w.ownsMap Tryd.prog 9 (plainElem Tryd.prog 3) nb fs.length D∧FmD D fs
theorem FmAt.kept {w w':World} {nb:Nat} {fs:List (List Int)} {row:Option Nat} (h:FmAt w nb fs) (hg:w.grownBy w' row) (hne:row≠some nb):FmAt w' nb fs:=by
 obtain ⟨D,hm,hf⟩:=h
 exact ⟨D,hm.kept hg (fun e=>hne e.symm),hf⟩
theorem FmAt.below {w w':World} {nb:Nat} {fs:List (List Int)} (h:FmAt w nb fs) (hb:Below w.heap.size w w'):FmAt w' nb fs:=h.kept (row:=none) ⟨hb.os,hb.tape,hb.output,hb.size,fun k hk _=>hb.block k hk⟩ (by simp)
theorem key_str6 {t:ByteArray} (h:t.size≤maxLen):keyOf Tryd.prog 9 (.string t)=some (.string t.data.toList):=by
 simp [keyOf,Tryd.underlying9,mapKey,h]
theorem fits9 {z:Int} (h:0≤z) (h':z≤2000000000):(Lit.int .i64 z).wf=true:=by
 simp only [Lit.wf,Bool.and_eq_true,decide_eq_true_eq]
 have h1:IntKind.i64.min=-9223372036854775808:=by decide
 have h2:IntKind.i64.max=9223372036854775807:=by decide
 omega

theorem tell_is (ea:Option Addr) (n c Fb nb:Nat) (es:List I4) (fs:List (List Int)) (w:World) (hE:Evs w ea n es) (hn:n≤60) (hc:n≤c) (hI:inThree es) (hF:Blk w Fb 64 [.map (some nb)]) (hM:FmAt w nb fs) (hl:fs.length≤1200000000) :
  Calls Tryd.prog 29 #[.slice ea n c,.pointer (some ⟨Fb,0,none⟩)] w fun e w'=>e=.returned (.tuple #[])∧FmAt w' nb (fs++[nrmE es])∧w.grownBy w' (some nb):=by
 have hln:=hE.1
 have kN:=normalOf_is ea n c es w hE (by omega) hc hI hln.symm
 have hok:=nrmE_ok hI (by omega)
 generalize nrmE es=x at *
 clear hE hI
 go_enter Tryd.func29,Tryd.ntmps29
 go_wp2_with fail
 refine kN.mono ?_
 rintro e w1 ⟨⟨v,rfl,q⟩,hb⟩
 obtain ⟨xa,xc,rfl⟩:=slice8 q
 have kP:=implPackList_any xa x.length xc x w1 (ints8 q) hok.2
 replace hF:=hF.below hb
 replace hM:=hM.below hb
 have b1:=hb
 clear kN hb q
 go_wp2_with fail
 refine kP.mono ?_
 rintro e w2 ⟨he,hb⟩
 obtain rfl:e=.returned (.tuple #[.string (pkT x),.int .i64 0]):=by
  rcases he with ⟨_,he⟩ | ⟨hn,_⟩
  ·exact he
  ·exact absurd hok.1 hn
 clear he
 replace hF:=hF.below hb
 replace hM:=hM.below hb
 replace b1:=bel8 b1 hb
 clear hb kP
 obtain ⟨D,hm,hD⟩:=hM
 have hsz:(pkT x).size≤maxLen:=by
  unfold pkT
  rw [strOfNums_size]
  have h1:=packs_len x
  have h2:=(pack_len x.length).2
  unfold packL
  rw [List.length_append]
  have:=hok.2
  unfold maxLen
  omega
 have hkey:=key_str6 hsz
 have cF:w2.cell? ⟨Fb,0,none⟩=some (.map (some nb)):=by simpa using hF.cell 0
 have hbn:∀ c:Int,D.atKey (.string (pkT x).data.toList) (.lit (.int .i64 0))=.lit (.int .i64 c)→(0≤c∧c≤1200000000)∧FmD (D.put (.string (pkT x).data.toList) (.lit (.int .i64 (c+1)))) (fs++[x]):=fun c hat=>by
  have:=hD.bnd _ c hat
  exact ⟨by omega,hD.put hm.isMap (hm.tidy law_str6) hok this.1 this.2⟩
 clear hD hF hsz
 generalize pkT x=key at *
 go_wp2_with (first | (at_lookup;refine wpList_lookup_own_int _ rfl _ _ 64 rfl 9 3 .i64 law_str6 Tryd.underlying64 Tryd.underlying3 (zero_int6 _) nb fs.length D rfl hm _ _ rfl hkey ?_;intro cc hat hwc;obtain ⟨⟨hc0,hc1⟩,hSP⟩:=hbn cc hat;clear hbn hat hwc) | (at_mapUpdate;refine wpList_mapUpdate_own _ rfl _ _ _ 64 rfl 9 3 law_str6 Tryd.underlying64 _ nb fs.length D rfl hm (by unfold maxLen;omega) _ _ _ rfl rfl hkey _ [] (plainElem_int Tryd.underlying3 (fits9 (by omega) (by omega))) ?_;intro w3 hm3 g3))
 go_end0
 refine ⟨rfl,⟨_,by rw [List.length_append];exact hm3,hSP⟩,?_⟩
 exact ⟨g3.os.trans b1.os,g3.tape.trans b1.tape,g3.output.trans b1.output,Nat.le_trans b1.size g3.size,fun k hk hne=>(g3.block k (Nat.lt_of_lt_of_le hk b1.size) hne).trans (b1.block k hk)⟩
end Go.Proofs.YtojcgajjnmjjpaaDoor
