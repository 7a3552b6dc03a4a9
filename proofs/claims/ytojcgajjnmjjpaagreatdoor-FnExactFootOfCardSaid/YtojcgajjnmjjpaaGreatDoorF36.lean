/-
  Joined: FulB, FulD, FindS, Rw3, KeyB, SrcP.
-/
import Derived.Test.YtojcgajjnmjjpaaGreatDoorF31
import Derived.Test.YtojcgajjnmjjpaaGreatDoorF35

namespace Go.Proofs.YtojcgajjnmjjpaaGreatDoor
set_option maxRecDepth 100000
set_option linter.unusedVariables false

def remM (rows:List (List I3)) (m:V4) (k:Nat):Nat:=(codeM rows k).length - (m.1.getD k 0).toNat
theorem rem_step {rows:List (List I3)} {m:V4} (hp:progOk rows=true) (hs:shapeOk m=true) {k:Nat} (hk:k<3) (hd:doneM rows m k=false) :
  remM rows (goM rows m k).1 k+1≤remM rows m k∧∀ j,j≠k→remM rows (goM rows m k).1 j=remM rows m j:=by
 have h1:=stepM_own hp hs hk hd
 have hb:=shape_bounds hs
 have hpc:=getD_in hb.1 (by omega) k
 have hlt:m.1.getD k 0<(codeM rows k).length:=by
  unfold doneM at hd
  rw [decide_eq_false_iff_not] at hd
  omega
 rw [goM_natC]
 refine ⟨?_,fun j hj=>?_⟩
 ·unfold remM
  omega
 ·unfold remM
  rw [stepM_other m _ hj]


def leftN (rows:List (List I3)) (m:V4):Nat:=remM rows m 0+remM rows m 1+remM rows m 2
theorem left_step {rows:List (List I3)} {m:V4} (hp:progOk rows=true) (hs:shapeOk m=true) {k:Int} (h:haltM rows m k=0):leftN rows (goM rows m k).1+1≤leftN rows m:=by
 obtain ⟨h0,h2,hd,hc⟩:=halt_can h
 obtain ⟨q,rfl⟩:∃ q:Nat,k=q:=⟨k.toNat,by omega⟩
 rw [Int.toNat_natCast] at hd
 obtain ⟨r1,r2⟩:=rem_step hp hs (show q<3 by omega) hd
 unfold leftN
 have hq:q=0∨q=1∨q=2:=by omega
 rcases hq with rfl | rfl | rfl
 ·have a:=r2 1 (by omega);have b:=r2 2 (by omega);omega
 ·have a:=r2 0 (by omega);have b:=r2 2 (by omega);omega
 ·have a:=r2 0 (by omega);have b:=r2 1 (by omega);omega
theorem enab_halt {rows:List (List I3)} {m:V4} {k:Int} (h:k ∈ enabM rows m 3):haltM rows m k=0:=(nxM_mem (t:=(k,(goM rows m k).1)) (List.mem_map.2 ⟨k,h,rfl⟩)).1

open Go.RowKit
set_option linter.unusedSimpArgs false

theorem beq_tf {x t:ByteArray} (h:¬ x=t):(x.toList == t.toList)=false:=by
 rw [beq_eq_false_iff_ne]
 intro e
 rw [ByteArray.toList_eq,ByteArray.toList_eq] at e
 exact h (ByteArray.ext (Array.ext' e))
def findT (ts:List ByteArray) (t:ByteArray):Nat→Int
 | 0=>-1
 | n+1=>if ts.getD n ByteArray.empty=t then (n:Int) else findT ts t n
theorem findT_iff {ts:List ByteArray} {t:ByteArray}:∀ n,n≤ts.length→(0≤findT ts t n↔t ∈ ts.take n)
 | 0,_=>by simp [findT]
 | n+1,h=>by
  have ih:=findT_iff (ts:=ts) (t:=t) n (by omega)
  have e:ts.take (n+1)=ts.take n++[ts.getD n ByteArray.empty]:=by
   rw [List.take_add_one,List.getElem?_eq_getElem (show n<ts.length by omega)]
   simp [List.getD,show n<ts.length by omega]
  rw [e,List.mem_append,List.mem_singleton]
  unfold findT
  by_cases h1:ts.getD n ByteArray.empty=t
  ·rw [if_pos h1]
   exact ⟨fun _=>.inr h1.symm,fun _=>by omega⟩
  ·rw [if_neg h1,ih]
   exact ⟨.inl,fun h2=>h2.elim id (fun h3=>absurd h3.symm h1)⟩

set_option maxHeartbeats 1000000 in
theorem l06Find_is (a:Option Addr) (n c:Nat) (ts:List ByteArray) (t:ByteArray) (w:World) (h:Strs w a n c ts) (hn:n≤1000000) :
  Calls Tryz.prog 82 #[.slice a n c,.string t] w fun e w'=>e=.returned (.int .i64 (findT ts t n))∧w=w':=by
 obtain ⟨hl,hlc,hcm,hcase⟩:=h
 obtain ⟨f,hf⟩:∃ f,f=findT ts t n:=⟨_,rfl⟩
 have HF:Hid (f=findT ts t n):=hf
 rw [← hf]
 clear hf hl hcm
 go_enter Tryz.func82,Tryz.ntmps82
 go_wp2_with fail
 go_loopw [5] (fun si wr=>∃ ii:Nat,ii≤n∧si=.int .i64 ((ii:Int) - 1)∧Hid (f=findT ts t ii)∧w=wr) (fun si _=>(intOf si+1).toNat)
 case atStart=>exact ⟨n,Nat.le_refl _,rfl,HF,rfl⟩
 case round =>
  obtain ⟨ii,hii,rfl,HG,rfl⟩:=hrel
  rcases Nat.eq_zero_or_pos ii with rfl | hpos
  ·have HE:Hid (f=-1):=HG.out
   go_wp2
   go_ret
   exact ⟨by rw [HE.out];rfl,rfl⟩
  ·obtain ⟨i,rfl⟩:∃ i,ii=i+1:=⟨ii - 1,by omega⟩
   have hi0:((i+1:Nat):Int) - 1=(i:Int):=by omega
   rw [hi0]
   have hi9:(0:Int)≤(i:Int):=by omega
   have hin:(i:Int)<(n:Int):=by omega
   rcases hcase with h0 | ⟨b,off,rfl,hb,hcell⟩
   ·omega
   have hc:=hcell i (by omega)
   have HG2:Hid (f=if ts.getD i ByteArray.empty=t then (i:Int) else findT ts t i):=HG.out
   clear hcell HG
   generalize ts.getD i ByteArray.empty=x at *
   by_cases hx:x=t
   ·have hxx:(x.toList == t.toList)=true:=by rw [hx];simp
    have HE:Hid (f=i):=by rw [Hid,HG2.out,if_pos hx]
    clear HG2 hx
    go_wp2
    go_ret
    exact ⟨by rw [HE.out];rfl,rfl⟩
   ·have hxx:(x.toList == t.toList)=false:=beq_tf hx
    have HE:Hid (f=findT ts t i):=by rw [Hid,HG2.out,if_neg hx]
    clear HG2 hx
    go_wp2
    go_roundw
    case rel=>exact ⟨i,by omega,by go_num,HE,by first | rfl | trivial⟩
    case measure=>simp [intOf]<;>omega


def Ap3 (v u:Value):Prop:=∀ g,v.ownBlock=some g→u.ownBlock≠some g
theorem Ap3.symm {v u:Value} (h:Ap3 v u):Ap3 u v:=fun g hg h2=>h g h2 hg
theorem Ap3.or {v u:Value} (h:Ap3 v u):v.ownBlock=none∨v.ownBlock≠u.ownBlock:=by
 cases e:v.ownBlock with
 | none=>exact .inl rfl
 | some g=>exact .inr fun e2=>h g e e2.symm
theorem Ap3.types {w:World} {B B' e e' s s' n n':Nat} {v v':Value} {xs xs':List Value} (h:w.ownsRow B e s v n xs) (h':w.ownsRow B' e' s' v' n' xs') (he:e≠e'):Ap3 v v':=fun g hg h2=>by
 rcases owns_ne h h' he with h3 | h3
 ·rw [h3] at hg;cases hg
 ·exact h3 (hg.trans h2.symm)
theorem own_lt3 {w:World} {B e s n:Nat} {v:Value} {xs:List Value} (h:w.ownsRow B e s v n xs) {g:Nat} (hg:v.ownBlock=some g):B≤g∧g<w.heap.size:=by
 rcases h.2 with ⟨rfl,_⟩ | ⟨g',cap,cur,rfl,hb,hgg,_⟩
 ·simp [Value.ownBlock] at hg
 ·simp [Value.ownBlock] at hg
  subst hg
  refine ⟨hb,?_⟩
  rcases Nat.lt_or_ge g' w.heap.size with h1 | h1
  ·exact h1
  ·rw [Array.getElem?_eq_none h1] at hgg;cases hgg
structure Tri (w:World) (B:Nat) (v1 v2 v3:Value) (ts:List ByteArray) (fs bs:List Int):Prop where
 ks:w.ownsRow B 9 1 v1 ts.length (ts.map Value.string)
 fr:w.ownsRow B 3 1 v2 fs.length (fs.map (Value.int .i64))
 bw:w.ownsRow B 3 1 v3 bs.length (bs.map (Value.int .i64))
 ap:Ap3 v2 v3
theorem Tri.below {w w':World} {B:Nat} {v1 v2 v3:Value} {ts:List ByteArray} {fs bs:List Int} (h:Tri w B v1 v2 v3 ts fs bs) (hb:Below w.heap.size w w'):Tri w' B v1 v2 v3 ts fs bs:=
 ⟨owns_below h.ks hb,owns_below h.fr hb,owns_below h.bw hb,h.ap⟩
structure Off3 (wi w:World) (v1 v2 v3 u1 u2 u3:Value):Prop where
 size:wi.heap.size≤w.heap.size
 keep:∀ k,k<wi.heap.size→v1.ownBlock≠some k→v2.ownBlock≠some k→v3.ownBlock≠some k→w.heap[k]?=wi.heap[k]?
 at1:u1.ownBlock=v1.ownBlock∨∃ g,wi.heap.size≤g∧u1.ownBlock=some g
 at2:u2.ownBlock=v2.ownBlock∨∃ g,wi.heap.size≤g∧u2.ownBlock=some g
 at3:u3.ownBlock=v3.ownBlock∨∃ g,wi.heap.size≤g∧u3.ownBlock=some g
theorem Off3.refl (w:World) (v1 v2 v3:Value):Off3 w w v1 v2 v3 v1 v2 v3:=⟨Nat.le_refl _,fun _ _ _ _ _=>rfl,.inl rfl,.inl rfl,.inl rfl⟩
theorem Off3.below {wi w w':World} {v1 v2 v3 u1 u2 u3:Value} (h:Off3 wi w v1 v2 v3 u1 u2 u3) (hb:Below w.heap.size w w'):Off3 wi w' v1 v2 v3 u1 u2 u3:=
 ⟨Nat.le_trans h.size hb.size,fun k hk a b c=>(hb.block k (Nat.lt_of_lt_of_le hk h.size)).trans (h.keep k hk a b c),h.at1,h.at2,h.at3⟩
theorem Off3.row {wi w:World} {v1 v2 v3 u1 u2 u3:Value} (h:Off3 wi w v1 v2 v3 u1 u2 u3) {B e s n:Nat} {v:Value} {xs:List Value} (ho:wi.ownsRow B e s v n xs) (a1:Ap3 v v1) (a2:Ap3 v v2) (a3:Ap3 v v3):w.ownsRow B e s v n xs:=by
 have hlt:=fun g hg=>(own_lt3 ho (g:=g) hg).2
 refine ⟨ho.1,?_⟩
 rcases ho.2 with hn | ⟨g,cap,cur,rfl,hb,hgg,rest⟩
 ·exact .inl hn
 ·exact .inr ⟨g,cap,cur,rfl,hb,(h.keep g (hlt g rfl) (a1 g rfl) (a2 g rfl) (a3 g rfl)).trans hgg,rest⟩

/-! The rows that go with the list of states. -/
def keysL (S:List (Rec6 V4)):List ByteArray:=S.map fun r=>keyT r.1
theorem keysL_app (S:List (Rec6 V4)) (r:Rec6 V4):keysL (S++[r])=keysL S++[keyT r.1]:=by simp [keysL]


theorem btV_str6 (xs:List Int) (h:∀ x ∈ xs,0≤x∧x≤255) (i:Nat) (hi:i<xs.length):btV (strOfNums xs) i=xs.getD i 0:=by
 have hx:=h xs[i] (List.getElem_mem hi)
 unfold btV
 simp [strOfNums,List.getD,List.getElem?_eq_getElem hi]
 omega
theorem keyT_size6 {m:V4} (h:shapeOk m=true):(keyT m).size=15:=by
 obtain ⟨l0,l1,l2,l3,_⟩:=shape_parts h
 unfold keyT
 rw [strOfNums_size,List.length_map]
 unfold allOf
 simp [l0,l1,l2,l3]
theorem key_back6 {m:V4} (h:shapeOk m=true):bytesV (keyT m)=m:=by
 obtain ⟨l0,l1,l2,l3,hd⟩:=shape_parts h
 have hb:∀ i,i<15→btV (keyT m) i - 48=(allOf m).getD i 0:=fun i hi=>by
  have hl:(allOf m).length=15:=by unfold allOf;simp [l0,l1,l2,l3]
  unfold keyT
  rw [btV_str6 _ (fun x hx=>by obtain ⟨z,hz,rfl⟩:=List.mem_map.1 hx;have:=hd z hz;omega) i (by rw [List.length_map];omega)]
  have e:((allOf m).map fun z=>48+z).getD i 0=48+(allOf m).getD i 0:=by
   have hi':i<(allOf m).length:=by omega
   simp [List.getD,List.getElem?_eq_getElem hi']
  rw [e]
  omega
 have b0:=hb 0 (by omega)
 have b1:=hb 1 (by omega)
 have b2:=hb 2 (by omega)
 have b3:=hb 3 (by omega)
 have b4:=hb 4 (by omega)
 have b5:=hb 5 (by omega)
 have b6:=hb 6 (by omega)
 have b7:=hb 7 (by omega)
 have b8:=hb 8 (by omega)
 have b9:=hb 9 (by omega)
 have b10:=hb 10 (by omega)
 have b11:=hb 11 (by omega)
 have b12:=hb 12 (by omega)
 have b13:=hb 13 (by omega)
 have b14:=hb 14 (by omega)
 clear hb hd l0 l1 l2 l3
 obtain ⟨p0,p1,p2,v0,v1,v2,v3,h0,h1,x0,y0,x1,y1,x2,y2,rfl⟩:=shape_lists h
 unfold bytesV partV fillL
 simp [List.range_succ,b0,b1,b2,b3,b4,b5,b6,b7,b8,b9,b10,b11,b12,b13,b14]
 simp [allOf]
theorem key_inj6 {m q:V4} (h:shapeOk m=true) (h':shapeOk q=true) (e:keyT m=keyT q):m=q:=by rw [← key_back6 h,e,key_back6 h']


theorem has_key {S:List (Rec6 V4)} {x:V4} (hS:Shaped S) (hx:shapeOk x=true):hasS S x=true↔keyT x ∈ keysL S:=by
 rw [hasS_iff]
 unfold keysL
 constructor
 ·intro h
  obtain ⟨r,hr,rfl⟩:=List.mem_map.1 h
  exact List.mem_map.2 ⟨r,hr,rfl⟩
 ·intro h
  obtain ⟨r,hr,e⟩:=List.mem_map.1 h
  exact List.mem_map.2 ⟨r,hr,key_inj6 (hS r hr) hx e⟩
structure Out6 (rows:List (List I3)) (i:Nat) (S:List (Rec6 V4)):Prop where
 at9:i≤S.length
 pos:S≠[]
 len:S.length≤2000
 shp:Shaped S
 run:srch (nxM rows) (2000 - i) i S=fullS rows
structure In6 (rows:List (List I3)) (i j:Nat) (m:V4) (S:List (Rec6 V4)):Prop where
 at9:i<S.length
 len:S.length≤2000
 shp:Shaped S
 run:srch (nxM rows) (1999 - i) (i+1) (onS i S ((nxM rows m).drop j))=fullS rows
theorem Out6.go {rows:List (List I3)} {i:Nat} {S:List (Rec6 V4)} (h:Out6 rows i S) (hi:i<S.length):In6 rows i 0 (S[i]'hi).1 S:=by
 refine ⟨hi,h.len,h.shp,?_⟩
 have e:=h.run
 have hl:=h.len
 rw [show 2000 - i=(1999 - i)+1 by omega,srch_go hi] at e
 exact e
theorem Out6.fin {rows:List (List I3)} {i:Nat} {S:List (Rec6 V4)} (h:Out6 rows i S) (hi:S.length≤i):fullS rows=S:=by rw [← h.run,srch_end hi]
theorem In6.fin {rows:List (List I3)} {i j:Nat} {m:V4} {S:List (Rec6 V4)} (h:In6 rows i j m S) (hj:(enabM rows m 3).length≤j):Out6 rows (i+1) S:=by
 refine ⟨h.at9,fun e=>by have:=h.at9;rw [e] at this;simp at this,h.len,h.shp,?_⟩
 have e:=h.run
 rw [List.drop_eq_nil_of_le (by unfold nxM;simpa using hj)] at e
 rw [show 2000 - (i+1)=1999 - i by omega]
 exact e
end Go.Proofs.YtojcgajjnmjjpaaGreatDoor
