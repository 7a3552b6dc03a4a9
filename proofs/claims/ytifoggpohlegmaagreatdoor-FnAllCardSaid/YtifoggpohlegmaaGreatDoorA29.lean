/-
  Joined: KeyB, SrcP.
-/
import Derived.Test.YtifoggpohlegmaaGreatDoorA28

namespace Go.Proofs.YtifoggpohlegmaaGreatDoor
set_option maxRecDepth 100000
set_option maxHeartbeats 16000000
open Go.RowKit
set_option linter.unusedVariables false
set_option linter.unusedSimpArgs false

theorem btV_str6 (xs:List Int) (h:∀ x ∈ xs,0≤x∧x≤255) (i:Nat) (hi:i<xs.length):btV (strOfNums xs) i=xs.getD i 0:=by
 have hx:=h xs[i] (List.getElem_mem hi)
 unfold btV
 simp [strOfNums,List.getD,List.getElem?_eq_getElem hi]
 omega
theorem keyT_size6 {m:V4} (h:shapeOk m=true):(keyT m).size=15:=by
 obtain ⟨l0,l1,l2,l3,_⟩:=shape_parts h
 unfold keyT
 rw [strOfNums_size,List.length_map]
 unfold allOf
 simp [l0,l1,l2,l3]
theorem key_back6 {m:V4} (h:shapeOk m=true):bytesV (keyT m)=m:=by
 obtain ⟨l0,l1,l2,l3,hd⟩:=shape_parts h
 have hb:∀ i,i<15→btV (keyT m) i - 48=(allOf m).getD i 0:=fun i hi=>by
  have hl:(allOf m).length=15:=by unfold allOf;simp [l0,l1,l2,l3]
  unfold keyT
  rw [btV_str6 _ (fun x hx=>by obtain ⟨z,hz,rfl⟩:=List.mem_map.1 hx;have:=hd z hz;omega) i (by rw [List.length_map];omega)]
  have e:((allOf m).map fun z=>48+z).getD i 0=48+(allOf m).getD i 0:=by
   have hi':i<(allOf m).length:=by omega
   simp [List.getD,List.getElem?_eq_getElem hi']
  rw [e]
  omega
 have b0:=hb 0 (by omega)
 have b1:=hb 1 (by omega)
 have b2:=hb 2 (by omega)
 have b3:=hb 3 (by omega)
 have b4:=hb 4 (by omega)
 have b5:=hb 5 (by omega)
 have b6:=hb 6 (by omega)
 have b7:=hb 7 (by omega)
 have b8:=hb 8 (by omega)
 have b9:=hb 9 (by omega)
 have b10:=hb 10 (by omega)
 have b11:=hb 11 (by omega)
 have b12:=hb 12 (by omega)
 have b13:=hb 13 (by omega)
 have b14:=hb 14 (by omega)
 clear hb hd l0 l1 l2 l3
 obtain ⟨p0,p1,p2,v0,v1,v2,v3,h0,h1,x0,y0,x1,y1,x2,y2,rfl⟩:=shape_lists h
 unfold bytesV partV fillL
 simp [List.range_succ,b0,b1,b2,b3,b4,b5,b6,b7,b8,b9,b10,b11,b12,b13,b14]
 simp [allOf]
theorem key_inj6 {m q:V4} (h:shapeOk m=true) (h':shapeOk q=true) (e:keyT m=keyT q):m=q:=by rw [← key_back6 h,e,key_back6 h']


theorem has_key {S:List (Rec6 V4)} {x:V4} (hS:Shaped S) (hx:shapeOk x=true):hasS S x=true↔keyT x ∈ keysL S:=by
 rw [hasS_iff]
 unfold keysL
 constructor
 ·intro h
  obtain ⟨r,hr,rfl⟩:=List.mem_map.1 h
  exact List.mem_map.2 ⟨r,hr,rfl⟩
 ·intro h
  obtain ⟨r,hr,e⟩:=List.mem_map.1 h
  exact List.mem_map.2 ⟨r,hr,key_inj6 (hS r hr) hx e⟩
theorem nx_at {rows:List (List I3)} {m:V4} {j:Nat} {k:Int} (h:(enabM rows m 3)[j]?=some k):(nxM rows m).drop j=(k,(goM rows m k).1)::(nxM rows m).drop (j+1):=by
 obtain ⟨hj,e⟩:=List.getElem?_eq_some_iff.1 h
 have hj':j<(nxM rows m).length:=by unfold nxM;simpa using hj
 have e2:(nxM rows m)[j]'hj'=(k,(goM rows m k).1):=by simp only [nxM,List.getElem_map,e]
 rw [List.drop_eq_getElem_cons hj',e2]
structure Out6 (rows:List (List I3)) (i:Nat) (S:List (Rec6 V4)):Prop where
 at9:i≤S.length
 pos:S≠[]
 len:S.length≤2000
 shp:Shaped S
 run:srch (nxM rows) (2000 - i) i S=fullS rows
structure In6 (rows:List (List I3)) (i j:Nat) (m:V4) (S:List (Rec6 V4)):Prop where
 at9:i<S.length
 len:S.length≤2000
 shp:Shaped S
 run:srch (nxM rows) (1999 - i) (i+1) (onS i S ((nxM rows m).drop j))=fullS rows
theorem Out6.start (rows:List (List I3)):Out6 rows 0 [(zeroV,0,0)]:=⟨by simp,by simp,by simp,fun r hr=>by simp at hr;subst hr;exact zero_shape,rfl⟩
theorem Out6.go {rows:List (List I3)} {i:Nat} {S:List (Rec6 V4)} (h:Out6 rows i S) (hi:i<S.length):In6 rows i 0 (S[i]'hi).1 S:=by
 refine ⟨hi,h.len,h.shp,?_⟩
 have e:=h.run
 have hl:=h.len
 rw [show 2000 - i=(1999 - i)+1 by omega,srch_go hi] at e
 exact e
theorem Out6.fin {rows:List (List I3)} {i:Nat} {S:List (Rec6 V4)} (h:Out6 rows i S) (hi:S.length≤i):fullS rows=S:=by rw [← h.run,srch_end hi]
theorem In6.fin {rows:List (List I3)} {i j:Nat} {m:V4} {S:List (Rec6 V4)} (h:In6 rows i j m S) (hj:(enabM rows m 3).length≤j):Out6 rows (i+1) S:=by
 refine ⟨h.at9,fun e=>by have:=h.at9;rw [e] at this;simp at this,h.len,h.shp,?_⟩
 have e:=h.run
 rw [List.drop_eq_nil_of_le (by unfold nxM;simpa using hj)] at e
 rw [show 2000 - (i+1)=1999 - i by omega]
 exact e
theorem In6.old {rows:List (List I3)} {i j:Nat} {m:V4} {S:List (Rec6 V4)} (h:In6 rows i j m S) {k:Int} (hk:(enabM rows m 3)[j]?=some k) (hx:shapeOk (goM rows m k).1=true) (hh:keyT (goM rows m k).1 ∈ keysL S):In6 rows i (j+1) m S:=by
 refine ⟨h.at9,h.len,h.shp,?_⟩
 have e:=h.run
 rw [nx_at hk,onS_cons] at e
 unfold putS at e
 rw [if_pos ((has_key h.shp hx).2 hh)] at e
 exact e
theorem In6.new {rows:List (List I3)} {i j:Nat} {m:V4} {S:List (Rec6 V4)} (h:In6 rows i j m S) {k:Int} (hk:(enabM rows m 3)[j]?=some k) (hx:shapeOk (goM rows m k).1=true) (hh:keyT (goM rows m k).1 ∉ keysL S) (hl:S.length≠2000):In6 rows i (j+1) m (S++[((goM rows m k).1,i,k)]):=by
 have h1:=h.len
 refine ⟨by have:=h.at9;simp;omega,by simp;omega,?_,?_⟩
 ·intro r hr
  rcases List.mem_append.1 hr with hr | hr
  ·exact h.shp r hr
  ·simp at hr;subst hr;exact hx
 ·have e:=h.run
  rw [nx_at hk,onS_cons] at e
  unfold putS at e
  rw [if_neg (fun h2=>hh ((has_key h.shp hx).1 h2))] at e
  exact e
theorem In6.full {rows:List (List I3)} {i j:Nat} {m:V4} {S:List (Rec6 V4)} (h:In6 rows i j m S) {k:Int} (hk:(enabM rows m 3)[j]?=some k) (hx:shapeOk (goM rows m k).1=true) (hh:keyT (goM rows m k).1 ∉ keysL S) (hl:S.length=2000):2000<(fullS rows).length:=by
 have e:=h.run
 rw [nx_at hk,onS_cons] at e
 unfold putS at e
 rw [if_neg (fun h2=>hh ((has_key h.shp hx).1 h2))] at e
 rw [← e]
 show 2000<(srch (nxM rows) (1999 - i) (i+1) (onS i (S++[((goM rows m k).1,i,k)]) ((nxM rows m).drop (j+1)))).length
 have h1:=(onS_pre i ((nxM rows m).drop (j+1)) (S++[((goM rows m k).1,i,k)])).length_le
 have h2:=(srch_pre (nxM rows) (1999 - i) (i+1) (onS i (S++[((goM rows m k).1,i,k)]) ((nxM rows m).drop (j+1)))).length_le
 simp at h1
 omega
end Go.Proofs.YtifoggpohlegmaaGreatDoor
