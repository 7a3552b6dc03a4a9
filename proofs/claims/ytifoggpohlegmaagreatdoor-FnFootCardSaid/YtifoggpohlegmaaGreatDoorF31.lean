/-
  Joined: SrcP, SpcP.
-/
import Derived.Maps.OwnSet
import Derived.Test.YtifoggpohlegmaaGreatDoorF28
import Derived.Test.YtifoggpohlegmaaGreatDoorF30

namespace Go.Proofs.YtifoggpohlegmaaGreatDoor
set_option maxRecDepth 100000
set_option maxHeartbeats 16000000
open Go.RowKit
set_option linter.unusedVariables false
set_option linter.unusedSimpArgs false

theorem has_key {S:List (Rec6 V4)} {x:V4} (hS:Shaped S) (hx:shapeOk x=true):hasS S x=true↔keyT x ∈ keysL S:=by
 rw [hasS_iff]
 unfold keysL
 constructor
 ·intro h
  obtain ⟨r,hr,rfl⟩:=List.mem_map.1 h
  exact List.mem_map.2 ⟨r,hr,rfl⟩
 ·intro h
  obtain ⟨r,hr,e⟩:=List.mem_map.1 h
  exact List.mem_map.2 ⟨r,hr,key_inj6 (hS r hr) hx e⟩
structure Out6 (rows:List (List I3)) (i:Nat) (S:List (Rec6 V4)):Prop where
 at9:i≤S.length
 pos:S≠[]
 len:S.length≤2000
 shp:Shaped S
 run:srch (nxM rows) (2000 - i) i S=fullS rows
structure In6 (rows:List (List I3)) (i j:Nat) (m:V4) (S:List (Rec6 V4)):Prop where
 at9:i<S.length
 len:S.length≤2000
 shp:Shaped S
 run:srch (nxM rows) (1999 - i) (i+1) (onS i S ((nxM rows m).drop j))=fullS rows
theorem Out6.go {rows:List (List I3)} {i:Nat} {S:List (Rec6 V4)} (h:Out6 rows i S) (hi:i<S.length):In6 rows i 0 (S[i]'hi).1 S:=by
 refine ⟨hi,h.len,h.shp,?_⟩
 have e:=h.run
 have hl:=h.len
 rw [show 2000 - i=(1999 - i)+1 by omega,srch_go hi] at e
 exact e
theorem Out6.fin {rows:List (List I3)} {i:Nat} {S:List (Rec6 V4)} (h:Out6 rows i S) (hi:S.length≤i):fullS rows=S:=by rw [← h.run,srch_end hi]
theorem In6.fin {rows:List (List I3)} {i j:Nat} {m:V4} {S:List (Rec6 V4)} (h:In6 rows i j m S) (hj:(enabM rows m 3).length≤j):Out6 rows (i+1) S:=by
 refine ⟨h.at9,fun e=>by have:=h.at9;rw [e] at this;simp at this,h.len,h.shp,?_⟩
 have e:=h.run
 rw [List.drop_eq_nil_of_le (by unfold nxM;simpa using hj)] at e
 rw [show 2000 - (i+1)=1999 - i by omega]
 exact e


def ixS:List (Rec6 V4)→V4→Nat
 | [],_=>0
 | r::S,x=>if r.1=x then 0 else ixS S x+1
theorem ixS_app:∀ {S:List (Rec6 V4)} {x:V4} (T:List (Rec6 V4)),x ∈ S.map (·.1)→ixS (S++T) x=ixS S x
 | [],_,_,h=>by simp at h
 | r::S,x,T,h=>by
  show (if r.1=x then 0 else ixS (S++T) x+1)=if r.1=x then 0 else ixS S x+1
  split
  ·rfl
  ·rename_i hne
   have h2:x ∈ S.map (·.1):=by
    rcases List.mem_cons.1 (by simpa using h:x ∈ r.1::S.map (·.1)) with h3 | h3
    ·exact absurd h3.symm hne
    ·exact h3
   rw [ixS_app T h2]
theorem ixS_pre {S T:List (Rec6 V4)} {x:V4} (h:S <+: T) (hx:x ∈ S.map (·.1)):ixS T x=ixS S x:=by
 obtain ⟨U,rfl⟩:=h
 exact ixS_app U hx
theorem ixS_new:∀ {S:List (Rec6 V4)} {x:V4} (i:Nat) (k:Int),x ∉ S.map (·.1)→ixS (S++[(x,i,k)]) x=S.length
 | [],x,i,k,_=>by simp [ixS]
 | r::S,x,i,k,h=>by
  have h1:r.1≠x:=fun e=>h (by simp [e])
  have h2:x ∉ S.map (·.1):=fun e=>h (by simpa using Or.inr e)
  show (if r.1=x then 0 else ixS (S++[(x,i,k)]) x+1)=_
  rw [if_neg h1,ixS_new i k h2]
  rfl
def mvOf (rows:List (List I3)) (S:List (Rec6 V4)) (m:V4) (k:Int):I4:=((goM rows m k).2,k,m.1.getD k.toNat 0,(ixS S (goM rows m k).1:Int))
def mvsOf (rows:List (List I3)) (S:List (Rec6 V4)) (m:V4):List I4:=(enabM rows m 3).map (mvOf rows S m)
structure NumD (D:DataW Unit) (S:List (Rec6 V4)):Prop where
 has:∀ t:ByteArray,Maps.has D (.string t.data.toList)=true↔t ∈ keysL S
 at9:∀ x,x ∈ S.map (·.1)→∀ z,D.atKey (.string (keyT x).data.toList) z=.lit (.int .i64 (ixS S x))
theorem NumD.start:NumD (.map []) []:=⟨fun t=>by simp [keysL,Maps.has],fun x hx=>by simp at hx⟩
theorem lit_ne {s t:ByteArray} (h:s≠t):(Lit.string s.data.toList)≠Lit.string t.data.toList:=fun e=>by
 injection e with e
 exact h (ByteArray.ext (Array.ext' e))
theorem NumD.put {D:DataW Unit} {S:List (Rec6 V4)} (h:NumD D S) (hm:Maps.IsMap D) (hS:Shaped S) {x:V4} (hx:shapeOk x=true) (hn:x ∉ S.map (·.1)) (i:Nat) (k:Int) :
  NumD (D.put (.string (keyT x).data.toList) (.lit (.int .i64 S.length))) (S++[(x,i,k)]):=by
 have hkl:WideAt.IsKeyLit (.string (keyT x).data.toList):=trivial
 refine ⟨fun t=>?_,fun y hy z=>?_⟩
 ·rw [keysL_app]
  by_cases e:t=keyT x
  ·subst e
   rw [Maps.has_put_same hm hkl]
   simp
  ·rw [Maps.has_put_other (lit_ne e),h.has]
   simp [e]
 ·by_cases e:y=x
  ·subst e
   rw [Maps.atKey_put_same hm hkl,ixS_new i k hn]
  ·have hy2:y ∈ S.map (·.1):=by
    rcases List.mem_append.1 (by simpa using hy:y ∈ S.map (·.1)++[x]) with h3 | h3
    ·exact h3
    ·exact absurd (by simpa using h3) e
   obtain ⟨r,hr,rfl⟩:=List.mem_map.1 hy2
   have hk:keyT r.1≠keyT x:=fun e2=>e (key_inj6 (hS r hr) hx e2)
   rw [Maps.atKey_put_other (lit_ne hk),h.at9 _ hy2,ixS_app _ hy2]

/-! The records of states: 22 cells each. -/
def rcC (cs:Sl × Sl × Sl) (r:Rec6 V4) (mv:Value):List Value:=.string (keyT r.1)::(machCells cs.1.val cs.2.1.val cs.2.2.val r.1++[.int .i64 r.2.1,.int .i64 r.2.2,mv])
theorem rcC_len (cs:Sl × Sl × Sl) (r:Rec6 V4) (mv:Value):(rcC cs r mv).length=22:=rfl
def rcF (cs:Sl × Sl × Sl) (L:List (Rec6 V4 × Value)):List Value:=L.flatMap fun x=>rcC cs x.1 x.2
theorem rcF_app (cs:Sl × Sl × Sl) (L:List (Rec6 V4 × Value)) (x:Rec6 V4 × Value):rcF cs (L++[x])=rcF cs L++rcC cs x.1 x.2:=by simp [rcF]
theorem rcF_at (cs:Sl × Sl × Sl):∀ (L:List (Rec6 V4 × Value)) (i j:Nat) (x:Rec6 V4 × Value),L[i]?=some x→j<22→(rcF cs L)[i*22+j]?=(rcC cs x.1 x.2)[j]?
 | [],_,_,_,h,_=>by simp at h
 | y::L,0,j,x,h,hj=>by
  simp at h
  subst h
  show (rcC cs y.1 y.2++rcF cs L)[0*22+j]?=_
  rw [List.getElem?_append_left (by rw [rcC_len];omega)]
  congr 1
  omega
 | y::L,i+1,j,x,h,hj=>by
  have ih:=rcF_at cs L i j x (by simpa using h) hj
  show (rcC cs y.1 y.2++rcF cs L)[(i+1)*22+j]?=_
  rw [List.getElem?_append_right (by rw [rcC_len];omega),rcC_len,← ih]
  congr 1
  omega
theorem rcC_set (cs:Sl × Sl × Sl) (r:Rec6 V4) (mv mv':Value):(rcC cs r mv).set 21 mv'=rcC cs r mv':=rfl
theorem rcF_set (cs:Sl × Sl × Sl):∀ (L:List (Rec6 V4 × Value)) (i:Nat) (r:Rec6 V4) (mv mv':Value),L[i]?=some (r,mv)→(rcF cs L).set (i*22+21) mv'=rcF cs (L.set i (r,mv'))
 | [],_,_,_,_,h=>by simp at h
 | y::L,0,r,mv,mv',h=>by
  simp at h
  subst h
  show (rcC cs r mv++rcF cs L).set (0*22+21) mv'=rcC cs r mv'++rcF cs L
  rw [List.set_append_left _ _ (by rw [rcC_len];omega)]
  rw [show 0*22+21=21 by omega,rcC_set]
 | y::L,i+1,r,mv,mv',h=>by
  have ih:=rcF_set cs L i r mv mv' (by simpa using h)
  show (rcC cs y.1 y.2++rcF cs L).set ((i+1)*22+21) mv'=rcC cs y.1 y.2++rcF cs (L.set i (r,mv'))
  rw [List.set_append_right _ _ (by rw [rcC_len];omega),rcC_len,← ih]
  congr 2
  omega
end Go.Proofs.YtifoggpohlegmaaGreatDoor
