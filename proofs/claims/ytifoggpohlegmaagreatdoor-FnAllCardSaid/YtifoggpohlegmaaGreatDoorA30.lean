/-
  Joined: SpcP, SpcH.
-/
import Derived.Maps.OwnSet
import Derived.Test.YtifoggpohlegmaaGreatDoorA29

namespace Go.Proofs.YtifoggpohlegmaaGreatDoor
set_option maxRecDepth 100000
set_option maxHeartbeats 16000000
open Go.RowKit
set_option linter.unusedVariables false
set_option linter.unusedSimpArgs false

def ixS:List (Rec6 V4)→V4→Nat
 | [],_=>0
 | r::S,x=>if r.1=x then 0 else ixS S x+1
theorem ixS_app:∀ {S:List (Rec6 V4)} {x:V4} (T:List (Rec6 V4)),x ∈ S.map (·.1)→ixS (S++T) x=ixS S x
 | [],_,_,h=>by simp at h
 | r::S,x,T,h=>by
  show (if r.1=x then 0 else ixS (S++T) x+1)=if r.1=x then 0 else ixS S x+1
  split
  ·rfl
  ·rename_i hne
   have h2:x ∈ S.map (·.1):=by
    rcases List.mem_cons.1 (by simpa using h:x ∈ r.1::S.map (·.1)) with h3 | h3
    ·exact absurd h3.symm hne
    ·exact h3
   rw [ixS_app T h2]
theorem ixS_pre {S T:List (Rec6 V4)} {x:V4} (h:S <+: T) (hx:x ∈ S.map (·.1)):ixS T x=ixS S x:=by
 obtain ⟨U,rfl⟩:=h
 exact ixS_app U hx
theorem ixS_new:∀ {S:List (Rec6 V4)} {x:V4} (i:Nat) (k:Int),x ∉ S.map (·.1)→ixS (S++[(x,i,k)]) x=S.length
 | [],x,i,k,_=>by simp [ixS]
 | r::S,x,i,k,h=>by
  have h1:r.1≠x:=fun e=>h (by simp [e])
  have h2:x ∉ S.map (·.1):=fun e=>h (by simpa using Or.inr e)
  show (if r.1=x then 0 else ixS (S++[(x,i,k)]) x+1)=_
  rw [if_neg h1,ixS_new i k h2]
  rfl
def mvOf (rows:List (List I3)) (S:List (Rec6 V4)) (m:V4) (k:Int):I4:=((goM rows m k).2,k,m.1.getD k.toNat 0,(ixS S (goM rows m k).1:Int))
def mvsOf (rows:List (List I3)) (S:List (Rec6 V4)) (m:V4):List I4:=(enabM rows m 3).map (mvOf rows S m)
structure NumD (D:DataW Unit) (S:List (Rec6 V4)):Prop where
 has:∀ t:ByteArray,Maps.has D (.string t.data.toList)=true↔t ∈ keysL S
 at9:∀ x,x ∈ S.map (·.1)→∀ z,D.atKey (.string (keyT x).data.toList) z=.lit (.int .i64 (ixS S x))
theorem NumD.start:NumD (.map []) []:=⟨fun t=>by simp [keysL,Maps.has],fun x hx=>by simp at hx⟩
theorem lit_ne {s t:ByteArray} (h:s≠t):(Lit.string s.data.toList)≠Lit.string t.data.toList:=fun e=>by
 injection e with e
 exact h (ByteArray.ext (Array.ext' e))
theorem NumD.put {D:DataW Unit} {S:List (Rec6 V4)} (h:NumD D S) (hm:Maps.IsMap D) (hS:Shaped S) {x:V4} (hx:shapeOk x=true) (hn:x ∉ S.map (·.1)) (i:Nat) (k:Int) :
  NumD (D.put (.string (keyT x).data.toList) (.lit (.int .i64 S.length))) (S++[(x,i,k)]):=by
 have hkl:WideAt.IsKeyLit (.string (keyT x).data.toList):=trivial
 refine ⟨fun t=>?_,fun y hy z=>?_⟩
 ·rw [keysL_app]
  by_cases e:t=keyT x
  ·subst e
   rw [Maps.has_put_same hm hkl]
   simp
  ·rw [Maps.has_put_other (lit_ne e),h.has]
   simp [e]
 ·by_cases e:y=x
  ·subst e
   rw [Maps.atKey_put_same hm hkl,ixS_new i k hn]
  ·have hy2:y ∈ S.map (·.1):=by
    rcases List.mem_append.1 (by simpa using hy:y ∈ S.map (·.1)++[x]) with h3 | h3
    ·exact h3
    ·exact absurd (by simpa using h3) e
   obtain ⟨r,hr,rfl⟩:=List.mem_map.1 hy2
   have hk:keyT r.1≠keyT x:=fun e2=>e (key_inj6 (hS r hr) hx e2)
   rw [Maps.atKey_put_other (lit_ne hk),h.at9 _ hy2,ixS_app _ hy2]

/-! The records of states: 22 cells each. -/
def rcC (cs:Sl × Sl × Sl) (r:Rec6 V4) (mv:Value):List Value:=.string (keyT r.1)::(machCells cs.1.val cs.2.1.val cs.2.2.val r.1++[.int .i64 r.2.1,.int .i64 r.2.2,mv])
theorem rcC_len (cs:Sl × Sl × Sl) (r:Rec6 V4) (mv:Value):(rcC cs r mv).length=22:=rfl
def rcF (cs:Sl × Sl × Sl) (L:List (Rec6 V4 × Value)):List Value:=L.flatMap fun x=>rcC cs x.1 x.2
theorem rcF_app (cs:Sl × Sl × Sl) (L:List (Rec6 V4 × Value)) (x:Rec6 V4 × Value):rcF cs (L++[x])=rcF cs L++rcC cs x.1 x.2:=by simp [rcF]
theorem rcF_at (cs:Sl × Sl × Sl):∀ (L:List (Rec6 V4 × Value)) (i j:Nat) (x:Rec6 V4 × Value),L[i]?=some x→j<22→(rcF cs L)[i*22+j]?=(rcC cs x.1 x.2)[j]?
 | [],_,_,_,h,_=>by simp at h
 | y::L,0,j,x,h,hj=>by
  simp at h
  subst h
  show (rcC cs y.1 y.2++rcF cs L)[0*22+j]?=_
  rw [List.getElem?_append_left (by rw [rcC_len];omega)]
  congr 1
  omega
 | y::L,i+1,j,x,h,hj=>by
  have ih:=rcF_at cs L i j x (by simpa using h) hj
  show (rcC cs y.1 y.2++rcF cs L)[(i+1)*22+j]?=_
  rw [List.getElem?_append_right (by rw [rcC_len];omega),rcC_len,← ih]
  congr 1
  omega
theorem rcC_set (cs:Sl × Sl × Sl) (r:Rec6 V4) (mv mv':Value):(rcC cs r mv).set 21 mv'=rcC cs r mv':=rfl
theorem rcF_set (cs:Sl × Sl × Sl):∀ (L:List (Rec6 V4 × Value)) (i:Nat) (r:Rec6 V4) (mv mv':Value),L[i]?=some (r,mv)→(rcF cs L).set (i*22+21) mv'=rcF cs (L.set i (r,mv'))
 | [],_,_,_,_,h=>by simp at h
 | y::L,0,r,mv,mv',h=>by
  simp at h
  subst h
  show (rcC cs r mv++rcF cs L).set (0*22+21) mv'=rcC cs r mv'++rcF cs L
  rw [List.set_append_left _ _ (by rw [rcC_len];omega)]
  rw [show 0*22+21=21 by omega,rcC_set]
 | y::L,i+1,r,mv,mv',h=>by
  have ih:=rcF_set cs L i r mv mv' (by simpa using h)
  show (rcC cs y.1 y.2++rcF cs L).set ((i+1)*22+21) mv'=rcC cs y.1 y.2++rcF cs (L.set i (r,mv'))
  rw [List.set_append_right _ _ (by rw [rcC_len];omega),rcC_len,← ih]
  congr 2
  omega


theorem law_str6:Maps.Keyed Tryz.prog 9:=Maps.string_keyed Tryz.underlying9
theorem zero_int6 (w:World):(zeroValue 3).run Tryz.prog w=.ok (.int .i64 0) w:=by kernel_rfl
structure SpcD (w:World) (B nb:Nat) (vs:Value) (cs:Sl × Sl × Sl) (M:V4→List I4) (L:List (Rec6 V4 × Value)) (d:Nat):Prop where
 row:w.ownsRow B 111 22 vs L.length (rcF cs L)
 map:∃ D:DataW Unit,w.ownsMap Tryz.prog 9 (plainElem Tryz.prog 3) nb L.length D∧NumD D (L.map (·.1))
 mvs:∀ i r mv,i<d→L[i]?=some (r,mv)→w.ownsRow B 192 4 mv (M r.1).length (flat4 (M r.1))
 nil:∀ i r mv,d≤i→L[i]?=some (r,mv)→mv=.slice none 0 0
 low:B≤nb
structure KeptS (w w':World) (X nb:Nat) (vs:Value):Prop where
 os:w'.os=w.os
 tape:w'.tape=w.tape
 output:w'.output=w.output
 size:w.heap.size≤w'.heap.size
 block:∀ k,k<w.heap.size→k≠X→k≠nb→vs.ownBlock≠some k→w'.heap[k]?=w.heap[k]?
def MovedS (w:World) (vs vs':Value):Prop:=vs'.ownBlock=vs.ownBlock∨∃ g,w.heap.size≤g∧vs'.ownBlock=some g
theorem MovedS.refl (w:World) (vs:Value):MovedS w vs vs:=.inl rfl
theorem MovedS.trans {w w':World} {a b c:Value} (h:MovedS w a b) (hs:w.heap.size≤w'.heap.size) (k:MovedS w' b c):MovedS w a c:=by
 rcases k with k | ⟨g,hg,k⟩
 ·unfold MovedS
  rw [k]
  exact h
 ·exact .inr ⟨g,Nat.le_trans hs hg,k⟩
theorem KeptS.refl (w:World) (X nb:Nat) (vs:Value):KeptS w w X nb vs:=⟨rfl,rfl,rfl,Nat.le_refl _,fun _ _ _ _ _=>rfl⟩
theorem KeptS.trans {a b c:World} {X nb:Nat} {v v':Value} (h:KeptS a b X nb v) (hm:MovedS a v v') (k:KeptS b c X nb v'):KeptS a c X nb v:=
 ⟨k.os.trans h.os,k.tape.trans h.tape,k.output.trans h.output,Nat.le_trans h.size k.size,fun j hj h1 h2 h3=>(k.block j (Nat.lt_of_lt_of_le hj h.size) h1 h2 (fun e=>by
  rcases hm with hm | ⟨g,hg,hm⟩
  ·exact h3 (hm▸e)
  ·rw [hm] at e;cases e;omega)).trans (h.block j hj h1 h2 h3)⟩
theorem KeptS.belowR {a b c:World} {X nb:Nat} {v:Value} (h:KeptS a b X nb v) (k:Below b.heap.size b c):KeptS a c X nb v:=
 ⟨k.os.trans h.os,k.tape.trans h.tape,k.output.trans h.output,Nat.le_trans h.size k.size,fun j hj h1 h2 h3=>(k.block j (Nat.lt_of_lt_of_le hj h.size)).trans (h.block j hj h1 h2 h3)⟩
theorem KeptS.of_below {a b:World} (X nb:Nat) (v:Value) (k:Below a.heap.size a b):KeptS a b X nb v:=(KeptS.refl a X nb v).belowR k
theorem KeptS.below {a b:World} {X nb B:Nat} {v:Value} (h:KeptS a b X nb v) (hX:B≤X) (hn:B≤nb) (hv:∀ k,v.ownBlock=some k→B≤k) (hB:B≤a.heap.size):Below B a b:=
 ⟨h.os,h.tape,h.output,h.size,fun k hk=>h.block k (by omega) (by omega) (by omega) (fun e=>by have:=hv k e;omega)⟩
theorem map_blk {w:World} {nb n g t:Nat} {D:DataW Unit} {cs:List Value} (h:w.ownsMap Tryz.prog 9 (plainElem Tryz.prog 3) nb n D) (hB:Blk w g t cs):g≠nb:=by
 rintro rfl
 obtain ⟨es,clock,hb,_⟩:=h
 unfold Blk at hB
 rw [hb] at hB
 simp at hB
theorem map_own {w:World} {nb n B e s k:Nat} {v:Value} {xs:List Value} {D:DataW Unit} (h:w.ownsMap Tryz.prog 9 (plainElem Tryz.prog 3) nb n D) (ho:w.ownsRow B e s v k xs):v.ownBlock≠some nb:=by
 intro e2
 obtain ⟨es,clock,hb,_⟩:=h
 rcases ho.2 with ⟨rfl,_⟩ | ⟨g,cap,cur,rfl,_,hg,_⟩
 ·simp [Value.ownBlock] at e2
 ·simp [Value.ownBlock] at e2
  subst e2
  rw [hb] at hg
  simp at hg
section
variable {w w' : World} {B X nb d : Nat} {vs : Value} {cs : Sl × Sl × Sl} {M : V4 → List I4} {L : List (Rec6 V4 × Value)}
theorem SpcD.below (h:SpcD w B nb vs cs M L d) (hb:Below w.heap.size w w'):SpcD w' B nb vs cs M L d:=by
 obtain ⟨D,hm,hn⟩:=h.map
 exact ⟨owns_below h.row hb,⟨D,hm.kept (row:=none) ⟨hb.os,hb.tape,hb.output,hb.size,fun k hk _=>hb.block k hk⟩ (by simp),hn⟩,fun i r mv hi hr=>owns_below (h.mvs i r mv hi hr) hb,h.nil,h.low⟩
theorem SpcD.grown {g t:Nat} {cs':List Value} (h:SpcD w B nb vs cs M L d) (hg:w.grownBy w' (some g)) (hB:Blk w g t cs') (h1:111≠t) (h2:192≠t):SpcD w' B nb vs cs M L d:=by
 obtain ⟨D,hm,hn⟩:=h.map
 refine ⟨h.row.kept hg (.inr (own_ne_blk9 h.row hB h1)),⟨D,hm.kept hg (fun e=>map_blk hm hB (by cases e;rfl)),hn⟩,fun i r mv hi hr=>?_,h.nil,h.low⟩
 have:=h.mvs i r mv hi hr
 exact this.kept hg (.inr (own_ne_blk9 this hB h2))
theorem KeptS.row (k:KeptS w w' X nb vs) (h:SpcD w B nb vs cs M L d) {t:Nat} {cs':List Value} (hX:Blk w X t cs') {B' e s n:Nat} {v:Value} {xs:List Value} (ho:w.ownsRow B' e s v n xs) (h1:e≠111) (h2:e≠t):w'.ownsRow B' e s v n xs:=by
 obtain ⟨D,hm,_⟩:=h.map
 have hlt:=fun g hg=>(own_lt3 ho (g:=g) hg).2
 have hnX:=own_ne_blk9 ho hX h2
 have hnm:=map_own hm ho
 have hap:=Ap3.types ho h.row h1
 refine ⟨ho.1,?_⟩
 rcases ho.2 with hn | ⟨g,cap,cur,rfl,hb,hgg,rest⟩
 ·exact .inl hn
 ·refine .inr ⟨g,cap,cur,rfl,hb,(k.block g (hlt g rfl) (fun e=>hnX (by rw [← e];rfl)) (fun e=>hnm (by rw [← e];rfl)) (hap g rfl)).trans hgg,rest⟩
theorem KeptS.blk (k:KeptS w w' X nb vs) (h:SpcD w B nb vs cs M L d) {t:Nat} {cs':List Value} (hX:Blk w X t cs') {g e:Nat} {xs:List Value} (p:Blk w g e xs) (h1:111≠e) (h2:t≠e):Blk w' g e xs:=by
 obtain ⟨D,hm,_⟩:=h.map
 exact (k.block g p.lt (fun e2=>blk_ne hX p h2 e2.symm) (map_blk hm p) (own_ne_blk9 h.row p h1)).trans p
theorem KeptS.ownI (k:KeptS w w' X nb vs) (h:SpcD w B nb vs cs M L d) {cs':List Value} (hX:Blk w X 106 cs') {B':Nat} {s:Sl} {zs:List Int} (ho:OwnI w B' s zs):OwnI w' B' s zs:=k.row h hX ho (by decide) (by decide)
theorem SpcD.at9 (h:SpcD w B nb vs cs M L d) {i:Nat} {r:Rec6 V4} {mv:Value} (hr:L[i]?=some (r,mv)):∃ g c,vs=.slice (some ⟨g,0,none⟩) L.length c∧g<w.heap.size∧w.rangeAt g (i*22) (rcC cs r mv):=by
 have hl:=(List.getElem?_eq_some_iff.1 hr).1
 rcases h.row.2 with ⟨_,h0⟩ | ⟨g,c,cur,hv,_⟩
 ·omega
 ·refine ⟨g,c,hv,(own_lt3 h.row (by rw [hv];rfl)).2,fun j v hj=>?_⟩
  have hj2:j<22:=(List.getElem?_eq_some_iff.1 hj).1
  have h9:=h.row
  rw [hv] at h9
  rw [h9.cellAt (i*22+j) (by omega),rcF_at cs L i j _ hr hj2]
  exact hj
end
end Go.Proofs.YtifoggpohlegmaaGreatDoor
