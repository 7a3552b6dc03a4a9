/-
  Joined: KeyB, SrcP, SpcP, SpcH, KeyI, MkdI.
-/
import Derived.Maps.OwnSet
import Derived.Test.YtmhlokahmblboaaGreatDoorK24
import Derived.Test.YtmhlokahmblboaaGreatDoorK30
import Derived.Test.YtmhlokahmblboaaGreatDoorK31

namespace Go.Proofs.YtmhlokahmblboaaGreatDoor
set_option maxRecDepth 100000
set_option maxHeartbeats 16000000
open Go.RowKit
set_option linter.unusedVariables false
set_option linter.unusedSimpArgs false

theorem JN (xs:List Int) (h:∀ x ∈ xs,0≤x∧x≤255) (i:Nat) (hi:i<xs.length):btV (strOfNums xs) i=xs.getD i 0:=by
 have hx:=h xs[i] (List.getElem_mem hi)
 unfold btV
 simp [strOfNums,List.getD,List.getElem?_eq_getElem hi]
 omega
theorem RJ {m:V4} (h:Zk m=true):(Ye m).size=15:=by
 obtain ⟨l0,l1,l2,l3,_⟩:=ZT h
 unfold Ye
 rw [strOfNums_size,List.length_map]
 unfold XO
 simp [l0,l1,l2,l3]
theorem Us {m:V4} (h:Zk m=true):XR (Ye m)=m:=by
 obtain ⟨l0,l1,l2,l3,hd⟩:=ZT h
 have hb:∀ i,i<15→btV (Ye m) i - 48=(XO m).getD i 0:=fun i hi=>by
  have hl:(XO m).length=15:=by unfold XO;simp [l0,l1,l2,l3]
  unfold Ye
  rw [JN _ (fun x hx=>by obtain ⟨z,hz,rfl⟩:=List.mem_map.1 hx;have:=hd z hz;omega) i (by rw [List.length_map];omega)]
  have e:((XO m).map fun z=>48+z).getD i 0=48+(XO m).getD i 0:=by
   have hi':i<(XO m).length:=by omega
   simp [List.getD,List.getElem?_eq_getElem hi']
  rw [e]
  omega
 have b0:=hb 0 (by omega)
 have b1:=hb 1 (by omega)
 have b2:=hb 2 (by omega)
 have b3:=hb 3 (by omega)
 have b4:=hb 4 (by omega)
 have b5:=hb 5 (by omega)
 have b6:=hb 6 (by omega)
 have b7:=hb 7 (by omega)
 have b8:=hb 8 (by omega)
 have b9:=hb 9 (by omega)
 have b10:=hb 10 (by omega)
 have b11:=hb 11 (by omega)
 have b12:=hb 12 (by omega)
 have b13:=hb 13 (by omega)
 have b14:=hb 14 (by omega)
 clear hb hd l0 l1 l2 l3
 obtain ⟨p0,p1,p2,v0,v1,v2,v3,h0,h1,x0,y0,x1,y1,x2,y2,rfl⟩:=Uf h
 unfold XR YR We
 simp [List.range_succ,b0,b1,b2,b3,b4,b5,b6,b7,b8,b9,b10,b11,b12,b13,b14]
 simp [XO]
theorem RK {m q:V4} (h:Zk m=true) (h':Zk q=true) (e:Ye m=Ye q):m=q:=by rw [← Us h,e,Us h']


theorem S6 {S:List (Zp V4)} {x:V4} (hS:YJ S) (hx:Zk x=true):SQ S x=true↔Ye x ∈ Zy S:=by
 rw [Vn]
 unfold Zy
 constructor
 ·intro h
  obtain ⟨r,hr,rfl⟩:=List.mem_map.1 h
  exact List.mem_map.2 ⟨r,hr,rfl⟩
 intro h
 obtain ⟨r,hr,e⟩:=List.mem_map.1 h
 exact List.mem_map.2 ⟨r,hr,RK (hS r hr) hx e⟩
theorem Hq {rows:List (List I3)} {m:V4} {j:Nat} {k:Int} (h:(Zj rows m 3)[j]?=some k):(nxM rows m).drop j=(k,(goM rows m k).1)::(nxM rows m).drop (j+1):=by
 obtain ⟨hj,e⟩:=List.getElem?_eq_some_iff.1 h
 have hj':j<(nxM rows m).length:=by unfold nxM;simpa using hj
 have e2:(nxM rows m)[j]'hj'=(k,(goM rows m k).1):=by simp only [nxM,List.getElem_map,e]
 rw [List.drop_eq_getElem_cons hj',e2]
structure Pl (rows:List (List I3)) (i:Nat) (S:List (Zp V4)):Prop where
 at9:i≤S.length
 pos:S≠[]
 len:S.length≤2000
 shp:YJ S
 run:WQ (nxM rows) (2000 - i) i S=Yd rows
structure In6 (rows:List (List I3)) (i j:Nat) (m:V4) (S:List (Zp V4)):Prop where
 at9:i<S.length
 len:S.length≤2000
 shp:YJ S
 run:WQ (nxM rows) (1999 - i) (i+1) (onS i S ((nxM rows m).drop j))=Yd rows
theorem Pl.start (rows:List (List I3)):Pl rows 0 [(Zl,0,0)]:=⟨by simp,by simp,by simp,fun r hr=>by simp at hr;subst hr;exact ZH,rfl⟩
theorem Pl.go {rows:List (List I3)} {i:Nat} {S:List (Zp V4)} (h:Pl rows i S) (hi:i<S.length):In6 rows i 0 (S[i]'hi).1 S:=by
 refine ⟨hi,h.len,h.shp,?_⟩
 have e:=h.run
 have hl:=h.len
 rw [show 2000 - i=(1999 - i)+1 by omega,Re hi] at e
 exact e
theorem Pl.fin {rows:List (List I3)} {i:Nat} {S:List (Zp V4)} (h:Pl rows i S) (hi:S.length≤i):Yd rows=S:=by rw [← h.run,Qa hi]
theorem In6.fin {rows:List (List I3)} {i j:Nat} {m:V4} {S:List (Zp V4)} (h:In6 rows i j m S) (hj:(Zj rows m 3).length≤j):Pl rows (i+1) S:=by
 refine ⟨h.at9,fun e=>by have:=h.at9;rw [e] at this;simp at this,h.len,h.shp,?_⟩
 have e:=h.run
 rw [List.drop_eq_nil_of_le (by unfold nxM;simpa using hj)] at e
 rw [show 2000 - (i+1)=1999 - i by omega]
 exact e
theorem In6.old {rows:List (List I3)} {i j:Nat} {m:V4} {S:List (Zp V4)} (h:In6 rows i j m S) {k:Int} (hk:(Zj rows m 3)[j]?=some k) (hx:Zk (goM rows m k).1=true) (hh:Ye (goM rows m k).1 ∈ Zy S):In6 rows i (j+1) m S:=by
 refine ⟨h.at9,h.len,h.shp,?_⟩
 have e:=h.run
 rw [Hq hk,Tz] at e
 unfold XW at e
 rw [if_pos ((S6 h.shp hx).2 hh)] at e
 exact e
theorem In6.new {rows:List (List I3)} {i j:Nat} {m:V4} {S:List (Zp V4)} (h:In6 rows i j m S) {k:Int} (hk:(Zj rows m 3)[j]?=some k) (hx:Zk (goM rows m k).1=true) (hh:Ye (goM rows m k).1 ∉ Zy S) (hl:S.length≠2000):In6 rows i (j+1) m (S++[((goM rows m k).1,i,k)]):=by
 have h1:=h.len
 refine ⟨by have:=h.at9;simp;omega,by simp;omega,?_,?_⟩
 ·intro r hr
  rcases List.mem_append.1 hr with hr | hr
  ·exact h.shp r hr
  simp at hr;subst hr;exact hx
 have e:=h.run
 rw [Hq hk,Tz] at e
 unfold XW at e
 rw [if_neg (fun h2=>hh ((S6 h.shp hx).1 h2))] at e
 exact e
theorem In6.full {rows:List (List I3)} {i j:Nat} {m:V4} {S:List (Zp V4)} (h:In6 rows i j m S) {k:Int} (hk:(Zj rows m 3)[j]?=some k) (hx:Zk (goM rows m k).1=true) (hh:Ye (goM rows m k).1 ∉ Zy S) (hl:S.length=2000):2000<(Yd rows).length:=by
 have e:=h.run
 rw [Hq hk,Tz] at e
 unfold XW at e
 rw [if_neg (fun h2=>hh ((S6 h.shp hx).1 h2))] at e
 rw [← e]
 show 2000<(WQ (nxM rows) (1999 - i) (i+1) (onS i (S++[((goM rows m k).1,i,k)]) ((nxM rows m).drop (j+1)))).length
 have h1:=(WZ i ((nxM rows m).drop (j+1)) (S++[((goM rows m k).1,i,k)])).length_le
 have h2:=(TR (nxM rows) (1999 - i) (i+1) (onS i (S++[((goM rows m k).1,i,k)]) ((nxM rows m).drop (j+1)))).length_le
 simp at h1
 omega


def ixS:List (Zp V4)→V4→Nat
 | [],_=>0
 | r::S,x=>if r.1=x then 0 else ixS S x+1
theorem PE:∀ {S:List (Zp V4)} {x:V4} (T:List (Zp V4)),x ∈ S.map (·.1)→ixS (S++T) x=ixS S x
 | [],_,_,h=>by simp at h
 | r::S,x,T,h=>by
  show (if r.1=x then 0 else ixS (S++T) x+1)=if r.1=x then 0 else ixS S x+1
  split
  ·rfl
  rename_i hne
  have h2:x ∈ S.map (·.1):=by
   rcases List.mem_cons.1 (by simpa using h:x ∈ r.1::S.map (·.1)) with h3 | h3
   ·exact absurd h3.symm hne
   exact h3
  rw [PE T h2]
theorem GY {S T:List (Zp V4)} {x:V4} (h:S <+: T) (hx:x ∈ S.map (·.1)):ixS T x=ixS S x:=by
 obtain ⟨U,rfl⟩:=h
 exact PE U hx
theorem S7:∀ {S:List (Zp V4)} {x:V4} (i:Nat) (k:Int),x ∉ S.map (·.1)→ixS (S++[(x,i,k)]) x=S.length
 | [],x,i,k,_=>by simp [ixS]
 | r::S,x,i,k,h=>by
  have h1:r.1≠x:=fun e=>h (by simp [e])
  have h2:x ∉ S.map (·.1):=fun e=>h (by simpa using Or.inr e)
  show (if r.1=x then 0 else ixS (S++[(x,i,k)]) x+1)=_
  rw [if_neg h1,S7 i k h2]
  rfl
theorem Lm:∀ {S:List (Zp V4)} {x:V4},x ∈ S.map (·.1)→∃ r,S[ixS S x]?=some r∧r.1=x
 | [],_,h=>by simp at h
 | r::S,x,h=>by
  by_cases h1:r.1=x
  ·exact ⟨r,by simp [ixS,h1],h1⟩
  have h2:x ∈ S.map (·.1):=by
   rcases List.mem_cons.1 (by simpa using h:x ∈ r.1::S.map (·.1)) with h3 | h3
   ·exact absurd h3.symm h1
   exact h3
  obtain ⟨q,hq,he⟩:=Lm h2
  exact ⟨q,by simp [ixS,h1,hq],he⟩
def FN (rows:List (List I3)) (S:List (Zp V4)) (m:V4) (k:Int):I4:=((goM rows m k).2,k,m.1.getD k.toNat 0,(ixS S (goM rows m k).1:Int))
def Yo (rows:List (List I3)) (S:List (Zp V4)) (m:V4):List I4:=(Zj rows m 3).map (FN rows S m)
structure UK (D:DataW Unit) (S:List (Zp V4)):Prop where
 has:∀ t:ByteArray,Maps.has D (.string t.data.toList)=true↔t ∈ Zy S
 at9:∀ x,x ∈ S.map (·.1)→∀ z,D.atKey (.string (Ye x).data.toList) z=.lit (.int .i64 (ixS S x))
theorem UK.start:UK (.map []) []:=⟨fun t=>by simp [Zy,Maps.has],fun x hx=>by simp at hx⟩
theorem PL {s t:ByteArray} (h:s≠t):(Lit.string s.data.toList)≠Lit.string t.data.toList:=fun e=>by
 injection e with e
 exact h (ByteArray.ext (Array.ext' e))
theorem UK.put {D:DataW Unit} {S:List (Zp V4)} (h:UK D S) (hm:Maps.IsMap D) (hS:YJ S) {x:V4} (hx:Zk x=true) (hn:x ∉ S.map (·.1)) (i:Nat) (k:Int) :
  UK (D.put (.string (Ye x).data.toList) (.lit (.int .i64 S.length))) (S++[(x,i,k)]):=by
 have hkl:WideAt.IsKeyLit (.string (Ye x).data.toList):=trivial
 refine ⟨fun t=>?_,fun y hy z=>?_⟩
 ·rw [Sa]
  by_cases e:t=Ye x
  ·subst e
   rw [Maps.has_put_same hm hkl]
   simp
  rw [Maps.has_put_other (PL e),h.has]
  simp [e]
 by_cases e:y=x
 ·subst e
  rw [Maps.atKey_put_same hm hkl,S7 i k hn]
 have hy2:y ∈ S.map (·.1):=by
  rcases List.mem_append.1 (by simpa using hy:y ∈ S.map (·.1)++[x]) with h3 | h3
  ·exact h3
  exact absurd (by simpa using h3) e
 obtain ⟨r,hr,rfl⟩:=List.mem_map.1 hy2
 have hk:Ye r.1≠Ye x:=fun e2=>e (RK (hS r hr) hx e2)
 rw [Maps.atKey_put_other (PL hk),h.at9 _ hy2,PE _ hy2]

/-! The records of states: 22 cells each. -/
def rcC (cs:Sl × Sl × Sl) (r:Zp V4) (mv:Value):List Value:=.string (Ye r.1)::(Zf cs.1.val cs.2.1.val cs.2.2.val r.1++[.int .i64 r.2.1,.int .i64 r.2.2,mv])
theorem Uw (cs:Sl × Sl × Sl) (r:Zp V4) (mv:Value):(rcC cs r mv).length=22:=rfl
def rcF (cs:Sl × Sl × Sl) (L:List (Zp V4 × Value)):List Value:=L.flatMap fun x=>rcC cs x.1 x.2
theorem Fh (cs:Sl × Sl × Sl) (L:List (Zp V4 × Value)) (x:Zp V4 × Value):rcF cs (L++[x])=rcF cs L++rcC cs x.1 x.2:=by simp [rcF]
theorem H5 (cs:Sl × Sl × Sl):∀ (L:List (Zp V4 × Value)) (i j:Nat) (x:Zp V4 × Value),L[i]?=some x→j<22→(rcF cs L)[i*22+j]?=(rcC cs x.1 x.2)[j]?
 | [],_,_,_,h,_=>by simp at h
 | y::L,0,j,x,h,hj=>by
  simp at h
  subst h
  show (rcC cs y.1 y.2++rcF cs L)[0*22+j]?=_
  rw [List.getElem?_append_left (by rw [Uw];omega)]
  congr 1
  omega
 | y::L,i+1,j,x,h,hj=>by
  have ih:=H5 cs L i j x (by simpa using h) hj
  show (rcC cs y.1 y.2++rcF cs L)[(i+1)*22+j]?=_
  rw [List.getElem?_append_right (by rw [Uw];omega),Uw,← ih]
  congr 1
  omega
theorem Fg (cs:Sl × Sl × Sl) (r:Zp V4) (mv mv':Value):(rcC cs r mv).set 21 mv'=rcC cs r mv':=rfl
theorem LB (cs:Sl × Sl × Sl):∀ (L:List (Zp V4 × Value)) (i:Nat) (r:Zp V4) (mv mv':Value),L[i]?=some (r,mv)→(rcF cs L).set (i*22+21) mv'=rcF cs (L.set i (r,mv'))
 | [],_,_,_,_,h=>by simp at h
 | y::L,0,r,mv,mv',h=>by
  simp at h
  subst h
  show (rcC cs r mv++rcF cs L).set (0*22+21) mv'=rcC cs r mv'++rcF cs L
  rw [List.set_append_left _ _ (by rw [Uw];omega)]
  rw [show 0*22+21=21 by omega,Fg]
 | y::L,i+1,r,mv,mv',h=>by
  have ih:=LB cs L i r mv mv' (by simpa using h)
  show (rcC cs y.1 y.2++rcF cs L).set ((i+1)*22+21) mv'=rcC cs y.1 y.2++rcF cs (L.set i (r,mv'))
  rw [List.set_append_right _ _ (by rw [Uw];omega),Uw,← ih]
  congr 2
  omega


theorem Vp:Maps.Keyed Tryz.prog 9:=Maps.string_keyed Tryz.underlying9
theorem Sy (w:World):(zeroValue 3).run Tryz.prog w=.ok (.int .i64 0) w:=by kernel_rfl
structure Y6 (w:World) (B nb:Nat) (vs:Value) (cs:Sl × Sl × Sl) (M:V4→List I4) (L:List (Zp V4 × Value)) (d:Nat):Prop where
 row:w.ownsRow B 202 22 vs L.length (rcF cs L)
 map:∃ D:DataW Unit,w.ownsMap Tryz.prog 9 (plainElem Tryz.prog 3) nb L.length D∧UK D (L.map (·.1))
 mvs:∀ i r mv,i<d→L[i]?=some (r,mv)→w.ownsRow B 204 4 mv (M r.1).length (Yu (M r.1))
 nil:∀ i r mv,d≤i→L[i]?=some (r,mv)→mv=.slice none 0 0
 low:B≤nb
structure Ym (w w':World) (X nb:Nat) (vs:Value):Prop where
 os:w'.os=w.os
 tape:w'.tape=w.tape
 output:w'.output=w.output
 size:w.heap.size≤w'.heap.size
 block:∀ k,k<w.heap.size→k≠X→k≠nb→vs.ownBlock≠some k→w'.heap[k]?=w.heap[k]?
def ZU (w:World) (vs vs':Value):Prop:=vs'.ownBlock=vs.ownBlock∨∃ g,w.heap.size≤g∧vs'.ownBlock=some g
theorem ZU.refl (w:World) (vs:Value):ZU w vs vs:=.inl rfl
theorem ZU.trans {w w':World} {a b c:Value} (h:ZU w a b) (hs:w.heap.size≤w'.heap.size) (k:ZU w' b c):ZU w a c:=by
 rcases k with k | ⟨g,hg,k⟩
 ·unfold ZU
  rw [k]
  exact h
 exact .inr ⟨g,Nat.le_trans hs hg,k⟩
theorem Ym.refl (w:World) (X nb:Nat) (vs:Value):Ym w w X nb vs:=⟨rfl,rfl,rfl,Nat.le_refl _,fun _ _ _ _ _=>rfl⟩
theorem Ym.trans {a b c:World} {X nb:Nat} {v v':Value} (h:Ym a b X nb v) (hm:ZU a v v') (k:Ym b c X nb v'):Ym a c X nb v:=
 ⟨k.os.trans h.os,k.tape.trans h.tape,k.output.trans h.output,Nat.le_trans h.size k.size,fun j hj h1 h2 h3=>(k.block j (Nat.lt_of_lt_of_le hj h.size) h1 h2 (fun e=>by
  rcases hm with hm | ⟨g,hg,hm⟩
  ·exact h3 (hm▸e)
  rw [hm] at e;cases e;omega)).trans (h.block j hj h1 h2 h3)⟩
theorem Ym.belowR {a b c:World} {X nb:Nat} {v:Value} (h:Ym a b X nb v) (k:Below b.heap.size b c):Ym a c X nb v:=
 ⟨k.os.trans h.os,k.tape.trans h.tape,k.output.trans h.output,Nat.le_trans h.size k.size,fun j hj h1 h2 h3=>(k.block j (Nat.lt_of_lt_of_le hj h.size)).trans (h.block j hj h1 h2 h3)⟩
theorem Ym.of_below {a b:World} (X nb:Nat) (v:Value) (k:Below a.heap.size a b):Ym a b X nb v:=(Ym.refl a X nb v).belowR k
theorem Ym.below {a b:World} {X nb B:Nat} {v:Value} (h:Ym a b X nb v) (hX:B≤X) (hn:B≤nb) (hv:∀ k,v.ownBlock=some k→B≤k) (hB:B≤a.heap.size):Below B a b:=
 ⟨h.os,h.tape,h.output,h.size,fun k hk=>h.block k (by omega) (by omega) (by omega) (fun e=>by have:=hv k e;omega)⟩
theorem WX {w:World} {nb n g t:Nat} {D:DataW Unit} {cs:List Value} (h:w.ownsMap Tryz.prog 9 (plainElem Tryz.prog 3) nb n D) (hB:Blk w g t cs):g≠nb:=by
 rintro rfl
 obtain ⟨es,clock,hb,_⟩:=h
 unfold Blk at hB
 rw [hb] at hB
 simp at hB
theorem WY {w:World} {nb n B e s k:Nat} {v:Value} {xs:List Value} {D:DataW Unit} (h:w.ownsMap Tryz.prog 9 (plainElem Tryz.prog 3) nb n D) (ho:w.ownsRow B e s v k xs):v.ownBlock≠some nb:=by
 intro e2
 obtain ⟨es,clock,hb,_⟩:=h
 rcases ho.2 with ⟨rfl,_⟩ | ⟨g,cap,cur,rfl,_,hg,_⟩
 ·simp [Value.ownBlock] at e2
 simp [Value.ownBlock] at e2
 subst e2
 rw [hb] at hg
 simp at hg
section
variable {w w' : World} {B X nb d : Nat} {vs : Value} {cs : Sl × Sl × Sl} {M : V4 → List I4} {L : List (Zp V4 × Value)}
theorem Y6.below (h:Y6 w B nb vs cs M L d) (hb:Below w.heap.size w w'):Y6 w' B nb vs cs M L d:=by
 obtain ⟨D,hm,hn⟩:=h.map
 exact ⟨Ze h.row hb,⟨D,hm.kept (row:=none) ⟨hb.os,hb.tape,hb.output,hb.size,fun k hk _=>hb.block k hk⟩ (by simp),hn⟩,fun i r mv hi hr=>Ze (h.mvs i r mv hi hr) hb,h.nil,h.low⟩
theorem Y6.grown {g t:Nat} {cs':List Value} (h:Y6 w B nb vs cs M L d) (hg:w.grownBy w' (some g)) (hB:Blk w g t cs') (h1:202≠t) (h2:204≠t):Y6 w' B nb vs cs M L d:=by
 obtain ⟨D,hm,hn⟩:=h.map
 refine ⟨h.row.kept hg (.inr (Zg h.row hB h1)),⟨D,hm.kept hg (fun e=>WX hm hB (by cases e;rfl)),hn⟩,fun i r mv hi hr=>?_,h.nil,h.low⟩
 have:=h.mvs i r mv hi hr
 exact this.kept hg (.inr (Zg this hB h2))
theorem Ym.row (k:Ym w w' X nb vs) (h:Y6 w B nb vs cs M L d) {t:Nat} {cs':List Value} (hX:Blk w X t cs') {B' e s n:Nat} {v:Value} {xs:List Value} (ho:w.ownsRow B' e s v n xs) (h1:e≠202) (h2:e≠t):w'.ownsRow B' e s v n xs:=by
 obtain ⟨D,hm,_⟩:=h.map
 have hlt:=fun g hg=>(ZM ho (g:=g) hg).2
 have hnX:=Zg ho hX h2
 have hnm:=WY hm ho
 have hap:=Ap3.types ho h.row h1
 refine ⟨ho.1,?_⟩
 rcases ho.2 with hn | ⟨g,cap,cur,rfl,hb,hgg,rest⟩
 ·exact .inl hn
 refine .inr ⟨g,cap,cur,rfl,hb,(k.block g (hlt g rfl) (fun e=>hnX (by rw [← e];rfl)) (fun e=>hnm (by rw [← e];rfl)) (hap g rfl)).trans hgg,rest⟩
theorem Ym.blk (k:Ym w w' X nb vs) (h:Y6 w B nb vs cs M L d) {t:Nat} {cs':List Value} (hX:Blk w X t cs') {g e:Nat} {xs:List Value} (p:Blk w g e xs) (h1:202≠e) (h2:t≠e):Blk w' g e xs:=by
 obtain ⟨D,hm,_⟩:=h.map
 exact (k.block g p.lt (fun e2=>ZJ hX p h2 e2.symm) (WX hm p) (Zg h.row p h1)).trans p
theorem Ym.ownI (k:Ym w w' X nb vs) (h:Y6 w B nb vs cs M L d) {cs':List Value} (hX:Blk w X 125 cs') {B':Nat} {s:Sl} {zs:List Int} (ho:ZG w B' s zs):ZG w' B' s zs:=k.row h hX ho (by decide) (by decide)
theorem Y6.at9 (h:Y6 w B nb vs cs M L d) {i:Nat} {r:Zp V4} {mv:Value} (hr:L[i]?=some (r,mv)):∃ g c,vs=.slice (some ⟨g,0,none⟩) L.length c∧g<w.heap.size∧w.rangeAt g (i*22) (rcC cs r mv):=by
 have hl:=(List.getElem?_eq_some_iff.1 hr).1
 rcases h.row.2 with ⟨_,h0⟩ | ⟨g,c,cur,hv,_⟩
 ·omega
 refine ⟨g,c,hv,(ZM h.row (by rw [hv];rfl)).2,fun j v hj=>?_⟩
 have hj2:j<22:=(List.getElem?_eq_some_iff.1 hj).1
 have h9:=h.row
 rw [hv] at h9
 rw [h9.cellAt (i*22+j) (by omega),H5 cs L i j _ hr hj2]
 exact hj
end


theorem Ur {zs:List Int} {k:Nat} (h:k<zs.length):zs.getD k 0 ∈ zs:=by simp [List.getD,h]
theorem TX {zs:List Int} {k:Nat} (h:k<zs.length):(zs.map fun z=>48+z).take (k+1)=(zs.map fun z=>48+z).take k++[48+zs.getD k 0]:=by
 rw [List.take_succ_eq_append_getElem (by simpa using h)]
 simp [List.getD,h]
theorem Rd {zs pre xs suf:List Int} {o n:Nat} (h:zs=pre++(xs++suf)) (ho:pre.length=o) (hn:xs.length=n) {j:Nat} (hj:j<n):xs.getD j 0=zs.getD (o+j) 0:=by
 subst h ho hn
 simp [List.getD,List.getElem?_append_right,List.getElem?_append_left hj]

theorem Pz (s:S4) (m:V4) (w:World) (h:Yk w s m) (hok:Zk m=true) (hV:Ys w) :
  Calls Tryz.prog 162 #[s.val] w fun e w'=>e=.returned (.tuple #[.string (Ye m),.int .i64 0])∧Below w.heap.size w w':=by
 have kS:=fun w h=>N3 s m w h
 have kL:=fun w=>NI s w
 rw [hok] at kS
 have hM:=fun (W:World) (hb:Below w.heap.size w W)=>h.below hb
 obtain ⟨i8,hi8,hy0,hy1,hy2⟩:=info_parts PD
 obtain ⟨l0,l1,l2,l3,hdig⟩:=ZT hok
 have HD:Hid (∀ z ∈ XO m,0≤z∧z≤9):=hdig
 obtain ⟨fin,hfin⟩:∃ fin,fin=Ye m:=⟨_,rfl⟩
 rw [← hfin]
 have HF:Hid (fin=strOfNums ((XO m).map fun z=>48+z)):=hfin
 clear hdig hfin hok
 obtain ⟨⟨j0,_⟩,⟨j1,_⟩,⟨j2,_⟩,⟨j3,_⟩⟩:=h
 obtain ⟨⟨a0,n0,c0⟩,⟨a1,n1,c1⟩,⟨a2,n2,c2⟩,⟨a3,n3,c3⟩⟩:=s
 obtain ⟨zs,hzs⟩:∃ zs,zs=XO m:=⟨_,rfl⟩
 rw [← hzs] at HD HF
 have hall:zs=((m.1++m.2.1)++m.2.2.1)++m.2.2.2:=hzs
 clear hzs
 have uA:S4.val ((a0,n0,c0),(a1,n1,c1),(a2,n2,c2),(a3,n3,c3))=.agg #[.slice a0 n0 c0,.slice a1 n1 c1,.slice a2 n2 c2,.slice a3 n3 c3]:=rfl
 rw [uA] at kS kL ⊢
 clear uA
 obtain ⟨m0,m1,m2,m3⟩:=m
 simp only at j0 j1 j2 j3 l0 l1 l2 l3 hall
 have HP0:Hid (∀ j,j<3→m0.getD j 0=zs.getD (0+j) 0):=fun j hj=>Rd (pre:=[]) (suf:=m1++m2++m3) (by rw [hall];simp [List.append_assoc]) rfl l0 hj
 have HP1:Hid (∀ j,j<4→m1.getD j 0=zs.getD (3+j) 0):=fun j hj=>Rd (pre:=m0) (suf:=m2++m3) (by rw [hall];simp [List.append_assoc]) l0 l1 hj
 have HP2:Hid (∀ j,j<2→m2.getD j 0=zs.getD (7+j) 0):=fun j hj=>Rd (pre:=m0++m1) (suf:=m3) (by rw [hall];simp [List.append_assoc]) (by simp;omega) l2 hj
 have HP3:Hid (∀ j,j<6→m3.getD j 0=zs.getD (9+j) 0):=fun j hj=>Rd (pre:=m0++m1++m2) (suf:=[]) (by rw [hall];simp [List.append_assoc]) (by simp;omega) l3 hj
 have HL:Hid (zs.length=15):=by rw [hall];simp [Hid];omega
 obtain ⟨rfl,b0,o0,rfl⟩:=Zw j0 l0 (by omega)
 obtain ⟨rfl,b1,o1,rfl⟩:=Zw j1 l1 (by omega)
 obtain ⟨rfl,b2,o2,rfl⟩:=Zw j2 l2 (by omega)
 obtain ⟨rfl,b3,o3,rfl⟩:=Zw j3 l3 (by omega)
 clear l0 l1 l2 l3 hall
 have y0:=J4 (.slice (some ⟨b0,o0,none⟩) 3 c0) (.slice (some ⟨b1,o1,none⟩) 4 c1) (.slice (some ⟨b2,o2,none⟩) 2 c2) (.slice (some ⟨b3,o3,none⟩) 6 c3)
 have y1:=J5 (.slice (some ⟨b0,o0,none⟩) 3 c0) (.slice (some ⟨b1,o1,none⟩) 4 c1) (.slice (some ⟨b2,o2,none⟩) 2 c2) (.slice (some ⟨b3,o3,none⟩) 6 c3)
 have y2:=J6 (.slice (some ⟨b0,o0,none⟩) 3 c0) (.slice (some ⟨b1,o1,none⟩) 4 c1) (.slice (some ⟨b2,o2,none⟩) 2 c2) (.slice (some ⟨b3,o3,none⟩) 6 c3)
 have y3:=J7 (.slice (some ⟨b0,o0,none⟩) 3 c0) (.slice (some ⟨b1,o1,none⟩) 4 c1) (.slice (some ⟨b2,o2,none⟩) 2 c2) (.slice (some ⟨b3,o3,none⟩) 6 c3)
 have bw:Below w.heap.size w (w.alloc (.cells #[.slice (some ⟨b0,o0,none⟩) 3 c0,.slice (some ⟨b1,o1,none⟩) 4 c1,.slice (some ⟨b2,o2,none⟩) 2 c2,.slice (some ⟨b3,o3,none⟩) 6 c3] 74)):=by go_grown
 have pA:=Blk.new w 74 [.slice (some ⟨b0,o0,none⟩) 3 c0,.slice (some ⟨b1,o1,none⟩) 4 c1,.slice (some ⟨b2,o2,none⟩) 2 c2,.slice (some ⟨b3,o3,none⟩) 6 c3]
 go_enter Tryz.func162,Tryz.ntmps162
 go_wp2_with fail
 refine (kS _ (hM _ bw) (hV.below bw)).mono ?_
 rintro e w1 ⟨rfl,hb⟩
 replace bw:=Zb bw hb
 replace pA:=pA.below hb
 have g0:=pA.cell 0
 have g1:=pA.cell 1
 have g2:=pA.cell 2
 have g3:=pA.cell 3
 simp at g0 g1 g2 g3
 clear hb kS hM
 go_wp2_with fail
 refine (kL _).mono ?_
 rintro e w2 ⟨rfl,hb⟩
 replace bw:=Zb bw hb
 clear hb kL g0 g1 g2 g3 pA hV
 have hown:w2.ownsRow w.heap.size 5 1 (.slice none 0 0) 0 (u8s ((zs.map fun z=>48+z).take 0)):=World.ownsRow_nil _ _ _ _
 go_wp2_with fail
 refine wp_loop_rounds 5 ?_
 rw [rounds_succ]
 go_wp2_with fail
 go_loopw [4,19] (fun so si wr=>∃ j:Nat,j≤3∧si=.int .i64 j∧wr.ownsRow w.heap.size 5 1 so (0+j) (u8s ((zs.map fun z=>48+z).take (0+j)))∧Below w.heap.size w wr) (fun _ si _=>3 - (intOf si).toNat)
 case atStart=>exact ⟨0,by omega,rfl,hown,bw⟩
 case round =>
  clear hown bw
  obtain ⟨j,hj,rfl,hr,hbw⟩:=hrel
  by_cases hlt:j<3
  ·have hjl:0+j<zs.length:=by rw [HL.out];omega
   have hc:wr.cell? ⟨b0,o0+j,none⟩=some (.int .i64 (zs.getD (0+j) 0)):=by
    rw [← HP0.out j hlt]
    rcases (j0.below hbw).2.2.2 with h9 | ⟨b9,off9,ha9,_,hc9⟩
    ·exact absurd h9 (by decide)
    cases ha9
    exact hc9 j hlt
   have hx:=HD.out (zs.getD (0+j) 0) (Ur hjl)
   have HX:Hid ((zs.map fun z=>48+z).take (0+(j+1))=(zs.map fun z=>48+z).take (0+j)++[48+zs.getD (0+j) 0]):=by
    exact TX hjl
   obtain ⟨d,hd⟩:∃ d:Nat,zs.getD (0+j) 0=(d:Int):=⟨(zs.getD (0+j) 0).toNat,by omega⟩
   rw [hd] at hc hx HX
   have hd9:d≤9:=by omega
   clear hx hd hjl
   have hsz:=hbw.size
   have hjI:(j:Int)<3:=by omega
   go_wp2_with (at_builtin;refine wpList_append_own _ rfl _ _ 22 rfl w.heap.size 5 i8 (.int .u8 0) 1 1 Tryz.underlying22 hi8 hy0 hy1 hy2 rfl (by decide) _ _ _ rfl (hr.alloc _) ⟨wr.heap.size,0,none⟩ 1 1 [.int .u8 (48+(d:Int))] rfl rfl (cell_one_new _ _ _) (UU _) ?c3 ?c4 ?c5 ?_)
   case c3=>unfold maxLen;omega
   case c4=>omega
   case c5=>simp;omega
   intro v' wn hown' hgrow _
   have R:wn.ownsRow w.heap.size 5 1 v' (0+(j+1)) (u8s ((zs.map fun z=>48+z).take (0+(j+1)))):=by
    rw [HX.out]
    simpa [u8s,Nat.add_assoc] using hown'
   have bn:Below w.heap.size w wn:=(hbw.alloc hsz _).grown hgrow (by simp;omega) (fun k hk=>(hr.lt k hk).1)
   clear hown' hgrow hr hbw hc HX
   go_wp2
   go_roundw
   case rel=>exact ⟨j+1,by omega,by go_num,R,bn⟩
   case measure=>simp [intOf];omega
  obtain rfl:j=3:=by omega
  have hown:=hr
  have bw:=hbw
  clear hr hbw
  simp only [Nat.reduceAdd] at hown
  go_wp2_with fail
  rw [rounds_succ]
  replace hown:_:=(show wr.ownsRow w.heap.size 5 1 _ (3+0) (u8s ((zs.map fun z=>48+z).take (3+0))) from hown)
  go_wp2_with fail
  go_loopw [4,19] (fun so si wr=>∃ j:Nat,j≤4∧si=.int .i64 j∧wr.ownsRow w.heap.size 5 1 so (3+j) (u8s ((zs.map fun z=>48+z).take (3+j)))∧Below w.heap.size w wr) (fun _ si _=>4 - (intOf si).toNat)
  case atStart=>exact ⟨0,by omega,rfl,hown,bw⟩
  case round =>
   clear hown bw
   obtain ⟨j,hj,rfl,hr,hbw⟩:=hrel
   by_cases hlt:j<4
   ·have hjl:3+j<zs.length:=by rw [HL.out];omega
    have hc:wr.cell? ⟨b1,o1+j,none⟩=some (.int .i64 (zs.getD (3+j) 0)):=by
     rw [← HP1.out j hlt]
     rcases (j1.below hbw).2.2.2 with h9 | ⟨b9,off9,ha9,_,hc9⟩
     ·exact absurd h9 (by decide)
     cases ha9
     exact hc9 j hlt
    have hx:=HD.out (zs.getD (3+j) 0) (Ur hjl)
    have HX:Hid ((zs.map fun z=>48+z).take (3+(j+1))=(zs.map fun z=>48+z).take (3+j)++[48+zs.getD (3+j) 0]):=by
     exact TX hjl
    obtain ⟨d,hd⟩:∃ d:Nat,zs.getD (3+j) 0=(d:Int):=⟨(zs.getD (3+j) 0).toNat,by omega⟩
    rw [hd] at hc hx HX
    have hd9:d≤9:=by omega
    clear hx hd hjl
    have hsz:=hbw.size
    have hjI:(j:Int)<4:=by omega
    go_wp2_with (at_builtin;refine wpList_append_own _ rfl _ _ 22 rfl w.heap.size 5 i8 (.int .u8 0) 1 1 Tryz.underlying22 hi8 hy0 hy1 hy2 rfl (by decide) _ _ _ rfl (hr.alloc _) ⟨wr.heap.size,0,none⟩ 1 1 [.int .u8 (48+(d:Int))] rfl rfl (cell_one_new _ _ _) (UU _) ?c3 ?c4 ?c5 ?_)
    case c3=>unfold maxLen;omega
    case c4=>omega
    case c5=>simp;omega
    intro v' wn hown' hgrow _
    have R:wn.ownsRow w.heap.size 5 1 v' (3+(j+1)) (u8s ((zs.map fun z=>48+z).take (3+(j+1)))):=by
     rw [HX.out]
     simpa [u8s,Nat.add_assoc] using hown'
    have bn:Below w.heap.size w wn:=(hbw.alloc hsz _).grown hgrow (by simp;omega) (fun k hk=>(hr.lt k hk).1)
    clear hown' hgrow hr hbw hc HX
    go_wp2
    go_roundw
    case rel=>exact ⟨j+1,by omega,by go_num,R,bn⟩
    case measure=>simp [intOf];omega
   obtain rfl:j=4:=by omega
   have hown:=hr
   have bw:=hbw
   clear hr hbw
   simp only [Nat.reduceAdd] at hown
   go_wp2_with fail
   rw [rounds_succ]
   replace hown:_:=(show wr.ownsRow w.heap.size 5 1 _ (7+0) (u8s ((zs.map fun z=>48+z).take (7+0))) from hown)
   go_wp2_with fail
   go_loopw [4,19] (fun so si wr=>∃ j:Nat,j≤2∧si=.int .i64 j∧wr.ownsRow w.heap.size 5 1 so (7+j) (u8s ((zs.map fun z=>48+z).take (7+j)))∧Below w.heap.size w wr) (fun _ si _=>2 - (intOf si).toNat)
   case atStart=>exact ⟨0,by omega,rfl,hown,bw⟩
   case round =>
    clear hown bw
    obtain ⟨j,hj,rfl,hr,hbw⟩:=hrel
    by_cases hlt:j<2
    ·have hjl:7+j<zs.length:=by rw [HL.out];omega
     have hc:wr.cell? ⟨b2,o2+j,none⟩=some (.int .i64 (zs.getD (7+j) 0)):=by
      rw [← HP2.out j hlt]
      rcases (j2.below hbw).2.2.2 with h9 | ⟨b9,off9,ha9,_,hc9⟩
      ·exact absurd h9 (by decide)
      cases ha9
      exact hc9 j hlt
     have hx:=HD.out (zs.getD (7+j) 0) (Ur hjl)
     have HX:Hid ((zs.map fun z=>48+z).take (7+(j+1))=(zs.map fun z=>48+z).take (7+j)++[48+zs.getD (7+j) 0]):=by
      exact TX hjl
     obtain ⟨d,hd⟩:∃ d:Nat,zs.getD (7+j) 0=(d:Int):=⟨(zs.getD (7+j) 0).toNat,by omega⟩
     rw [hd] at hc hx HX
     have hd9:d≤9:=by omega
     clear hx hd hjl
     have hsz:=hbw.size
     have hjI:(j:Int)<2:=by omega
     go_wp2_with (at_builtin;refine wpList_append_own _ rfl _ _ 22 rfl w.heap.size 5 i8 (.int .u8 0) 1 1 Tryz.underlying22 hi8 hy0 hy1 hy2 rfl (by decide) _ _ _ rfl (hr.alloc _) ⟨wr.heap.size,0,none⟩ 1 1 [.int .u8 (48+(d:Int))] rfl rfl (cell_one_new _ _ _) (UU _) ?c3 ?c4 ?c5 ?_)
     case c3=>unfold maxLen;omega
     case c4=>omega
     case c5=>simp;omega
     intro v' wn hown' hgrow _
     have R:wn.ownsRow w.heap.size 5 1 v' (7+(j+1)) (u8s ((zs.map fun z=>48+z).take (7+(j+1)))):=by
      rw [HX.out]
      simpa [u8s,Nat.add_assoc] using hown'
     have bn:Below w.heap.size w wn:=(hbw.alloc hsz _).grown hgrow (by simp;omega) (fun k hk=>(hr.lt k hk).1)
     clear hown' hgrow hr hbw hc HX
     go_wp2
     go_roundw
     case rel=>exact ⟨j+1,by omega,by go_num,R,bn⟩
     case measure=>simp [intOf];omega
    obtain rfl:j=2:=by omega
    have hown:=hr
    have bw:=hbw
    clear hr hbw
    simp only [Nat.reduceAdd] at hown
    go_wp2_with fail
    rw [rounds_succ]
    replace hown:_:=(show wr.ownsRow w.heap.size 5 1 _ (9+0) (u8s ((zs.map fun z=>48+z).take (9+0))) from hown)
    go_wp2_with fail
    go_loopw [4,19] (fun so si wr=>∃ j:Nat,j≤6∧si=.int .i64 j∧wr.ownsRow w.heap.size 5 1 so (9+j) (u8s ((zs.map fun z=>48+z).take (9+j)))∧Below w.heap.size w wr) (fun _ si _=>6 - (intOf si).toNat)
    case atStart=>exact ⟨0,by omega,rfl,hown,bw⟩
    case round =>
     clear hown bw
     obtain ⟨j,hj,rfl,hr,hbw⟩:=hrel
     by_cases hlt:j<6
     ·have hjl:9+j<zs.length:=by rw [HL.out];omega
      have hc:wr.cell? ⟨b3,o3+j,none⟩=some (.int .i64 (zs.getD (9+j) 0)):=by
       rw [← HP3.out j hlt]
       rcases (j3.below hbw).2.2.2 with h9 | ⟨b9,off9,ha9,_,hc9⟩
       ·exact absurd h9 (by decide)
       cases ha9
       exact hc9 j hlt
      have hx:=HD.out (zs.getD (9+j) 0) (Ur hjl)
      have HX:Hid ((zs.map fun z=>48+z).take (9+(j+1))=(zs.map fun z=>48+z).take (9+j)++[48+zs.getD (9+j) 0]):=by
       exact TX hjl
      obtain ⟨d,hd⟩:∃ d:Nat,zs.getD (9+j) 0=(d:Int):=⟨(zs.getD (9+j) 0).toNat,by omega⟩
      rw [hd] at hc hx HX
      have hd9:d≤9:=by omega
      clear hx hd hjl
      have hsz:=hbw.size
      have hjI:(j:Int)<6:=by omega
      go_wp2_with (at_builtin;refine wpList_append_own _ rfl _ _ 22 rfl w.heap.size 5 i8 (.int .u8 0) 1 1 Tryz.underlying22 hi8 hy0 hy1 hy2 rfl (by decide) _ _ _ rfl (hr.alloc _) ⟨wr.heap.size,0,none⟩ 1 1 [.int .u8 (48+(d:Int))] rfl rfl (cell_one_new _ _ _) (UU _) ?c3 ?c4 ?c5 ?_)
      case c3=>unfold maxLen;omega
      case c4=>omega
      case c5=>simp;omega
      intro v' wn hown' hgrow _
      have R:wn.ownsRow w.heap.size 5 1 v' (9+(j+1)) (u8s ((zs.map fun z=>48+z).take (9+(j+1)))):=by
       rw [HX.out]
       simpa [u8s,Nat.add_assoc] using hown'
      have bn:Below w.heap.size w wn:=(hbw.alloc hsz _).grown hgrow (by simp;omega) (fun k hk=>(hr.lt k hk).1)
      clear hown' hgrow hr hbw hc HX
      go_wp2
      go_roundw
      case rel=>exact ⟨j+1,by omega,by go_num,R,bn⟩
      case measure=>simp [intOf];omega
     obtain rfl:j=6:=by omega
     have hown:=hr
     have bw:=hbw
     clear hr hbw
     simp only [Nat.reduceAdd] at hown
     have hfull:(zs.map fun z=>48+z).take 15=zs.map fun z=>48+z:=List.take_of_length_le (by simp [HL.out])
     rw [hfull] at hown
     have hcv:=Vy hown
     rw [← HF.out] at hcv
     clear hown hfull
     go_wp2_with fail
     rw [rounds_succ]
     go_wp2
     go_ret2
     exact ⟨rfl,bw⟩


theorem G1 {w:World} {g:Nat} {cs:Sl × Sl × Sl} {m:V4} (hM:Blk w g 69 (Zf cs.1.val cs.2.1.val cs.2.2.val m)) (hs:Zk m=true) (hV:Ys w) :
  Calls Tryz.prog 107 #[.pointer (some ⟨g,0,none⟩)] w fun e w'=>e=.returned (.string (Ye m))∧Below w.heap.size w w':=by
 have kS:=Gx (cs:=cs) hM hs
 have fz:=(ZO hs).1
 go_enter Tryz.func107,Tryz.ntmps107
 go_wp2_with fail
 refine kS.mono ?_
 rintro e w1 ⟨⟨t,rfl,hO⟩,hb⟩
 have kK:=Pz t m w1 (hO.mem fz) hs (hV.below hb)
 clear hO kS
 obtain ⟨⟨t0a,t0n,t0c⟩,⟨t1a,t1n,t1c⟩,⟨t2a,t2n,t2c⟩,⟨t3a,t3n,t3c⟩⟩:=t
 unfold S4.val at kK ⊢
 simp only at kK ⊢
 go_wp2_with fail
 refine kK.mono ?_
 rintro e w2 ⟨rfl,hb2⟩
 go_wp2
 go_ret
 exact ⟨rfl,Po hb hb2⟩

end Go.Proofs.YtmhlokahmblboaaGreatDoor
