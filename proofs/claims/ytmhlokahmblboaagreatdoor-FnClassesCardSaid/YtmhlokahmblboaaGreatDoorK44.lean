/-
  Joined: ScI, LstM, ForP, EchI.
-/
import Derived.Maps.OwnOps
import Derived.Maps.Own
import Derived.Test.YtmhlokahmblboaaGreatDoorK34
import Derived.Test.YtmhlokahmblboaaGreatDoorK42

namespace Go.Proofs.YtmhlokahmblboaaGreatDoor
set_option maxRecDepth 100000
set_option maxHeartbeats 16000000
open Go.RowKit
set_option linter.unusedVariables false
set_option linter.unusedSimpArgs false

theorem Nu {w:World} {B n c:Nat} {a:Option Addr} {xs:List Int} (h:w.ownsRow B 3 1 (.slice a n c) n (xs.map (Value.int .i64))):YS .i64 w a n c xs:=by
 have hl:=h.1
 rw [List.length_map,Nat.mul_one] at hl
 rcases h.2 with ⟨h1,h2⟩ | ⟨g,cap,cur,h1,_,_,h3,h4,_⟩
 ·cases h1
  exact ⟨hl,Nat.le_refl _,Nat.zero_le _,.inl rfl⟩
 cases h1
 exact YS.of_owns h


theorem KQ {w:World} {B:Nat} {v:Value} {xs:List Int} (h:w.ownsRow B 3 1 v xs.length (xs.map (Value.int .i64))):∃ a cap,v=.slice a xs.length cap∧YS .i64 w a xs.length cap xs:=by
 obtain ⟨a,cap,rfl⟩:=SK h
 exact ⟨a,cap,rfl,Nu h⟩


def pkT (xs:List Int):ByteArray:=strOfNums (R2 xs)
def okF (xs:List Int):Prop:=SA xs∧xs.length≤4096
theorem FQ {xs ys:List Int} (hx:okF xs) (hy:okF ys) (h:pkT xs=pkT ys):xs=ys:=by
 obtain ⟨na,ea,ma⟩:=Lq hx.1
 obtain ⟨nb,eb,mb⟩:=Lq hy.1
 have la:na.length=xs.length:=by rw [ea];simp
 have lb:nb.length=ys.length:=by rw [eb];simp
 have La:=SG ma (by have:=hx.2;omega)
 have Lb:=SG mb (by have:=hy.2;omega)
 rw [← R3,← ea] at La
 rw [← R3,← eb] at Lb
 unfold pkT at h
 rw [← h] at Lb
 rw [ea,eb,La.only Lb]
theorem Pa (es:List I4):∀ s,∀ x ∈ (stJ es s).2,x≤3
 | 0,x,hx=>by simp [stJ,stI] at hx
 | s+1,x,hx=>by
  rw [TS] at hx
  rcases List.mem_append.1 hx with hx | hx
  ·exact Pa es s x hx
  rw [List.mem_singleton] at hx
  subst hx
  exact VE _
theorem G3 {es:List I4} (h:YH es) (hl:es.length≤4096):okF (V5 es):=by
 refine ⟨?_,by rw [Ho h];exact hl⟩
 rw [← PW h]
 intro z hz
 obtain ⟨t,ht,rfl⟩:=List.mem_map.1 hz
 have:=Pa es es.length t ht
 omega
structure FmD (D:DataW Unit) (fs:List (List Int)):Prop where
 has:∀ t:ByteArray,Maps.has D (.string t.data.toList)=true↔t ∈ fs.map pkT
 bnd:∀ (t:ByteArray) (c:Int),D.atKey (.string t.data.toList) (.lit (.int .i64 0))=.lit (.int .i64 c)→0≤c∧c≤fs.length
 siz:Maps.size D=(fs.foldl ddG []).length
 ok:∀ x ∈ fs,okF x
theorem FmD.start:FmD (.map []) []:=⟨fun t=>by simp [Maps.has],fun t c h=>by
 simp [DataW.atKey] at h
 subst h
 simp,rfl,fun x hx=>by simp at hx⟩
theorem FmD.put {D:DataW Unit} {fs:List (List Int)} (h:FmD D fs) (hm:Maps.IsMap D) (ht:Maps.Tidy D) {x:List Int} (hx:okF x) {c:Int} (hc0:0≤c) (hc:c≤fs.length) :
  FmD (D.put (.string (pkT x).data.toList) (.lit (.int .i64 (c+1)))) (fs++[x]):=by
 have hkl:WideAt.IsKeyLit (.string (pkT x).data.toList):=trivial
 refine ⟨fun t=>?_,fun y d hd=>?_,?_,fun y hy=>?_⟩
 ·by_cases e:t=pkT x
  ·subst e
   rw [Maps.has_put_same hm hkl]
   simp
  rw [Maps.has_put_other (PL e),h.has]
  simp [e]
 ·by_cases e:y=pkT x
  ·subst e
   rw [Maps.atKey_put_same hm hkl] at hd
   injection hd with hd
   injection hd with _ hd
   subst hd
   simp
   omega
  rw [Maps.atKey_put_other (PL e)] at hd
  have:=h.bnd y d hd
  simp
  omega
 ·rw [Maps.size_put ht,List.foldl_append]
  show _=(ddG (fs.foldl ddG []) x).length
  have hmem:x ∈ fs.foldl ddG []↔x ∈ fs:=by rw [Pw];simp
  by_cases e:x ∈ fs
  ·have h1:Maps.has D (.string (pkT x).data.toList)=true:=(h.has _).2 (List.mem_map.2 ⟨x,e,rfl⟩)
   rw [h1,if_pos rfl,h.siz,show ddG (fs.foldl ddG []) x=fs.foldl ddG [] from if_pos (hmem.2 e)]
  have h1:Maps.has D (.string (pkT x).data.toList)=false:=by
   cases q:Maps.has D (.string (pkT x).data.toList)
   ·rfl
   obtain ⟨y,hy,e2⟩:=List.mem_map.1 ((h.has _).1 q)
   exact absurd (FQ (h.ok y hy) hx e2▸hy) e
  rw [h1,h.siz,show ddG (fs.foldl ddG []) x=fs.foldl ddG []++[x] from if_neg (fun q=>e (hmem.1 q))]
  simp
 rcases List.mem_append.1 hy with hy | hy
 ·exact h.ok y hy
 simp at hy;subst hy;exact hx
def Vj (w:World) (nb:Nat) (fs:List (List Int)):Prop:=∃ D:DataW Unit,w.ownsMap Tryz.prog 9 (plainElem Tryz.prog 3) nb fs.length D∧FmD D fs
theorem Vj.kept {w w':World} {nb:Nat} {fs:List (List Int)} {row:Option Nat} (h:Vj w nb fs) (hg:w.grownBy w' row) (hne:row≠some nb):Vj w' nb fs:=by
 obtain ⟨D,hm,hf⟩:=h
 exact ⟨D,hm.kept hg (fun e=>hne e.symm),hf⟩
theorem Vj.below {w w':World} {nb:Nat} {fs:List (List Int)} (h:Vj w nb fs) (hb:Below w.heap.size w w'):Vj w' nb fs:=h.kept (row:=none) ⟨hb.os,hb.tape,hb.output,hb.size,fun k hk _=>hb.block k hk⟩ (by simp)
theorem Hc {t:ByteArray} (h:t.size≤maxLen):keyOf Tryz.prog 9 (.string t)=some (.string t.data.toList):=by
 simp [keyOf,Tryz.underlying9,mapKey,h]
theorem F1 {z:Int} (h:0≤z) (h':z≤2000000000):(Lit.int .i64 z).wf=true:=by
 simp only [Lit.wf,Bool.and_eq_true,decide_eq_true_eq]
 have h1:IntKind.i64.min=-9223372036854775808:=by decide
 have h2:IntKind.i64.max=9223372036854775807:=by decide
 omega

theorem Fn (ea:Option Addr) (n c Fb nb:Nat) (es:List I4) (fs:List (List Int)) (w:World) (hE:Evs w ea n es) (hn:n≤60) (hc:n≤c) (hI:YH es) (hF:Blk w Fb 76 [.map (some nb)]) (hM:Vj w nb fs) (hl:fs.length≤1200000000) :
  Calls Tryz.prog 29 #[.slice ea n c,.pointer (some ⟨Fb,0,none⟩)] w fun e w'=>e=.returned (.tuple #[])∧Vj w' nb (fs++[V5 es])∧w.grownBy w' (some nb):=by
 have hln:=hE.1
 have kN:=NP ea n c es w hE (by omega) hc hI hln.symm
 have hok:=G3 hI (by omega)
 generalize V5 es=x at *
 clear hE hI
 go_enter Tryz.func29,Tryz.ntmps29
 go_wp2_with fail
 refine kN.mono ?_
 rintro e w1 ⟨⟨v,rfl,q⟩,hb⟩
 obtain ⟨xa,xc,rfl⟩:=Gb q
 have kP:=T7 xa x.length xc x w1 (Ll q) hok.2
 replace hF:=hF.below hb
 replace hM:=hM.below hb
 have b1:=hb
 clear kN hb q
 go_wp2_with fail
 refine kP.mono ?_
 rintro e w2 ⟨he,hb⟩
 obtain rfl:e=.returned (.tuple #[.string (pkT x),.int .i64 0]):=by
  rcases he with ⟨_,he⟩ | ⟨hn,_⟩
  ·exact he
  exact absurd hok.1 hn
 clear he
 replace hF:=hF.below hb
 replace hM:=hM.below hb
 replace b1:=Po b1 hb
 clear hb kP
 obtain ⟨D,hm,hD⟩:=hM
 have hsz:(pkT x).size≤maxLen:=by
  unfold pkT
  rw [strOfNums_size]
  have h1:=Sh x
  have h2:=(V6 x.length).2
  unfold R2
  rw [List.length_append]
  have:=hok.2
  unfold maxLen
  omega
 have hkey:=Hc hsz
 have cF:w2.cell? ⟨Fb,0,none⟩=some (.map (some nb)):=by simpa using hF.cell 0
 have hbn:∀ c:Int,D.atKey (.string (pkT x).data.toList) (.lit (.int .i64 0))=.lit (.int .i64 c)→(0≤c∧c≤1200000000)∧FmD (D.put (.string (pkT x).data.toList) (.lit (.int .i64 (c+1)))) (fs++[x]):=fun c hat=>by
  have:=hD.bnd _ c hat
  exact ⟨by omega,hD.put hm.isMap (hm.tidy Vp) hok this.1 this.2⟩
 clear hD hF hsz
 generalize pkT x=key at *
 go_wp2_with (first | (at_lookup;refine wpList_lookup_own_int _ rfl _ _ 76 rfl 9 3 .i64 Vp Tryz.underlying76 Tryz.underlying3 (Sy _) nb fs.length D rfl hm _ _ rfl hkey ?_;intro cc hat hwc;obtain ⟨⟨hc0,hc1⟩,hSP⟩:=hbn cc hat;clear hbn hat hwc) | (at_mapUpdate;refine wpList_mapUpdate_own _ rfl _ _ _ 76 rfl 9 3 Vp Tryz.underlying76 _ nb fs.length D rfl hm (by unfold maxLen;omega) _ _ _ rfl rfl hkey _ [] (plainElem_int Tryz.underlying3 (F1 (by omega) (by omega))) ?_;intro w3 hm3 g3))
 go_end0
 refine ⟨rfl,⟨_,by rw [List.length_append];exact hm3,hSP⟩,?_⟩
 exact ⟨g3.os.trans b1.os,g3.tape.trans b1.tape,g3.output.trans b1.output,Nat.le_trans b1.size g3.size,fun k hk hne=>(g3.block k (Nat.lt_of_lt_of_le hk b1.size) hne).trans (b1.block k hk)⟩


noncomputable def tlF (rows:List (List I3)) (f:Nat) (m:V4) (ls:List Int) (i:Nat):List (List Int):=(((Zj rows m 3).take i).map fun k=>(rnF rows f (goM rows m k).1).map fun ks=>nfG rows (ls++[k]++ks)).flatten
theorem GH {rows:List (List I3)} {f:Nat} {m:V4} {ls:List Int} {i:Nat} {k:Int} (h:(Zj rows m 3)[i]?=some k):tlF rows f m ls (i+1)=tlF rows f m ls i++(rnF rows f (goM rows m k).1).map fun ks=>nfG rows (ls++[k]++ks):=by
 unfold tlF
 rw [List.take_add_one,h]
 simp
theorem GG {rows:List (List I3)} {f:Nat} {m:V4} {ls:List Int} (i:Nat):(tlF rows f m ls i).length≤(tlF rows f m ls 3).length:=by
 have e:Zj rows m 3=(Zj rows m 3).take 3:=by rw [List.take_of_length_le (YD rows m 3)]
 unfold tlF
 rw [← e]
 conv=>rhs;rw [← List.take_append_drop i (Zj rows m 3)]
 rw [List.map_append,List.flatten_append,List.length_append]
 omega
theorem LW {rows:List (List I3)} {f:Nat} {m:V4} {ls:List Int} {i:Nat} (hi:(Zj rows m 3).length≤i) (h:Zj rows m 3≠[]):tlF rows f m ls i=(rnF rows (f+1) m).map fun ks=>nfG rows (ls++ks):=by
 unfold tlF
 rw [List.take_of_length_le hi,rnF,if_neg h,List.map_flatten,List.map_map]
 congr 1
 refine List.map_congr_left (fun k _=>?_)
 simp [Function.comp_def]
theorem Rz {rows:List (List I3)} {k:Int}:∀ (ks:List Int) (m:V4) (fs:List I3),(ZE rows m fs ks).2.2=0→YK rows m (ks++[k])=YK rows m ks++[Zz rows (ZE rows m fs ks).1 k.toNat]
 | [],m,fs,_=>rfl
 | j::ks,m,fs,h=>by
  by_cases hz:Zv rows m j=0
  ·rw [WO hz] at h ⊢
   show Zz rows m j.toNat::YK rows (goM rows m j).1 (ks++[k])=_
   rw [Rz ks _ _ h]
   rfl
  exfalso
  have:(ZE rows m fs (j::ks)).2.2=Zv rows m j:=by
   show (if Zv rows m j=0 then _ else _:V4 × List I3 × Int).2.2=_
   rw [if_neg hz]
  rw [this] at h
  exact hz h
theorem MA {rows:List (List I3)} {ls:List Int} {m:V4} {k:Int} (h:VU rows ls m) (hz:Zv rows m k=0):VU rows (ls++[k]) (goM rows m k).1:=by
 obtain ⟨h1,h2⟩:=h
 unfold VU
 rw [Sj rows k ls Zl [] h1,h2,N7,if_pos hz]
 exact ⟨rfl,rfl⟩
theorem PU {w:World} {B e s g n c:Nat} {xs ys:List Value} (h:w.ownsRow B e s (.slice (some ⟨g,0,none⟩) (n+1) c) (n+1) (xs++ys)) (hl:xs.length=n*s):w.ownsRow B e s (.slice (some ⟨g,0,none⟩) n c) n xs:=by
 refine ⟨hl,?_⟩
 rcases h.2 with ⟨h0,_⟩ | ⟨g',cap,cur,hv,hB,hg,hn,hc,hs,ht⟩
 ·cases h0
 cases hv
 refine .inr ⟨g,c,cur,rfl,hB,hg,by omega,hc,hs,?_⟩
 have e1:cur.toList.take (n*s)=(cur.toList.take ((n+1)*s)).take (n*s):=by
  rw [List.take_take,Nat.min_eq_left (Nat.mul_le_mul_right s (Nat.le_succ n))]
 rw [e1,ht,List.take_append_of_le_length (by omega),List.take_of_length_le (by omega)]
structure Kp8 (w w':World) (Eb nb:Nat) (ev:Value):Prop where
 os:w'.os=w.os
 tape:w'.tape=w.tape
 output:w'.output=w.output
 size:w.heap.size≤w'.heap.size
 block:∀ j,j<w.heap.size→j≠Eb→j≠nb→ev.ownBlock≠some j→w'.heap[j]?=w.heap[j]?
theorem Kp8.refl (w:World) (Eb nb:Nat) (ev:Value):Kp8 w w Eb nb ev:=⟨rfl,rfl,rfl,Nat.le_refl _,fun _ _ _ _ _=>rfl⟩
theorem Kp8.belowR {a b c:World} {Eb nb:Nat} {ev:Value} (h:Kp8 a b Eb nb ev) (k:Below b.heap.size b c):Kp8 a c Eb nb ev:=
 ⟨k.os.trans h.os,k.tape.trans h.tape,k.output.trans h.output,Nat.le_trans h.size k.size,fun j hj h1 h2 h3=>(k.block j (Nat.lt_of_lt_of_le hj h.size)).trans (h.block j hj h1 h2 h3)⟩
theorem Kp8.grE {a b c:World} {Eb nb:Nat} {ev:Value} (h:Kp8 a b Eb nb ev) (k:b.grownBy c (some Eb)):Kp8 a c Eb nb ev:=
 ⟨k.os.trans h.os,k.tape.trans h.tape,k.output.trans h.output,Nat.le_trans h.size k.size,fun j hj h1 h2 h3=>(k.block j (Nat.lt_of_lt_of_le hj h.size) (fun e=>h1 (by cases e;rfl))).trans (h.block j hj h1 h2 h3)⟩
theorem Kp8.grM {a b c:World} {Eb nb:Nat} {ev:Value} (h:Kp8 a b Eb nb ev) (k:b.grownBy c (some nb)):Kp8 a c Eb nb ev:=
 ⟨k.os.trans h.os,k.tape.trans h.tape,k.output.trans h.output,Nat.le_trans h.size k.size,fun j hj h1 h2 h3=>(k.block j (Nat.lt_of_lt_of_le hj h.size) (fun e=>h2 (by cases e;rfl))).trans (h.block j hj h1 h2 h3)⟩
theorem Kp8.grV {a b c:World} {Eb nb:Nat} {ev ev':Value} (h:Kp8 a b Eb nb ev) (hm:ZU a ev ev') (k:b.grownBy c ev'.ownBlock):Kp8 a c Eb nb ev:=
 ⟨k.os.trans h.os,k.tape.trans h.tape,k.output.trans h.output,Nat.le_trans h.size k.size,fun j hj h1 h2 h3=>(k.block j (Nat.lt_of_lt_of_le hj h.size) (fun e=>by
  rcases hm with hm | ⟨g,hg,hm⟩
  ·exact h3 (hm▸e.symm)
  rw [hm] at e;cases e;omega)).trans (h.block j hj h1 h2 h3)⟩
theorem Kp8.call {a b c:World} {Eb nb:Nat} {ev ev':Value} (h:Kp8 a b Eb nb ev) (hm:ZU a ev ev') (k:Kp8 b c Eb nb ev'):Kp8 a c Eb nb ev:=
 ⟨k.os.trans h.os,k.tape.trans h.tape,k.output.trans h.output,Nat.le_trans h.size k.size,fun j hj h1 h2 h3=>(k.block j (Nat.lt_of_lt_of_le hj h.size) h1 h2 (fun e=>by
  rcases hm with hm | ⟨g,hg,hm⟩
  ·exact h3 (hm▸e)
  rw [hm] at e;cases e;omega)).trans (h.block j hj h1 h2 h3)⟩
theorem Vj.blk {w:World} {nb g e:Nat} {fs:List (List Int)} {zs:List Value} (h:Vj w nb fs) (p:Blk w g e zs):g≠nb:=by
 obtain ⟨D,hm,_⟩:=h
 exact WX hm p
theorem Vj.own {w:World} {nb B e s k:Nat} {fs:List (List Int)} {v:Value} {xs:List Value} (h:Vj w nb fs) (ho:w.ownsRow B e s v k xs):v.ownBlock≠some nb:=by
 obtain ⟨D,hm,_⟩:=h
 exact WY hm ho
theorem Kp8.blk {w w':World} {Eb nb B n:Nat} {ev:Value} {xs ce:List Value} {fs:List (List Int)} (k:Kp8 w w' Eb nb ev) (er:w.ownsRow B 135 4 ev n xs) (eb:Blk w Eb 78 ce) (mp:Vj w nb fs) {g e:Nat} {zs:List Value} (p:Blk w g e zs) (h1:135≠e) (h2:78≠e):Blk w' g e zs:=
 (k.block g p.lt (fun e2=>ZJ eb p h2 e2.symm) (mp.blk p) (Zg er p h1)).trans p
theorem Kp8.row {w w':World} {Eb nb B n:Nat} {ev:Value} {xs ce:List Value} {fs:List (List Int)} (k:Kp8 w w' Eb nb ev) (er:w.ownsRow B 135 4 ev n xs) (eb:Blk w Eb 78 ce) (mp:Vj w nb fs) {B' n':Nat} {v:Value} {zs:List Value} (ho:w.ownsRow B' 3 1 v n' zs):w'.ownsRow B' 3 1 v n' zs:=by
 have hlt:=fun g hg=>(ZM ho (g:=g) hg).2
 have hnE:=Zg ho eb (by decide)
 have hnM:=mp.own ho
 have hap:=Ap3.types ho er (by decide)
 refine ⟨ho.1,?_⟩
 rcases ho.2 with hn | ⟨g,cap,cur,rfl,hb9,hgg,rest⟩
 ·exact .inl hn
 exact .inr ⟨g,cap,cur,rfl,hb9,(k.block g (hlt g rfl) (fun e=>hnE (by rw [← e];rfl)) (fun e=>hnM (by rw [← e];rfl)) (hap g rfl)).trans hgg,rest⟩
theorem Kp8.below {a b:World} {Eb nb B:Nat} {ev:Value} (h:Kp8 a b Eb nb ev) (hE:B≤Eb) (hn:B≤nb) (hv:∀ k,ev.ownBlock=some k→B≤k) (hB:B≤a.heap.size):Below B a b:=
 ⟨h.os,h.tape,h.output,h.size,fun k hk=>h.block k (by omega) (by omega) (by omega) (fun e=>by have:=hv k e;omega)⟩
structure Qo (w:World) (B Tb Eb Vb Fb nb:Nat) (es:List I4) (ev:Value) (fs:List (List Int)):Prop where
 tb:Blk w Tb 82 [.func (.func 29) #[] #[.pointer (some ⟨Fb,0,none⟩)]]
 eb:Blk w Eb 78 [ev]
 vb:Blk w Vb 132 [.func (.func 68) #[] #[.pointer (some ⟨Tb,0,none⟩),.pointer (some ⟨Eb,0,none⟩),.pointer (some ⟨Vb,0,none⟩)]]
 fb:Blk w Fb 76 [.map (some nb)]
 er:w.ownsRow B 135 4 ev es.length (Yu es)
 mp:Vj w nb fs
theorem Qo.below {w w':World} {B Tb Eb Vb Fb nb:Nat} {es:List I4} {ev:Value} {fs:List (List Int)} (h:Qo w B Tb Eb Vb Fb nb es ev fs) (hb:Below w.heap.size w w'):Qo w' B Tb Eb Vb Fb nb es ev fs:=
 ⟨h.tb.below hb,h.eb.below hb,h.vb.below hb,h.fb.below hb,Ze h.er hb,h.mp.below hb⟩
def Pm (e:Ending) (w w':World) (B Tb Eb Vb Fb nb:Nat) (es:List I4) (ev:Value) (fs:List (List Int)):Prop:=e=.returned (.tuple #[])∧∃ ev',Qo w' B Tb Eb Vb Fb nb es ev' fs∧ZU w ev ev'∧Kp8 w w' Eb nb ev
def JH (rows:List (List I3)) (wb:World) (Tb Eb Vb Fb nb:Nat) (cs:Sl × Sl × Sl) (f:Nat):Prop:=∀ (m:V4) (ls:List Int) (fs:List (List Int)),Zk m=true→YC rows m<f→VU rows ls m→ls.length+f≤60→fs.length+(rnF rows f m).length≤1200000000→∀ (w:World) (ev:Value),Below wb.heap.size wb w→Qo w wb.heap.size Tb Eb Vb Fb nb (YK rows Zl ls) ev fs →
  Calls Tryz.prog 68 #[.agg (Zf cs.1.val cs.2.1.val cs.2.2.val m).toArray,.pointer (some ⟨Tb,0,none⟩),.pointer (some ⟨Eb,0,none⟩),.pointer (some ⟨Vb,0,none⟩)] w fun e w'=>Pm e w w' wb.heap.size Tb Eb Vb Fb nb (YK rows Zl ls) ev (fs++(rnF rows f m).map fun ks=>nfG rows (ls++ks))
theorem UT {w W:World} {v v' u:Value} (h:ZU w v u) (hs:w.heap.size≤W.heap.size) (h':v'.ownBlock=u.ownBlock∨v'.ownBlock=some W.heap.size):ZU w v v':=
 h.trans hs (by rcases h' with h' | h';exact .inl h';exact .inr ⟨_,Nat.le_refl _,h'⟩)
structure JF (rows:List (List I3)) (wb w wr:World) (Tb Eb Vb Fb nb g bL f:Nat) (cs:Sl × Sl × Sl) (m:V4) (ls:List Int) (ev:Value) (sl:Sl) (fs:List (List Int)) (i:Nat):Prop where
 rn:∃ evi,Qo wr wb.heap.size Tb Eb Vb Fb nb (YK rows Zl ls) evi (fs++tlF rows f m ls i)∧ZU w ev evi
 mc:Blk wr g 69 (Zf cs.1.val cs.2.1.val cs.2.2.val m)
 li:ZG wr bL sl (Zj rows m 3)
 kp:Kp8 w wr Eb nb ev
 bl:Below wb.heap.size wb wr

theorem H9 {rows:List (List I3)} {wb:World} {Tb Eb Vb Fb nb:Nat} {cs:Sl × Sl × Sl} (hp:Zn rows=true) (hI:∀ k,k<3→ZK wb (slK cs k).1 (slK cs k).2.1 (slK cs k).2.2 (Yn rows k)) (hBE:wb.heap.size≤Eb) (hBn:wb.heap.size≤nb) {f:Nat} (ih:JH rows wb Tb Eb Vb Fb nb cs f):JH rows wb Tb Eb Vb Fb nb cs (f+1):=by
 intro m ls fs hs hf hgo hlf hfl w ev b0 hV
 obtain ⟨i0,hi9,hz0,hz1,hz2⟩:=info_parts RF
 have hel:(YK rows Zl ls).length=ls.length:=Ry rows ls Zl
 have h3:=WF ls Zl [] hgo.1
 have HSN:Hid (∀ k:Nat,YK rows Zl (ls++[(k:Int)])=YK rows Zl ls++[Zz rows m k]):=fun k=>by
  rw [Rz ls Zl [] hgo.1,hgo.2,Int.toNat_natCast]
 obtain ⟨va,vc,rfl,hEv⟩:=Un hV.er
 have hvc:(YK rows Zl ls).length≤vc:=by
  rcases hV.er.2 with ⟨h1,h2⟩ | ⟨gq,cq,cur,h1,_,_,h4,_⟩
  ·rw [h2];exact Nat.zero_le _
  cases h1;exact h4
 clear hEv
 have kE:=fun (W:World) (b:Below wb.heap.size wb W) (g:Nat) (h:Blk W g 69 (Zf cs.1.val cs.2.1.val cs.2.2.val m))=>VA g cs rows m W ⟨h,fun k hk=>(hI k hk).below b⟩ hp hs
 have hone:=RQ cs.1 cs.2.1 cs.2.2 m
 obtain ⟨x0,x1,x2,x3,x4,x5,x6,x7,x8,x9,x10,x11,x12,x13,x14,x15,x16,x17,hMC⟩:∃ x0 x1 x2 x3 x4 x5 x6 x7 x8 x9 x10 x11 x12 x13 x14 x15 x16 x17:Value,Zf cs.1.val cs.2.1.val cs.2.2.val m=[x0,x1,x2,x3,x4,x5,x6,x7,x8,x9,x10,x11,x12,x13,x14,x15,x16,x17]:=⟨_,_,_,_,_,_,_,_,_,_,_,_,_,_,_,_,_,_,rfl⟩
 have HMC:Hid (Zf cs.1.val cs.2.1.val cs.2.2.val m=[x0,x1,x2,x3,x4,x5,x6,x7,x8,x9,x10,x11,x12,x13,x14,x15,x16,x17]):=hMC
 rw [hMC] at hone ⊢
 clear hMC
 simp only [List.all_cons,List.all_nil,Bool.and_true,Bool.and_eq_true] at hone
 obtain ⟨o0,o1,o2,o3,o4,o5,o6,o7,o8,o9,o10,o11,o12,o13,o14,o15,o16,o17⟩:=hone
 have bw1:Below w.heap.size w (w.alloc (.cells #[x0,x1,x2,x3,x4,x5,x6,x7,x8,x9,x10,x11,x12,x13,x14,x15,x16,x17] 69)):=by go_grown
 have pY1:Blk (w.alloc (.cells #[x0,x1,x2,x3,x4,x5,x6,x7,x8,x9,x10,x11,x12,x13,x14,x15,x16,x17] 69)) w.heap.size 69 [x0,x1,x2,x3,x4,x5,x6,x7,x8,x9,x10,x11,x12,x13,x14,x15,x16,x17]:=Zo _ _ _ rfl
 replace pY1:Blk (w.alloc (.cells #[x0,x1,x2,x3,x4,x5,x6,x7,x8,x9,x10,x11,x12,x13,x14,x15,x16,x17] 69)) w.heap.size 69 (Zf cs.1.val cs.2.1.val cs.2.2.val m):=by
  have h9:=pY1
  rw [HMC.out]
  exact h9
 have bl:=Zb b0 bw1
 have hV1:=hV.below bw1
 have kp:Kp8 w (w.alloc (.cells #[x0,x1,x2,x3,x4,x5,x6,x7,x8,x9,x10,x11,x12,x13,x14,x15,x16,x17] 69)) Eb nb (.slice va (YK rows Zl ls).length vc):=(Kp8.refl w Eb nb _).belowR bw1
 have kEx:=kE (w.alloc (.cells #[x0,x1,x2,x3,x4,x5,x6,x7,x8,x9,x10,x11,x12,x13,x14,x15,x16,x17] 69)) bl w.heap.size pY1
 clear hV b0 HMC bw1 kE
 obtain ⟨g,hg⟩:∃ g,g=w.heap.size:=⟨_,rfl⟩
 have HGZ:Hid (g=w.heap.size):=hg
 rw [← hg] at pY1 kEx
 clear hg
 generalize hes:YK rows Zl ls=es at *
 have hl60:es.length≤59:=by omega
 clear hel
 go_enter Tryz.func68,Tryz.ntmps68
 go_wp2_with fail
 rw [← HGZ.out]
 generalize (w.alloc (.cells #[x0,x1,x2,x3,x4,x5,x6,x7,x8,x9,x10,x11,x12,x13,x14,x15,x16,x17] 69))=w1 at *
 clear o0 o1 o2 o3 o4 o5 o6 o7 o8 o9 o10 o11 o12 o13 o14 o15 o16 o17
 refine kEx.mono ?_
 rintro e w2 ⟨⟨⟨la,ln,lc⟩,rfl,hL⟩,hb⟩
 have hLn:(Zj rows m 3).length=ln:=by have:=hL.1;simpa using this
 have hn3:ln≤3:=by rw [← hLn];exact YD rows m 3
 replace pY1:=pY1.below hb
 replace hV1:=hV1.below hb
 replace kp:=kp.belowR hb
 replace bl:=Zb bl hb
 generalize w1.heap.size=bL at *
 clear hb kEx
 by_cases hE:Zj rows m 3=[]
 ·obtain rfl:ln=0:=by rw [hE] at hLn;simpa using hLn.symm
  have HRN:Hid ((rnF rows (f+1) m).map (fun ks=>nfG rows (ls++ks))=[V5 es]):=by
   rw [Hid,rnF,if_pos hE]
   subst hes
   simp [nfG]
  have hfl2:fs.length≤1200000000:=by omega
  obtain ⟨tb,eb,vb,fb,er,mp⟩:=hV1
  obtain ⟨_,_,e9,hEv⟩:=Un er
  cases e9
  have kT:=Fn va es.length vc Fb nb es fs w2 hEv (by omega) hvc h3 fb mp hfl2
  have cT:w2.cell? ⟨Tb,0,none⟩=some (.func (.func 29) #[] #[.pointer (some ⟨Fb,0,none⟩)]):=by simpa using tb.cell 0
  have cE:w2.cell? ⟨Eb,0,none⟩=some (.slice va es.length vc):=by simpa using eb.cell 0
  clear hEv hL hLn hE hfl2 hfl
  go_wp2_with fail
  refine kT.mono ?_
  rintro e w3 ⟨rfl,mp3,g3⟩
  have HG:Hid (Pm (.returned (.tuple #[])) w w3 wb.heap.size Tb Eb Vb Fb nb es (.slice va es.length vc) (fs++(rnF rows (f+1) m).map fun ks=>nfG rows (ls++ks))):=by
   rw [Hid,HRN.out]
   have n1:=mp.blk tb
   have n2:=mp.blk eb
   have n3:=mp.blk vb
   have n4:=mp.blk fb
   refine ⟨rfl,_,⟨tb.kept g3 (fun e=>n1 (by cases e;rfl)),eb.kept g3 (fun e=>n2 (by cases e;rfl)),vb.kept g3 (fun e=>n3 (by cases e;rfl)),fb.kept g3 (fun e=>n4 (by cases e;rfl)),er.kept g3 (.inr (mp.own er)),mp3⟩,ZU.refl _ _,kp.grM g3⟩
  clear kT cT cE tb eb vb fb er mp mp3 g3 kp bl HRN
  go_wp2_with fail
  go_loopw [18] (fun s18 wr=>s18=.int .i64 0∧w3=wr) (fun _ _=>0)
  case atStart=>exact ⟨rfl,rfl⟩
  case round =>
   obtain ⟨rfl,rfl⟩:=hrel
   go_wp2
   go_end0
   exact HG.out
 have hen1:((ln:Int) == 0)=false:=by
  have:0<ln:=by rw [← hLn];exact List.length_pos_iff.2 hE
  simp
  omega
 have HLN:Hid ((Zj rows m 3).length=ln):=hLn
 have HLM:Hid (∀ i,(tlF rows f m ls i).length≤(rnF rows (f+1) m).length):=fun i=>by
  have h1:=GG (rows:=rows) (f:=f) (m:=m) (ls:=ls) i
  rw [LW (YD rows m 3) hE,List.length_map] at h1
  exact h1
 have HND:Hid (∀ i,ln≤i→tlF rows f m ls i=(rnF rows (f+1) m).map fun ks=>nfG rows (ls++ks)):=fun i hi=>LW (by omega) hE
 have st0:JF rows wb w w2 Tb Eb Vb Fb nb g bL f cs m ls (.slice va es.length vc) (la,ln,lc) fs 0:=⟨⟨_,by rw [show tlF rows f m ls 0=[] from rfl,List.append_nil,hes];exact hV1,ZU.refl _ _⟩,pY1,hL,kp,bl⟩
 clear hV1 pY1 hL kp bl hLn hE
 go_wp2_with fail
 go_loopw [18] (fun s18 wr=>∃ i:Nat,s18=.int .i64 i∧i≤ln∧JF rows wb w wr Tb Eb Vb Fb nb g bL f cs m ls (.slice va es.length vc) (la,ln,lc) fs i) (fun s18 _=>ln - (Go.RowKit.intOf s18).toNat)
 case atStart=>exact ⟨0,rfl,Nat.zero_le _,st0⟩
 case round =>
  clear st0
  obtain ⟨i,rfl,hin,⟨evi,hV,mv⟩,mc,li,kp,bl⟩:=hrel
  rw [hes] at hV
  by_cases hlt:i<ln
  ·have hlt3:(i:Int)<(ln:Int):=by omega
   have hi0:(0:Int)≤(i:Int):=by omega
   have hkj:(Zj rows m 3)[i]?=some ((Zj rows m 3).getD i 0):=by rw [List.getD,List.getElem?_eq_getElem (by rw [HLN.out];omega)];rfl
   have hz:=Ya (List.mem_of_getElem? hkj)
   obtain ⟨h0k,h2k,hd,_⟩:=ZX hz
   obtain ⟨k,hk⟩:∃ k:Nat,(Zj rows m 3).getD i 0=(k:Int):=⟨_,(Int.toNat_of_nonneg h0k).symm⟩
   obtain ⟨lb,lo,rfl,hc,hlb⟩:=Y8 li.ints (show i<ln from hlt)
   rw [hk] at hkj hz hd h0k h2k hc
   rw [Int.toNat_natCast] at hd
   have hk3:k<3:=by omega
   clear hk hlb
   have hx:=ZV hp hs hz
   have hlx:=YX hp hs hz
   have hg2:=MA hgo hz
   have HTS:Hid (tlF rows f m ls (i+1)=tlF rows f m ls i++(rnF rows f (goM rows m (k:Int)).1).map fun ks=>nfG rows (ls++[(k:Int)]++ks)):=GH hkj
   have hbnd:(fs++tlF rows f m ls i).length+(rnF rows f (goM rows m (k:Int)).1).length≤1200000000:=by
    have h1:=HLM.out (i+1)
    rw [HTS.out,List.length_append,List.length_map] at h1
    rw [List.length_append]
    omega
   have kV:=ih (goM rows m (k:Int)).1 (ls++[(k:Int)]) (fs++tlF rows f m ls i) hx (by omega) hg2 (by rw [List.length_append];simp only [List.length_cons,List.length_nil];omega) hbnd
   rw [HSN.out k] at kV
   have kT:=fun (W:World) (N:Nat) (h:Yj W N cs rows m)=>LS h hp hs hk3 hd
   rw [← Wq] at kT
   have kA:=fun (W:World) (b:Below wb.heap.size wb W) (h:Blk W g 69 (Zf cs.1.val cs.2.1.val cs.2.2.val m))=>Rx (⟨h,fun q hq=>(hI q hq).below b⟩:Yj W g cs rows m) hp hs hk3 hd
   generalize Zz rows m k=eM at *
   obtain ⟨e0,e1,e2,e3⟩:=eM
   simp only at kA kV
   have HEQ:Hid (∀ xs,(fs++tlF rows f m ls i)++((rnF rows f (goM rows m (k:Int)).1).map fun ks=>nfG rows (ls++[(k:Int)]++ks))=xs→xs=fs++tlF rows f m ls (i+1)):=fun xs h=>by rw [← h,HTS.out,List.append_assoc]
   generalize ((rnF rows f (goM rows m (k:Int)).1).map fun ks=>nfG rows (ls++[(k:Int)]++ks))=nw at *
   clear hbnd hlx hg2 hkj hz HTS
   generalize goM rows m (k:Int)=zf at *
   obtain ⟨z,fl⟩:=zf
   simp only at kT hx kV
   have pN:=Blk.new wr 69 [.slice none 0 0,.int .i64 0,.int .i64 0,.int .i64 0,.slice none 0 0,.int .i64 0,.int .i64 0,.int .i64 0,.slice none 0 0,.int .i64 0,.int .i64 0,.int .i64 0,.int .i64 0,.int .i64 0,.int .i64 0,.int .i64 0,.int .i64 0,.int .i64 0]
   have hbN:Below wr.heap.size wr (wr.alloc (.cells #[.slice none 0 0,.int .i64 0,.int .i64 0,.int .i64 0,.slice none 0 0,.int .i64 0,.int .i64 0,.int .i64 0,.slice none 0 0,.int .i64 0,.int .i64 0,.int .i64 0,.int .i64 0,.int .i64 0,.int .i64 0,.int .i64 0,.int .i64 0,.int .i64 0] 69)):=by go_grown
   go_wp2_with (first | refine Zc rfl 69 _ rfl g rfl mc _ Tryz.underlying69 rfl (by kernel_rfl) ?_ | refine Zd rfl 69 _ _ rfl wr.heap.size (Zf cs.1.val cs.2.1.val cs.2.2.val m) rfl rfl pN (by kernel_rfl) rfl rfl ?_)
   intro u1 p1 g1
   have pZ:=p1.out
   have bz:Below wr.heap.size wr u1:=hbN.grown g1 hbN.size (fun q e=>by cases e;exact Nat.le_refl _)
   clear p1 g1 hbN pN
   obtain ⟨N,hN⟩:∃ N,N=wr.heap.size:=⟨_,rfl⟩
   rw [← hN] at pZ ⊢
   have hZw:wr.heap.size≤N:=by omega
   clear hN
   have kTx:=kT u1 N ⟨pZ,fun q hq=>(hI q hq).below (Zb bl bz)⟩
   clear kT
   go_wp2_with fail
   refine kTx.mono ?_
   rintro e u2 ⟨rfl,pZ2,g2⟩
   have b2:Below wr.heap.size wr u2:=bz.grown g2 bz.size (fun q e=>by cases e;exact hZw)
   clear kTx pZ bz g2 hc
   replace hV:=hV.below b2
   replace mc:=mc.below b2
   replace li:=li.below b2
   replace kp:=kp.belowR b2
   replace bl:=Zb bl b2
   clear b2 hZw
   obtain ⟨va9,vc9,rfl,_⟩:=Un hV.er
   have hEc:u2.cell? ⟨Eb,0,none⟩=some (.slice va9 es.length vc9):=by simpa using hV.eb.cell 0
   go_wp2_with fail
   have hdr:Below u2.heap.size u2 u2.drew:=by go_grown
   refine wp_region_held_drew (S:=(fun w'=>u2.heap.size≤w'.heap.size)) (by kernel_rfl) (Nat.le_refl _) (fun hS0=>?_)
   refine tkm 1 26 (.int .i64 (k:Int)) ?_
   replace hV:=hV.below hdr
   replace mc:=mc.below hdr
   replace li:=li.below hdr
   replace kp:=kp.belowR hdr
   replace bl:=Zb bl hdr
   replace pZ2:=pZ2.below hdr
   replace hEc:=Za hdr _ _ hEc
   clear hdr
   generalize u2.drew=D0 at *
   refine wpAnyH_ready (rs:=[0,2]) (by kernel_rfl) (by simp) ?_
   refine AllReadyH.cons (o:=⟨some 25,_,_,_,_,_⟩) rfl (fun K hK=>?_) (AllReadyH.cons (o:=⟨some 27,_,_,_,_,_⟩) rfl (fun K hK=>?_) AllReadyH.nil)
   ·go_simp
    refine hK.out _ _ hS0 (fun hS2=>?_)
    clear hK hS2
    try simp only [Act.put,tka,tkb,tkc]
    refine tkr 2 27 (fun K hK=>?_)
    have kAx:=kA D0 bl mc
    go_simp
    refine kAx.mono ?_
    rintro e D1 ⟨rfl,hb⟩
    replace hV:=hV.below hb
    replace mc:=mc.below hb
    replace li:=li.below hb
    replace kp:=kp.belowR hb
    replace bl:=Zb bl hb
    replace pZ2:=pZ2.below hb
    replace hEc:=Za hb _ _ hEc
    go_wp2_with fail
    refine hK.out _ _ (Nat.le_trans hS0 hb.size) (fun hS1=>?_)
    replace hS0:=hS1
    clear hK kAx hb hS1
    try simp only [Act.put,tka,tkb,tkc]
    refine tkr 3 28 (fun K hK=>?_)
    have hb:Below D1.heap.size D1 (D1.alloc (.cells #[.int .i64 e0,.int .i64 e1,.int .i64 e2,.int .i64 e3] 135)):=by go_grown
    have pG:Blk (D1.alloc (.cells #[.int .i64 e0,.int .i64 e1,.int .i64 e2,.int .i64 e3] 135)) D1.heap.size 135 [.int .i64 e0,.int .i64 e1,.int .i64 e2,.int .i64 e3]:=Zo _ _ _ rfl
    replace hV:=hV.below hb
    replace mc:=mc.below hb
    replace li:=li.below hb
    replace kp:=kp.belowR hb
    replace bl:=Zb bl hb
    replace pZ2:=pZ2.below hb
    replace hEc:=Za hb _ _ hEc
    go_simp
    refine hK.out _ _ (Nat.le_trans hS0 hb.size) (fun hS3=>?_)
    replace hS0:=hS3
    clear hK hb hS3
    generalize (D1.alloc (.cells #[.int .i64 e0,.int .i64 e1,.int .i64 e2,.int .i64 e3] 135))=D3 at *
    generalize D1.heap.size=G at *
    try simp only [Act.put,tka,tkb,tkc]
    clear hEc kA
    refine tkr 4 29 (fun K hK=>?_)
    have hbs:=bl.size
    have er:=hV.er
    refine Xs rfl _ _ 78 rfl wb.heap.size 135 i0 (.agg #[.int .i64 0,.int .i64 0,.int .i64 0,.int .i64 0]) 4 32 Tryz.underlying78 hi9 hz0 hz1 hz2 rfl (by decide) (.slice va9 es.length vc9) es.length (Yu es) rfl er ⟨G,0,none⟩ 1 1 [.int .i64 e0,.int .i64 e1,.int .i64 e2,.int .i64 e3] rfl rfl (Ww pG) (by simp [Value.oneCell']) (by unfold maxLen;omega) (by omega) hbs ?_
    intro v4 D4 q4 gr hob
    have q5:D4.ownsRow wb.heap.size 135 4 v4 (es++[(e0,e1,e2,e3)]).length (Yu (es++[(e0,e1,e2,e3)])):=by
     rw [Xl,List.length_append]
     exact q4
    have tb:=hV.tb.kept gr (Zg er hV.tb (by decide))
    have eb:=hV.eb.kept gr (Zg er hV.eb (by decide))
    have vb:=hV.vb.kept gr (Zg er hV.vb (by decide))
    have fb:=hV.fb.kept gr (Zg er hV.fb (by decide))
    have mp:=hV.mp.kept gr (hV.mp.own er)
    replace mc:=mc.kept gr (Zg er mc (by decide))
    replace pZ2:=pZ2.kept gr (Zg er pZ2 (by decide))
    replace li:ZG D4 bL (some ⟨lb,lo,none⟩,ln,lc) (Zj rows m 3):=World.ownsRow.kept li gr (Ap3.types li er (by decide)).or
    have mv4:=UT mv kp.size hob
    replace kp:=kp.grV mv gr
    replace bl:=bl.grown gr bl.size (fun q hq=>(ZM er hq).1)
    refine hK.out _ _ (Nat.le_trans hS0 gr.size) (fun hS4=>?_)
    replace hS0:=hS4
    clear hK hS4 q4 gr hob er hV mv pG hbs
    try simp only [Act.put,tka,tkb,tkc]
    refine tkz 5 (fun K hK=>?_)
    have cE4:D4.cell? ⟨Eb,0,none⟩=some (.slice va9 es.length vc9):=by simpa using eb.cell 0
    have fE4:=eb.frozen 0
    have gE:=Zu D4 Eb 0 v4
    have eb5:Blk (D4.setCell ⟨Eb,0,none⟩ v4) Eb 78 [v4]:=eb.set 0 v4
    have hV5:Qo (D4.setCell ⟨Eb,0,none⟩ v4) wb.heap.size Tb Eb Vb Fb nb (es++[(e0,e1,e2,e3)]) v4 (fs++tlF rows f m ls i):=by
     have n1:=ZJ eb tb (by decide)
     have n3:=ZJ eb vb (by decide)
     have n4:=ZJ eb fb (by decide)
     have n5:=mp.blk eb
     exact ⟨tb.kept gE (by simp;exact n1),eb5,vb.kept gE (by simp;exact n3),fb.kept gE (by simp;exact n4),q5.kept gE (.inr (Zg q5 eb (by decide))),mp.kept gE (by simp;exact n5)⟩
    replace mc:=mc.kept gE (by simp;exact ZJ eb mc (by decide))
    replace pZ2:=pZ2.kept gE (by simp;exact ZJ eb pZ2 (by decide))
    replace li:ZG (D4.setCell ⟨Eb,0,none⟩ v4) bL (some ⟨lb,lo,none⟩,ln,lc) (Zj rows m 3):=World.ownsRow.kept li gE (.inr (Zg li eb (by decide)))
    replace kp:=kp.grE gE
    replace bl:=bl.grown gE bl.size (fun q e=>by cases e;exact hBE)
    obtain ⟨vg,vk,hv4⟩:=UJ q5 (by simp)
    rw [show (es++[(e0,e1,e2,e3)]).length=es.length+1 by simp] at hv4
    subst hv4
    go_simp
    refine hK.out _ _ (Nat.le_trans hS0 gE.size) (fun hS5=>?_)
    clear hK hS5 hS0 cE4 fE4 gE eb5 tb eb vb fb mp q5
    generalize (D4.setCell ⟨Eb,0,none⟩ (.slice (some ⟨vg,0,none⟩) (es.length+1) vk))=D5 at *
    try simp only [Act.put,tka,tkb,tkc]
    refine wpAnyH_done (by kernel_rfl) ?_ _
    have cV:D5.cell? ⟨Vb,0,none⟩=some (.func (.func 68) #[] #[.pointer (some ⟨Tb,0,none⟩),.pointer (some ⟨Eb,0,none⟩),.pointer (some ⟨Vb,0,none⟩)]):=by simpa using hV5.vb.cell 0
    have kVx:=kV D5 _ bl hV5
    clear kV
    go_wp2_with (first | refine Zc rfl 69 _ rfl N rfl pZ2 _ Tryz.underlying69 rfl (by kernel_rfl) ?_)
    refine kVx.mono ?_
    rintro e D6 ⟨rfl,ev6,hV6,mv6,kp6⟩
    have mc6:=kp6.blk hV5.er hV5.eb hV5.mp mc (by decide) (by decide)
    have li6:ZG D6 bL (some ⟨lb,lo,none⟩,ln,lc) (Zj rows m 3):=kp6.row hV5.er hV5.eb hV5.mp li
    have bl6:Below wb.heap.size wb D6:=bl.trans (kp6.below hBE hBn (fun q hq=>(ZM hV5.er hq).1) bl.size)
    have kp7:=kp.call mv4 kp6
    have mv7:=mv4.trans kp.size mv6
    clear kVx cV mc li bl kp mv4 mv6 kp6 hV5 pZ2
    obtain ⟨xg,xk,rfl⟩:=UJ hV6.er (by simp)
    have hln:(es++[(e0,e1,e2,e3)]).length=es.length+1:=by simp
    rw [HEQ.out _ rfl] at hV6
    obtain ⟨tb,eb,vb,fb,er,mp⟩:=hV6
    rw [hln] at eb er mv7
    rw [Xl] at er
    have er7:=PU er (by rw [Uo])
    have cE6:D6.cell? ⟨Eb,0,none⟩=some (.slice (some ⟨xg,0,none⟩) (es.length+1) xk):=by simpa using eb.cell 0
    have fE6:=eb.frozen 0
    have hxk:es.length+1≤xk:=by
     rcases er.2 with ⟨h1,_⟩ | ⟨gq,cq,cur,h1,_,_,h4,_⟩
     ·cases h1
     cases h1;exact h4
    have hsl:∀ W,(Instr.slice 78 (.slice (some ⟨xg,0,none⟩) (es.length+1) xk) none (some (.int .i64 (es.length:Int))) none).run Tryz.prog W=.ok (.slice (some ⟨xg,0,none⟩) es.length xk) W:=fun W=>by
     have h8:(es.length:Int)≤(xk:Int):=by omega
     go_simp
     try omega
    have gE:=Zu D6 Eb 0 (.slice (some ⟨xg,0,none⟩) es.length xk)
    have st9:JF rows wb w (D6.setCell ⟨Eb,0,none⟩ (.slice (some ⟨xg,0,none⟩) es.length xk)) Tb Eb Vb Fb nb g bL f cs m ls (.slice va es.length vc) (some ⟨lb,lo,none⟩,ln,lc) fs (i+1):=by
     refine ⟨⟨.slice (some ⟨xg,0,none⟩) es.length xk,?_,?_⟩,mc6.kept gE (by simp;exact ZJ eb mc6 (by decide)),World.ownsRow.kept li6 gE (.inr (Zg li6 eb (by decide))),kp7.grE gE,bl6.grown gE bl6.size (fun q e=>by cases e;exact hBE)⟩
     ·rw [hes]
      have n1:=ZJ eb tb (by decide)
      have n3:=ZJ eb vb (by decide)
      have n4:=ZJ eb fb (by decide)
      have n5:=mp.blk eb
      exact ⟨tb.kept gE (by simp;exact n1),eb.set 0 _,vb.kept gE (by simp;exact n3),fb.kept gE (by simp;exact n4),er7.kept gE (.inr (Zg er7 eb (by decide))),mp.kept gE (by simp;exact n5)⟩
     rcases mv7 with h9 | ⟨q,hq,h9⟩
     ·exact .inl (by rw [← h9];rfl)
     exact .inr ⟨q,hq,by rw [← h9];rfl⟩
    have hl8:((es.length:Int)+1 - 1)=(es.length:Int):=by omega
    have hl7:(es.length:Int)≤60:=by omega
    clear tb eb vb fb er mp er7 mc6 li6 bl6 kp7 mv7 HEQ hln gE hxk
    go_wp2
    go_roundw
    case rel=>exact ⟨i+1,by go_num,by omega,st9⟩
    case measure=>simp [Go.RowKit.intOf];omega
   have kAx:=kA D0 bl mc
   go_simp
   refine kAx.mono ?_
   rintro e D1 ⟨rfl,hb⟩
   replace hV:=hV.below hb
   replace mc:=mc.below hb
   replace li:=li.below hb
   replace kp:=kp.belowR hb
   replace bl:=Zb bl hb
   replace pZ2:=pZ2.below hb
   replace hEc:=Za hb _ _ hEc
   go_wp2_with fail
   refine hK.out _ _ (Nat.le_trans hS0 hb.size) (fun hS1=>?_)
   replace hS0:=hS1
   clear hK kAx hb hS1
   try simp only [Act.put,tka,tkb,tkc]
   refine wpAnyH_ready (rs:=[0,3]) (by kernel_rfl) (by simp) ?_
   refine AllReadyH.cons (o:=⟨some 25,_,_,_,_,_⟩) rfl (fun K hK=>?_) (AllReadyH.cons (o:=⟨some 28,_,_,_,_,_⟩) rfl (fun K hK=>?_) AllReadyH.nil)
   ·go_simp
    refine hK.out _ _ hS0 (fun hS2=>?_)
    clear hK hS2
    try simp only [Act.put,tka,tkb,tkc]
    refine tkr 3 28 (fun K hK=>?_)
    have hb:Below D1.heap.size D1 (D1.alloc (.cells #[.int .i64 e0,.int .i64 e1,.int .i64 e2,.int .i64 e3] 135)):=by go_grown
    have pG:Blk (D1.alloc (.cells #[.int .i64 e0,.int .i64 e1,.int .i64 e2,.int .i64 e3] 135)) D1.heap.size 135 [.int .i64 e0,.int .i64 e1,.int .i64 e2,.int .i64 e3]:=Zo _ _ _ rfl
    replace hV:=hV.below hb
    replace mc:=mc.below hb
    replace li:=li.below hb
    replace kp:=kp.belowR hb
    replace bl:=Zb bl hb
    replace pZ2:=pZ2.below hb
    replace hEc:=Za hb _ _ hEc
    go_simp
    refine hK.out _ _ (Nat.le_trans hS0 hb.size) (fun hS3=>?_)
    replace hS0:=hS3
    clear hK hb hS3
    generalize (D1.alloc (.cells #[.int .i64 e0,.int .i64 e1,.int .i64 e2,.int .i64 e3] 135))=D3 at *
    generalize D1.heap.size=G at *
    try simp only [Act.put,tka,tkb,tkc]
    clear hEc kA
    refine tkr 4 29 (fun K hK=>?_)
    have hbs:=bl.size
    have er:=hV.er
    refine Xs rfl _ _ 78 rfl wb.heap.size 135 i0 (.agg #[.int .i64 0,.int .i64 0,.int .i64 0,.int .i64 0]) 4 32 Tryz.underlying78 hi9 hz0 hz1 hz2 rfl (by decide) (.slice va9 es.length vc9) es.length (Yu es) rfl er ⟨G,0,none⟩ 1 1 [.int .i64 e0,.int .i64 e1,.int .i64 e2,.int .i64 e3] rfl rfl (Ww pG) (by simp [Value.oneCell']) (by unfold maxLen;omega) (by omega) hbs ?_
    intro v4 D4 q4 gr hob
    have q5:D4.ownsRow wb.heap.size 135 4 v4 (es++[(e0,e1,e2,e3)]).length (Yu (es++[(e0,e1,e2,e3)])):=by
     rw [Xl,List.length_append]
     exact q4
    have tb:=hV.tb.kept gr (Zg er hV.tb (by decide))
    have eb:=hV.eb.kept gr (Zg er hV.eb (by decide))
    have vb:=hV.vb.kept gr (Zg er hV.vb (by decide))
    have fb:=hV.fb.kept gr (Zg er hV.fb (by decide))
    have mp:=hV.mp.kept gr (hV.mp.own er)
    replace mc:=mc.kept gr (Zg er mc (by decide))
    replace pZ2:=pZ2.kept gr (Zg er pZ2 (by decide))
    replace li:ZG D4 bL (some ⟨lb,lo,none⟩,ln,lc) (Zj rows m 3):=World.ownsRow.kept li gr (Ap3.types li er (by decide)).or
    have mv4:=UT mv kp.size hob
    replace kp:=kp.grV mv gr
    replace bl:=bl.grown gr bl.size (fun q hq=>(ZM er hq).1)
    refine hK.out _ _ (Nat.le_trans hS0 gr.size) (fun hS4=>?_)
    replace hS0:=hS4
    clear hK hS4 q4 gr hob er hV mv pG hbs
    try simp only [Act.put,tka,tkb,tkc]
    refine tkz 5 (fun K hK=>?_)
    have cE4:D4.cell? ⟨Eb,0,none⟩=some (.slice va9 es.length vc9):=by simpa using eb.cell 0
    have fE4:=eb.frozen 0
    have gE:=Zu D4 Eb 0 v4
    have eb5:Blk (D4.setCell ⟨Eb,0,none⟩ v4) Eb 78 [v4]:=eb.set 0 v4
    have hV5:Qo (D4.setCell ⟨Eb,0,none⟩ v4) wb.heap.size Tb Eb Vb Fb nb (es++[(e0,e1,e2,e3)]) v4 (fs++tlF rows f m ls i):=by
     have n1:=ZJ eb tb (by decide)
     have n3:=ZJ eb vb (by decide)
     have n4:=ZJ eb fb (by decide)
     have n5:=mp.blk eb
     exact ⟨tb.kept gE (by simp;exact n1),eb5,vb.kept gE (by simp;exact n3),fb.kept gE (by simp;exact n4),q5.kept gE (.inr (Zg q5 eb (by decide))),mp.kept gE (by simp;exact n5)⟩
    replace mc:=mc.kept gE (by simp;exact ZJ eb mc (by decide))
    replace pZ2:=pZ2.kept gE (by simp;exact ZJ eb pZ2 (by decide))
    replace li:ZG (D4.setCell ⟨Eb,0,none⟩ v4) bL (some ⟨lb,lo,none⟩,ln,lc) (Zj rows m 3):=World.ownsRow.kept li gE (.inr (Zg li eb (by decide)))
    replace kp:=kp.grE gE
    replace bl:=bl.grown gE bl.size (fun q e=>by cases e;exact hBE)
    obtain ⟨vg,vk,hv4⟩:=UJ q5 (by simp)
    rw [show (es++[(e0,e1,e2,e3)]).length=es.length+1 by simp] at hv4
    subst hv4
    go_simp
    refine hK.out _ _ (Nat.le_trans hS0 gE.size) (fun hS5=>?_)
    clear hK hS5 hS0 cE4 fE4 gE eb5 tb eb vb fb mp q5
    generalize (D4.setCell ⟨Eb,0,none⟩ (.slice (some ⟨vg,0,none⟩) (es.length+1) vk))=D5 at *
    try simp only [Act.put,tka,tkb,tkc]
    refine wpAnyH_done (by kernel_rfl) ?_ _
    have cV:D5.cell? ⟨Vb,0,none⟩=some (.func (.func 68) #[] #[.pointer (some ⟨Tb,0,none⟩),.pointer (some ⟨Eb,0,none⟩),.pointer (some ⟨Vb,0,none⟩)]):=by simpa using hV5.vb.cell 0
    have kVx:=kV D5 _ bl hV5
    clear kV
    go_wp2_with (first | refine Zc rfl 69 _ rfl N rfl pZ2 _ Tryz.underlying69 rfl (by kernel_rfl) ?_)
    refine kVx.mono ?_
    rintro e D6 ⟨rfl,ev6,hV6,mv6,kp6⟩
    have mc6:=kp6.blk hV5.er hV5.eb hV5.mp mc (by decide) (by decide)
    have li6:ZG D6 bL (some ⟨lb,lo,none⟩,ln,lc) (Zj rows m 3):=kp6.row hV5.er hV5.eb hV5.mp li
    have bl6:Below wb.heap.size wb D6:=bl.trans (kp6.below hBE hBn (fun q hq=>(ZM hV5.er hq).1) bl.size)
    have kp7:=kp.call mv4 kp6
    have mv7:=mv4.trans kp.size mv6
    clear kVx cV mc li bl kp mv4 mv6 kp6 hV5 pZ2
    obtain ⟨xg,xk,rfl⟩:=UJ hV6.er (by simp)
    have hln:(es++[(e0,e1,e2,e3)]).length=es.length+1:=by simp
    rw [HEQ.out _ rfl] at hV6
    obtain ⟨tb,eb,vb,fb,er,mp⟩:=hV6
    rw [hln] at eb er mv7
    rw [Xl] at er
    have er7:=PU er (by rw [Uo])
    have cE6:D6.cell? ⟨Eb,0,none⟩=some (.slice (some ⟨xg,0,none⟩) (es.length+1) xk):=by simpa using eb.cell 0
    have fE6:=eb.frozen 0
    have hxk:es.length+1≤xk:=by
     rcases er.2 with ⟨h1,_⟩ | ⟨gq,cq,cur,h1,_,_,h4,_⟩
     ·cases h1
     cases h1;exact h4
    have hsl:∀ W,(Instr.slice 78 (.slice (some ⟨xg,0,none⟩) (es.length+1) xk) none (some (.int .i64 (es.length:Int))) none).run Tryz.prog W=.ok (.slice (some ⟨xg,0,none⟩) es.length xk) W:=fun W=>by
     have h8:(es.length:Int)≤(xk:Int):=by omega
     go_simp
     try omega
    have gE:=Zu D6 Eb 0 (.slice (some ⟨xg,0,none⟩) es.length xk)
    have st9:JF rows wb w (D6.setCell ⟨Eb,0,none⟩ (.slice (some ⟨xg,0,none⟩) es.length xk)) Tb Eb Vb Fb nb g bL f cs m ls (.slice va es.length vc) (some ⟨lb,lo,none⟩,ln,lc) fs (i+1):=by
     refine ⟨⟨.slice (some ⟨xg,0,none⟩) es.length xk,?_,?_⟩,mc6.kept gE (by simp;exact ZJ eb mc6 (by decide)),World.ownsRow.kept li6 gE (.inr (Zg li6 eb (by decide))),kp7.grE gE,bl6.grown gE bl6.size (fun q e=>by cases e;exact hBE)⟩
     ·rw [hes]
      have n1:=ZJ eb tb (by decide)
      have n3:=ZJ eb vb (by decide)
      have n4:=ZJ eb fb (by decide)
      have n5:=mp.blk eb
      exact ⟨tb.kept gE (by simp;exact n1),eb.set 0 _,vb.kept gE (by simp;exact n3),fb.kept gE (by simp;exact n4),er7.kept gE (.inr (Zg er7 eb (by decide))),mp.kept gE (by simp;exact n5)⟩
     rcases mv7 with h9 | ⟨q,hq,h9⟩
     ·exact .inl (by rw [← h9];rfl)
     exact .inr ⟨q,hq,by rw [← h9];rfl⟩
    have hl8:((es.length:Int)+1 - 1)=(es.length:Int):=by omega
    have hl7:(es.length:Int)≤60:=by omega
    clear tb eb vb fb er mp er7 mc6 li6 bl6 kp7 mv7 HEQ hln gE hxk
    go_wp2
    go_roundw
    case rel=>exact ⟨i+1,by go_num,by omega,st9⟩
    case measure=>simp [Go.RowKit.intOf];omega
   have hb:Below D1.heap.size D1 (D1.alloc (.cells #[.int .i64 e0,.int .i64 e1,.int .i64 e2,.int .i64 e3] 135)):=by go_grown
   have pG:Blk (D1.alloc (.cells #[.int .i64 e0,.int .i64 e1,.int .i64 e2,.int .i64 e3] 135)) D1.heap.size 135 [.int .i64 e0,.int .i64 e1,.int .i64 e2,.int .i64 e3]:=Zo _ _ _ rfl
   replace hV:=hV.below hb
   replace mc:=mc.below hb
   replace li:=li.below hb
   replace kp:=kp.belowR hb
   replace bl:=Zb bl hb
   replace pZ2:=pZ2.below hb
   replace hEc:=Za hb _ _ hEc
   go_simp
   refine hK.out _ _ (Nat.le_trans hS0 hb.size) (fun hS3=>?_)
   replace hS0:=hS3
   clear hK hb hS3
   generalize (D1.alloc (.cells #[.int .i64 e0,.int .i64 e1,.int .i64 e2,.int .i64 e3] 135))=D3 at *
   generalize D1.heap.size=G at *
   try simp only [Act.put,tka,tkb,tkc]
   refine tkr 0 25 (fun K hK=>?_)
   go_simp
   refine hK.out _ _ hS0 (fun hS2=>?_)
   clear hK hS2
   try simp only [Act.put,tka,tkb,tkc]
   clear hEc kA
   refine tkr 4 29 (fun K hK=>?_)
   have hbs:=bl.size
   have er:=hV.er
   refine Xs rfl _ _ 78 rfl wb.heap.size 135 i0 (.agg #[.int .i64 0,.int .i64 0,.int .i64 0,.int .i64 0]) 4 32 Tryz.underlying78 hi9 hz0 hz1 hz2 rfl (by decide) (.slice va9 es.length vc9) es.length (Yu es) rfl er ⟨G,0,none⟩ 1 1 [.int .i64 e0,.int .i64 e1,.int .i64 e2,.int .i64 e3] rfl rfl (Ww pG) (by simp [Value.oneCell']) (by unfold maxLen;omega) (by omega) hbs ?_
   intro v4 D4 q4 gr hob
   have q5:D4.ownsRow wb.heap.size 135 4 v4 (es++[(e0,e1,e2,e3)]).length (Yu (es++[(e0,e1,e2,e3)])):=by
    rw [Xl,List.length_append]
    exact q4
   have tb:=hV.tb.kept gr (Zg er hV.tb (by decide))
   have eb:=hV.eb.kept gr (Zg er hV.eb (by decide))
   have vb:=hV.vb.kept gr (Zg er hV.vb (by decide))
   have fb:=hV.fb.kept gr (Zg er hV.fb (by decide))
   have mp:=hV.mp.kept gr (hV.mp.own er)
   replace mc:=mc.kept gr (Zg er mc (by decide))
   replace pZ2:=pZ2.kept gr (Zg er pZ2 (by decide))
   replace li:ZG D4 bL (some ⟨lb,lo,none⟩,ln,lc) (Zj rows m 3):=World.ownsRow.kept li gr (Ap3.types li er (by decide)).or
   have mv4:=UT mv kp.size hob
   replace kp:=kp.grV mv gr
   replace bl:=bl.grown gr bl.size (fun q hq=>(ZM er hq).1)
   refine hK.out _ _ (Nat.le_trans hS0 gr.size) (fun hS4=>?_)
   replace hS0:=hS4
   clear hK hS4 q4 gr hob er hV mv pG hbs
   try simp only [Act.put,tka,tkb,tkc]
   refine tkz 5 (fun K hK=>?_)
   have cE4:D4.cell? ⟨Eb,0,none⟩=some (.slice va9 es.length vc9):=by simpa using eb.cell 0
   have fE4:=eb.frozen 0
   have gE:=Zu D4 Eb 0 v4
   have eb5:Blk (D4.setCell ⟨Eb,0,none⟩ v4) Eb 78 [v4]:=eb.set 0 v4
   have hV5:Qo (D4.setCell ⟨Eb,0,none⟩ v4) wb.heap.size Tb Eb Vb Fb nb (es++[(e0,e1,e2,e3)]) v4 (fs++tlF rows f m ls i):=by
    have n1:=ZJ eb tb (by decide)
    have n3:=ZJ eb vb (by decide)
    have n4:=ZJ eb fb (by decide)
    have n5:=mp.blk eb
    exact ⟨tb.kept gE (by simp;exact n1),eb5,vb.kept gE (by simp;exact n3),fb.kept gE (by simp;exact n4),q5.kept gE (.inr (Zg q5 eb (by decide))),mp.kept gE (by simp;exact n5)⟩
   replace mc:=mc.kept gE (by simp;exact ZJ eb mc (by decide))
   replace pZ2:=pZ2.kept gE (by simp;exact ZJ eb pZ2 (by decide))
   replace li:ZG (D4.setCell ⟨Eb,0,none⟩ v4) bL (some ⟨lb,lo,none⟩,ln,lc) (Zj rows m 3):=World.ownsRow.kept li gE (.inr (Zg li eb (by decide)))
   replace kp:=kp.grE gE
   replace bl:=bl.grown gE bl.size (fun q e=>by cases e;exact hBE)
   obtain ⟨vg,vk,hv4⟩:=UJ q5 (by simp)
   rw [show (es++[(e0,e1,e2,e3)]).length=es.length+1 by simp] at hv4
   subst hv4
   go_simp
   refine hK.out _ _ (Nat.le_trans hS0 gE.size) (fun hS5=>?_)
   clear hK hS5 hS0 cE4 fE4 gE eb5 tb eb vb fb mp q5
   generalize (D4.setCell ⟨Eb,0,none⟩ (.slice (some ⟨vg,0,none⟩) (es.length+1) vk))=D5 at *
   try simp only [Act.put,tka,tkb,tkc]
   refine wpAnyH_done (by kernel_rfl) ?_ _
   have cV:D5.cell? ⟨Vb,0,none⟩=some (.func (.func 68) #[] #[.pointer (some ⟨Tb,0,none⟩),.pointer (some ⟨Eb,0,none⟩),.pointer (some ⟨Vb,0,none⟩)]):=by simpa using hV5.vb.cell 0
   have kVx:=kV D5 _ bl hV5
   clear kV
   go_wp2_with (first | refine Zc rfl 69 _ rfl N rfl pZ2 _ Tryz.underlying69 rfl (by kernel_rfl) ?_)
   refine kVx.mono ?_
   rintro e D6 ⟨rfl,ev6,hV6,mv6,kp6⟩
   have mc6:=kp6.blk hV5.er hV5.eb hV5.mp mc (by decide) (by decide)
   have li6:ZG D6 bL (some ⟨lb,lo,none⟩,ln,lc) (Zj rows m 3):=kp6.row hV5.er hV5.eb hV5.mp li
   have bl6:Below wb.heap.size wb D6:=bl.trans (kp6.below hBE hBn (fun q hq=>(ZM hV5.er hq).1) bl.size)
   have kp7:=kp.call mv4 kp6
   have mv7:=mv4.trans kp.size mv6
   clear kVx cV mc li bl kp mv4 mv6 kp6 hV5 pZ2
   obtain ⟨xg,xk,rfl⟩:=UJ hV6.er (by simp)
   have hln:(es++[(e0,e1,e2,e3)]).length=es.length+1:=by simp
   rw [HEQ.out _ rfl] at hV6
   obtain ⟨tb,eb,vb,fb,er,mp⟩:=hV6
   rw [hln] at eb er mv7
   rw [Xl] at er
   have er7:=PU er (by rw [Uo])
   have cE6:D6.cell? ⟨Eb,0,none⟩=some (.slice (some ⟨xg,0,none⟩) (es.length+1) xk):=by simpa using eb.cell 0
   have fE6:=eb.frozen 0
   have hxk:es.length+1≤xk:=by
    rcases er.2 with ⟨h1,_⟩ | ⟨gq,cq,cur,h1,_,_,h4,_⟩
    ·cases h1
    cases h1;exact h4
   have hsl:∀ W,(Instr.slice 78 (.slice (some ⟨xg,0,none⟩) (es.length+1) xk) none (some (.int .i64 (es.length:Int))) none).run Tryz.prog W=.ok (.slice (some ⟨xg,0,none⟩) es.length xk) W:=fun W=>by
    have h8:(es.length:Int)≤(xk:Int):=by omega
    go_simp
    try omega
   have gE:=Zu D6 Eb 0 (.slice (some ⟨xg,0,none⟩) es.length xk)
   have st9:JF rows wb w (D6.setCell ⟨Eb,0,none⟩ (.slice (some ⟨xg,0,none⟩) es.length xk)) Tb Eb Vb Fb nb g bL f cs m ls (.slice va es.length vc) (some ⟨lb,lo,none⟩,ln,lc) fs (i+1):=by
    refine ⟨⟨.slice (some ⟨xg,0,none⟩) es.length xk,?_,?_⟩,mc6.kept gE (by simp;exact ZJ eb mc6 (by decide)),World.ownsRow.kept li6 gE (.inr (Zg li6 eb (by decide))),kp7.grE gE,bl6.grown gE bl6.size (fun q e=>by cases e;exact hBE)⟩
    ·rw [hes]
     have n1:=ZJ eb tb (by decide)
     have n3:=ZJ eb vb (by decide)
     have n4:=ZJ eb fb (by decide)
     have n5:=mp.blk eb
     exact ⟨tb.kept gE (by simp;exact n1),eb.set 0 _,vb.kept gE (by simp;exact n3),fb.kept gE (by simp;exact n4),er7.kept gE (.inr (Zg er7 eb (by decide))),mp.kept gE (by simp;exact n5)⟩
    rcases mv7 with h9 | ⟨q,hq,h9⟩
    ·exact .inl (by rw [← h9];rfl)
    exact .inr ⟨q,hq,by rw [← h9];rfl⟩
   have hl8:((es.length:Int)+1 - 1)=(es.length:Int):=by omega
   have hl7:(es.length:Int)≤60:=by omega
   clear tb eb vb fb er mp er7 mc6 li6 bl6 kp7 mv7 HEQ hln gE hxk
   go_wp2
   go_roundw
   case rel=>exact ⟨i+1,by go_num,by omega,st9⟩
   case measure=>simp [Go.RowKit.intOf];omega
  have hge:¬ (i:Int)<(ln:Int):=by omega
  have HG:Hid (Pm (.returned (.tuple #[])) w wr wb.heap.size Tb Eb Vb Fb nb es (.slice va es.length vc) (fs++(rnF rows (f+1) m).map fun ks=>nfG rows (ls++ks))):=by
   rw [Hid,← HND.out i (by omega)]
   exact ⟨rfl,evi,hV,mv,kp⟩
  clear hV mv mc li kp bl
  go_wp2
  go_end0
  exact HG.out
theorem Nh {rows:List (List I3)} {wb:World} {Tb Eb Vb Fb nb:Nat} {cs:Sl × Sl × Sl} (hp:Zn rows=true) (hI:∀ k,k<3→ZK wb (slK cs k).1 (slK cs k).2.1 (slK cs k).2.2 (Yn rows k)) (hBE:wb.heap.size≤Eb) (hBn:wb.heap.size≤nb):∀ f,JH rows wb Tb Eb Vb Fb nb cs f
 | 0=>fun m ls fs hs hf=>by omega
 | f+1=>H9 hp hI hBE hBn (Nh hp hI hBE hBn f)
end Go.Proofs.YtmhlokahmblboaaGreatDoor
