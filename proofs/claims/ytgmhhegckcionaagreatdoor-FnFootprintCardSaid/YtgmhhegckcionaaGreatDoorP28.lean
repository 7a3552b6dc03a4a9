/-
  Joined: RwI, MapI, MrgI, MgiI, FftP, FulC, StrP, Ent0.
-/
import Derived.Maps.OwnOps
import Derived.Maps.Own
import Derived.Shelf.SlIterI.Nil
import Derived.Shelf.SortM.Plain
import Derived.Shelf.SortM.SortNone
import Derived.Laws.Strings
import Derived.Test.YtgmhhegckcionaaGreatDoorP26
import Derived.Test.YtgmhhegckcionaaGreatDoorP27

namespace Go.Proofs.YtgmhhegckcionaaGreatDoor
set_option maxRecDepth 100000
set_option maxHeartbeats 16000000
open Go.RowKit
set_option linter.unusedVariables false
set_option linter.unusedSimpArgs false

def IsL (w:World) (v:Value) (xs:List Int):Prop:=∃ la ln lc,v=.slice la ln lc∧Ints .i64 w la ln lc xs
theorem IsL.below {w w':World} {v:Value} {xs:List Int} (h:IsL w v xs) (hb:Below w.heap.size w w'):IsL w' v xs:=by
 obtain ⟨la,ln,lc,rfl,hi⟩:=h
 exact ⟨la,ln,lc,rfl,hi.below hb⟩
def AllL (w:World) (vs:List Value) (xss:List (List Int)):Prop:=vs.length=xss.length∧∀ t,t<xss.length→IsL w (vs.getD t undef) (xss.getD t [])
theorem AllL.below {w w':World} {vs:List Value} {xss:List (List Int)} (h:AllL w vs xss) (hb:Below w.heap.size w w'):AllL w' vs xss:=⟨h.1,fun t ht=>(h.2 t ht).below hb⟩
theorem AllL.nil (w:World):AllL w [] []:=⟨rfl,fun t ht=>by simp at ht⟩
theorem AllL.snoc {w:World} {vs:List Value} {xss:List (List Int)} {v:Value} {xs:List Int} (h:AllL w vs xss) (hv:IsL w v xs):AllL w (vs++[v]) (xss++[xs]):=by
 refine ⟨by simp [h.1],fun t ht=>?_⟩
 by_cases h9:t<xss.length
 ·have e1:(vs++[v]).getD t undef=vs.getD t undef:=by simp [List.getD,List.getElem?_append_left (show t<vs.length by have:=h.1;omega)]
  have e2:(xss++[xs]).getD t []=xss.getD t []:=by simp [List.getD,List.getElem?_append_left h9]
  rw [e1,e2]
  exact h.2 t h9
 ·have e9:t=xss.length:=by simp at ht;omega
  subst e9
  have e1:(vs++[v]).getD xss.length undef=v:=by rw [← h.1];simp [List.getD]
  have e2:(xss++[xs]).getD xss.length []=xs:=by simp [List.getD]
  rw [e1,e2]
  exact hv
def RowsI (w:World) (a:Option Addr) (n c:Nat) (xss:List (List Int)):Prop:=
 xss.length=n∧n≤c∧c≤maxLen∧∃ vs,AllL w vs xss∧(n=0∨∃ b off,a=some ⟨b,off,none⟩∧b<w.heap.size∧∀ t,t<n→w.cell? ⟨b,off+t,none⟩=some (vs.getD t undef))
theorem RowsI.below {w w':World} {a:Option Addr} {n c:Nat} {xss:List (List Int)} (h:RowsI w a n c xss) (hb:Below w.heap.size w w'):RowsI w' a n c xss:=by
 obtain ⟨h1,h2,h3,vs,h4,h5⟩:=h
 refine ⟨h1,h2,h3,vs,h4.below hb,?_⟩
 rcases h5 with h5 | ⟨b,off,h6,h7,h8⟩
 ·exact .inl h5
 ·exact .inr ⟨b,off,h6,Nat.lt_of_lt_of_le h7 hb.size,fun t ht=>by rw [hb.cell (p:=⟨b,off+t,none⟩) h7];exact h8 t ht⟩
theorem RowsI.cell {w:World} {a:Option Addr} {n c:Nat} {xss:List (List Int)} (h:RowsI w a n c xss) {t:Nat} (ht:t<n):∃ b off la ln lc,a=some ⟨b,off,none⟩∧w.cell? ⟨b,off+t,none⟩=some (.slice la ln lc)∧Ints .i64 w la ln lc (xss.getD t []):=by
 obtain ⟨h1,h2,h3,vs,h4,h5⟩:=h
 rcases h5 with h5 | ⟨b,off,h6,h7,h8⟩
 ·omega
 ·obtain ⟨la,ln,lc,e,hi⟩:=h4.2 t (by omega)
  exact ⟨b,off,la,ln,lc,h6,by rw [h8 t ht,e],hi⟩
theorem RowsI.own {w:World} {B n c:Nat} {a:Option Addr} {vs:List Value} {xss:List (List Int)} (h:w.ownsRow B 36 1 (.slice a n c) n vs) (hl:xss.length=n) (hA:AllL w vs xss):RowsI w a n c xss:=by
 rcases h.2 with ⟨e,h0⟩ | ⟨b,cc,cur,e,h1,h2,h3,h4⟩
 ·cases e
  exact ⟨by omega,by omega,by unfold maxLen;omega,vs,hA,.inl (by omega)⟩
 ·cases e
  refine ⟨hl,by omega,by omega,vs,hA,.inr ⟨b,0,rfl,(h.lt b rfl).2,fun t ht=>?_⟩⟩
  rw [Nat.zero_add,h.cellAt t (by omega)]
  have hq:=hA.1
  simp [List.getD,show t<vs.length by omega]


theorem law_int8:Maps.Keyed Tryz.prog 3:=Maps.int_keyed Tryz.underlying3
theorem zero_int8 (w:World):(zeroValue 3).run Tryz.prog w=.ok (.int .i64 0) w:=by kernel_rfl
structure SetD (D:DataW Unit) (xs:List Int):Prop where
 has:∀ x:Int,Maps.has D (.int .i64 x)=true↔x ∈ xs
 bnd:∀ x c:Int,D.atKey (.int .i64 x) (.lit (.int .i64 0))=.lit (.int .i64 c)→0≤c∧c≤xs.length
theorem SetD.start:SetD (.map []) []:=⟨fun t=>by simp [Maps.has],fun x c h=>by
 simp [DataW.atKey] at h
 subst h
 simp⟩
theorem lit_ne8 {s t:Int} (h:s≠t):(Lit.int .i64 s)≠Lit.int .i64 t:=fun e=>by
 injection e with _ e
 exact h e
theorem SetD.put {D:DataW Unit} {xs:List Int} (h:SetD D xs) (hm:Maps.IsMap D) {x c:Int} (hc0:0≤c) (hc:c≤xs.length) :
  SetD (D.put (.int .i64 x) (.lit (.int .i64 (c+1)))) (xs++[x]):=by
 have hkl:WideAt.IsKeyLit (.int .i64 x):=trivial
 refine ⟨fun t=>?_,fun y d hd=>?_⟩
 ·by_cases e:t=x
  ·subst e
   rw [Maps.has_put_same hm hkl]
   simp
  ·rw [Maps.has_put_other (lit_ne8 e),h.has]
   simp [e]
 ·by_cases e:y=x
  ·subst e
   rw [Maps.atKey_put_same hm hkl] at hd
   injection hd with hd
   injection hd with _ hd
   subst hd
   simp
   omega
  ·rw [Maps.atKey_put_other (lit_ne8 e)] at hd
   have:=h.bnd y d hd
   simp
   omega
theorem fits8 {z:Int} (h:0≤z) (h':z≤2000000000):(Lit.int .i64 z).wf=true:=by
 simp only [Lit.wf,Bool.and_eq_true,decide_eq_true_eq]
 have h1:IntKind.i64.min=-9223372036854775808:=by decide
 have h2:IntKind.i64.max=9223372036854775807:=by decide
 omega
theorem key_int8 {x:Int} (h:(Lit.int .i64 x).wf=true):keyOf Tryz.prog 3 (.int .i64 x)=some (.int .i64 x):=by
 simp [keyOf,Tryz.underlying3,mapKey,h]
def MapGot (e:Ending) (w':World) (B:Nat) (xs:List Int):Prop:=e=.returned (.map (some B))∧∃ D:DataW Unit,w'.ownsMap Tryz.prog 3 (plainElem Tryz.prog 3) B xs.length D∧SetD D xs

theorem flat_take {xss:List (List Int)} {i:Nat} (h:i<xss.length):(xss.take (i+1)).flatten=(xss.take i).flatten++xss.getD i []:=by
 have e:xss.getD i []=xss[i]:=by simp [List.getD,List.getElem?_eq_getElem h]
 rw [List.take_succ_eq_append_getElem h,List.flatten_append,e]
 simp only [List.flatten_cons,List.flatten_nil,List.append_nil]
theorem flat_len (xss:List (List Int)) (i:Nat):(xss.take i).flatten.length≤xss.flatten.length:=by
 conv=>rhs;rw [← List.take_append_drop i xss]
 rw [List.flatten_append,List.length_append]
 omega
theorem take_snoc8 {Z:List Int} {k:Nat} (h:k<Z.length):Z.take (k+1)=Z.take k++[Z.getD k 0]:=by
 rw [List.take_succ_eq_append_getElem h]
 simp [List.getD,List.getElem?_eq_getElem h]

theorem mapOf_is (a:Option Addr) (n c:Nat) (xss:List (List Int)) (w:World) (h:RowsI w a n c xss) (hn:n≤1000000) (hT:xss.flatten.length≤1000000000) (hF:∀ x ∈ xss.flatten,(Lit.int .i64 x).wf=true) :
  Calls Tryz.prog 102 #[.slice a n c] w fun e w'=>MapGot e w' w.heap.size xss.flatten∧Below w.heap.size w w':=by
 have hmm:=@run_makeMap Tryz.prog
 have hl:=h.1
 have hm0:(w.alloc (.map #[] 0)).ownsMap Tryz.prog 3 (plainElem Tryz.prog 3) w.heap.size 0 (.map []:DataW Unit):=World.ownsMap_made (H:=Unit) w Tryz.prog 3 (plainElem Tryz.prog 3)
 have hb0:Below w.heap.size w (w.alloc (.map #[] 0)):=⟨rfl,rfl,rfl,by simp,fun k hk=>Below.heap_alloc w _ k hk⟩
 obtain ⟨R,hR⟩:∃ R:World→Nat→List Int→Prop,∀ wr tot xs,R wr tot xs↔(∃ D:DataW Unit,wr.ownsMap Tryz.prog 3 (plainElem Tryz.prog 3) w.heap.size tot D∧SetD D xs)∧Below w.heap.size w wr:=⟨fun wr tot xs=>(∃ D:DataW Unit,wr.ownsMap Tryz.prog 3 (plainElem Tryz.prog 3) w.heap.size tot D∧SetD D xs)∧Below w.heap.size w wr,fun _ _ _=>Iff.rfl⟩
 have hR0:R (w.alloc (.map #[] 0)) 0 []:=(hR _ _ _).2 ⟨⟨_,hm0,SetD.start⟩,hb0⟩
 clear hm0 hb0
 go_enter Tryz.func102,Tryz.ntmps102
 go_wp2_with fail
 go_loopw [11] (fun si wr=>∃ i:Nat,i≤n∧si=.int .i64 i∧R wr ((xss.take i).flatten.length) ((xss.take i).flatten)) (fun si _=>n - (Go.RowKit.intOf si).toNat)
 case atStart=>exact ⟨0,by omega,rfl,by simpa using hR0⟩
 case round =>
  obtain ⟨i,hi,rfl,hr⟩:=hrel
  by_cases hlt:i<n
  ·have hlt':(i:Int)<(n:Int):=by omega
   obtain ⟨b,off,la,ln,lc,rfl,hcw,hI⟩:=h.cell hlt
   have hI0:=hI
   have hc:=hcw
   rw [← ((hR _ _ _).1 hr).2.cell (p:=⟨b,off+i,none⟩) (lt_of_cell hcw)] at hc
   obtain ⟨zs,hzs⟩:∃ zs,zs=xss.getD i []:=⟨_,rfl⟩
   have hfl:=flat_take (xss:=xss) (i:=i) (by omega)
   have hle:=flat_len xss (i+1)
   rw [hfl,List.length_append] at hle
   rw [← hzs] at hI hI0 hfl hle
   have hlz:=hI.1
   have hzm:∀ x ∈ zs,(Lit.int .i64 x).wf=true:=fun x hx=>hF x (by
    rw [hzs] at hx
    have hi2:i<xss.length:=by omega
    rw [List.mem_flatten]
    refine ⟨xss.getD i [],?_,hx⟩
    simp [List.getD,List.getElem?_eq_getElem hi2])
   clear hzs
   obtain ⟨ys,hys⟩:∃ ys,ys=(xss.take i).flatten:=⟨_,rfl⟩
   rw [← hys] at hr hfl hle
   have HF:Hid ((xss.take (i+1)).flatten=ys++zs):=hfl
   have hbW:=((hR _ _ _).1 hr).2
   clear hys hfl
   go_wp2_with fail
   go_loopw [17] (fun sj wq=>∃ j:Nat,j≤ln∧sj=.int .i64 j∧R wq (ys.length+j) (ys++zs.take j)) (fun sj _=>ln - (Go.RowKit.intOf sj).toNat)
   case atStart=>exact ⟨0,by omega,rfl,by simpa using hr⟩
   case round =>
    obtain ⟨j,hj,rfl,hq⟩:=hrel
    by_cases hlj:j<ln
    ·have hlj':(j:Int)<(ln:Int):=by omega
     obtain ⟨⟨D,hm,hS⟩,hbl⟩:=(hR _ _ _).1 hq
     obtain ⟨_,_,_,hcase⟩:=hI0.below hbl
     rcases hcase with e0 | ⟨lb,lo,rfl,_,hcc⟩
     ·omega
     have d0:=hcc j hlj
     have hx:=hzm (zs.getD j 0) (by simp [List.getD,List.getElem?_eq_getElem (show j<zs.length by omega)])
     have hsn:ys++zs.take (j+1)=(ys++zs.take j)++[zs.getD j 0]:=by rw [take_snoc8 (by omega),List.append_assoc]
     have HS:Hid (ys++zs.take (j+1)=(ys++zs.take j)++[zs.getD j 0]):=hsn
     have hlen:(ys++zs.take j).length=ys.length+j:=by simp;omega
     generalize zs.getD j 0=x at d0 hx HS
     have hkey:=key_int8 hx
     have hT2:ys.length+j≤1000000000:=by omega
     clear hcc hI hI0 hzm hc hcw hsn hF hx
     have hbn:∀ c:Int,D.atKey (.int .i64 x) (.lit (.int .i64 0))=.lit (.int .i64 c)→(0≤c∧c≤1000000000)∧SetD (D.put (.int .i64 x) (.lit (.int .i64 (c+1)))) (ys++zs.take j++[x]):=fun c hat=>by
      have:=hS.bnd x c hat
      exact ⟨by omega,hS.put hm.isMap this.1 this.2⟩
     clear hS hlen
     go_wp2_with (first | (at_lookup;refine wpList_lookup_own_int _ rfl _ _ 173 rfl 3 3 .i64 law_int8 Tryz.underlying173 Tryz.underlying3 (zero_int8 _) w.heap.size (ys.length+j) D rfl hm _ _ rfl hkey ?_;intro cc hat hwc;obtain ⟨⟨hc0,hc1⟩,hSP⟩:=hbn cc hat;clear hbn hat hwc) | (at_mapUpdate;refine wpList_mapUpdate_own _ rfl _ _ _ 173 rfl 3 3 law_int8 Tryz.underlying173 _ w.heap.size (ys.length+j) D rfl hm (by unfold maxLen;omega) _ _ _ rfl rfl hkey _ [] (plainElem_int Tryz.underlying3 (fits8 (by omega) (by omega))) ?_;intro w3 hm3 g3))
     have hb3:Below w.heap.size w w3:=hbl.grown g3 hbl.size (fun k e=>by cases e;exact Nat.le_refl _)
     go_roundw
     case rel=>exact ⟨j+1,by omega,by go_num,(hR _ _ _).2 ⟨⟨_,by rw [← Nat.add_assoc];exact hm3,by rw [HS.out];exact hSP⟩,hb3⟩⟩
     case measure=>simp [Go.RowKit.intOf];omega
    ·obtain rfl:j=ln:=by omega
     have e9:zs.take j=zs:=List.take_of_length_le (by omega)
     rw [e9,← hlz,← List.length_append,← HF.out] at hq
     clear e9 HF
     go_wp2
     go_roundw
     case rel=>exact ⟨i+1,by omega,by go_num,hq⟩
     case measure=>simp [Go.RowKit.intOf];omega
  ·obtain rfl:i=n:=by omega
   have e9:xss.take i=xss:=List.take_of_length_le (by omega)
   rw [e9,hR] at hr
   obtain ⟨⟨D,hm,hS⟩,hbl⟩:=hr
   clear e9
   go_wp2
   go_ret
   exact ⟨⟨rfl,D,hm,hS⟩,hbl⟩

open Go.RowKit Go.Maps Go.Sort Go.Shelf

def keysI_ren:Go.Shelf.Ren:=⟨fun | 7=>101 | 10=>140 | n=>n,fun | 23=>173 | 26=>3 | 3=>3 | 28=>171 | 0=>0 | 27=>170 | 33=>124 | 4=>4 | n=>n,fun | n=>n⟩
theorem keysI:Go.Proofs.SlLaysZI.n7 Tryz.prog keysI_ren:={
 mixed:=by kernel_rfl
 f7:=⟨Tryz.f101.name,by decide,Tryz.func101.trans (congrArg some (by kernel_rfl))⟩
 f10:=⟨Tryz.f140.name,by decide,Tryz.func140.trans (congrArg some (by kernel_rfl))⟩
 t0:=Tryz.underlying0
 a0:=Tryz.isAgg0
 z0:=Tryz.sizeOf0
 v0:=Tryz.zeroValue0
 t4:=Tryz.underlying4
 a4:=Tryz.isAgg4
 z4:=Tryz.sizeOf4
 v4:=Tryz.zeroValue4
 t23:=Tryz.underlying173
 a23:=Tryz.isAgg173
 z23:=Tryz.sizeOf173
 v23:=Tryz.zeroValue173
 t26:=Tryz.underlying3
 a26:=Tryz.isAgg3
 z26:=Tryz.sizeOf3
 v26:=Tryz.zeroValue3
 t27:=Tryz.underlying170
 a27:=Tryz.isAgg170
 z27:=Tryz.sizeOf170
 v27:=Tryz.zeroValue170
 t28:=Tryz.underlying171
 a28:=Tryz.isAgg171
 z28:=Tryz.sizeOf171
 v28:=Tryz.zeroValue171
 t33:=Tryz.underlying124
 a33:=Tryz.isAgg124
 z33:=Tryz.sizeOf124
 v33:=Tryz.zeroValue124 }
def sortedI_ren:Go.Shelf.Ren:=⟨fun | 6=>100 | 8=>138 | 9=>139 | 11=>166 | 13=>162 | 12=>167 | 23=>179 | 24=>180 | 14=>190 | 15=>191 | 16=>192 | 17=>193 | 18=>194 | 19=>195 | 20=>196 | 21=>197 | 22=>198 | 25=>208 | 26=>200 | 27=>201 | 28=>209 | 29=>210 | 30=>114 | 31=>213 | n=>n,fun | 26=>3 | 28=>171 | 24=>36 | 0=>0 | 3=>3 | 37=>204 | 48=>249 | 50=>251 | 4=>4 | 40=>243 | 39=>242 | 45=>114 | 5=>5 | 9=>9 | 51=>263 | 55=>267 | 57=>273 | 58=>128 | 33=>124 | n=>n,fun | n=>n⟩
theorem sortedI:Go.Proofs.SlLaysZI.n6 Tryz.prog sortedI_ren:={
 mixed:=by kernel_rfl
 f6:=⟨Tryz.f100.name,by decide,Tryz.func100.trans (congrArg some (by kernel_rfl))⟩
 f8:=⟨Tryz.f138.name,by decide,Tryz.func138.trans (congrArg some (by kernel_rfl))⟩
 f11:=⟨Tryz.f166.name,by decide,Tryz.func166.trans (congrArg some (by kernel_rfl))⟩
 t0:=Tryz.underlying0
 a0:=Tryz.isAgg0
 z0:=Tryz.sizeOf0
 v0:=Tryz.zeroValue0
 t24:=Tryz.underlying36
 a24:=Tryz.isAgg36
 z24:=Tryz.sizeOf36
 v24:=Tryz.zeroValue36
 t26:=Tryz.underlying3
 a26:=Tryz.isAgg3
 z26:=Tryz.sizeOf3
 v26:=Tryz.zeroValue3
 t28:=Tryz.underlying171
 a28:=Tryz.isAgg171
 z28:=Tryz.sizeOf171
 v28:=Tryz.zeroValue171
 i26:=by kernel_rfl }
def sortI_ren:Go.Shelf.Ren:=⟨fun | 5=>139 | 8=>162 | 7=>167 | 19=>179 | 20=>180 | 10=>190 | 11=>191 | 12=>192 | 13=>193 | 14=>194 | 15=>195 | 16=>196 | 17=>197 | 18=>198 | 30=>208 | 31=>200 | 32=>201 | 33=>209 | 34=>210 | 35=>114 | 40=>213 | n=>n,fun | 23=>36 | 25=>3 | 3=>3 | 32=>204 | 22=>36 | 0=>0 | 44=>249 | 46=>251 | 4=>4 | 36=>243 | 35=>242 | 41=>114 | 5=>5 | 9=>9 | 53=>263 | 57=>267 | 63=>273 | 64=>128 | n=>n,fun | n=>n⟩
theorem sortI:Go.Proofs.SlLaysM.n5 Tryz.prog sortI_ren:={
 mixed:=by kernel_rfl
 f5:=⟨Tryz.f139.name,by decide,Tryz.func139.trans (congrArg some (by kernel_rfl))⟩
 f7:=⟨Tryz.f167.name,by decide,Tryz.func167.trans (congrArg some (by kernel_rfl))⟩
 f8:=Tryz.func162.trans (congrArg some (by kernel_rfl))
 f10:=⟨Tryz.f190.name,by decide,Tryz.func190.trans (congrArg some (by kernel_rfl))⟩
 f11:=⟨Tryz.f191.name,by decide,Tryz.func191.trans (congrArg some (by kernel_rfl))⟩
 f12:=⟨Tryz.f192.name,by decide,Tryz.func192.trans (congrArg some (by kernel_rfl))⟩
 f13:=⟨Tryz.f193.name,by decide,Tryz.func193.trans (congrArg some (by kernel_rfl))⟩
 f14:=⟨Tryz.f194.name,by decide,Tryz.func194.trans (congrArg some (by kernel_rfl))⟩
 f15:=⟨Tryz.f195.name,by decide,Tryz.func195.trans (congrArg some (by kernel_rfl))⟩
 f16:=⟨Tryz.f196.name,by decide,Tryz.func196.trans (congrArg some (by kernel_rfl))⟩
 f17:=⟨Tryz.f197.name,by decide,Tryz.func197.trans (congrArg some (by kernel_rfl))⟩
 f18:=⟨Tryz.f198.name,by decide,Tryz.func198.trans (congrArg some (by kernel_rfl))⟩
 f19:=Tryz.func179.trans (congrArg some (by kernel_rfl))
 f20:=Tryz.func180.trans (congrArg some (by kernel_rfl))
 f30:=⟨Tryz.f208.name,by decide,Tryz.func208.trans (congrArg some (by kernel_rfl))⟩
 f31:=Tryz.func200.trans (congrArg some (by kernel_rfl))
 f32:=Tryz.func201.trans (congrArg some (by kernel_rfl))
 f33:=⟨Tryz.f209.name,by decide,Tryz.func209.trans (congrArg some (by kernel_rfl))⟩
 f34:=⟨Tryz.f210.name,by decide,Tryz.func210.trans (congrArg some (by kernel_rfl))⟩
 f35:=⟨Tryz.f114.name,by decide,Tryz.func114.trans (congrArg some (by kernel_rfl))⟩
 f40:=⟨Tryz.f213.name,by decide,Tryz.func213.trans (congrArg some (by kernel_rfl))⟩
 t0:=Tryz.underlying0
 a0:=Tryz.isAgg0
 z0:=Tryz.sizeOf0
 v0:=Tryz.zeroValue0
 t3:=Tryz.underlying3
 a3:=Tryz.isAgg3
 z3:=Tryz.sizeOf3
 v3:=Tryz.zeroValue3
 t4:=Tryz.underlying4
 a4:=Tryz.isAgg4
 z4:=Tryz.sizeOf4
 v4:=Tryz.zeroValue4
 t5:=Tryz.underlying5
 a5:=Tryz.isAgg5
 z5:=Tryz.sizeOf5
 v5:=Tryz.zeroValue5
 t9:=Tryz.underlying9
 a9:=Tryz.isAgg9
 z9:=Tryz.sizeOf9
 v9:=Tryz.zeroValue9
 t22:=Tryz.underlying36
 a22:=Tryz.isAgg36
 z22:=Tryz.sizeOf36
 v22:=Tryz.zeroValue36
 t23:=Tryz.underlying36
 a23:=Tryz.isAgg36
 z23:=Tryz.sizeOf36
 v23:=Tryz.zeroValue36
 t25:=Tryz.underlying3
 a25:=Tryz.isAgg3
 z25:=Tryz.sizeOf3
 v25:=Tryz.zeroValue3
 t32:=Tryz.underlying204
 a32:=Tryz.isAgg204
 z32:=Tryz.sizeOf204
 v32:=Tryz.zeroValue204
 t35:=Tryz.underlying242
 a35:=Tryz.isAgg242
 z35:=Tryz.sizeOf242
 v35:=Tryz.zeroValue242
 t36:=Tryz.underlying243
 a36:=Tryz.isAgg243
 z36:=Tryz.sizeOf243
 v36:=Tryz.zeroValue243
 t41:=Tryz.underlying114
 a41:=Tryz.isAgg114
 z41:=Tryz.sizeOf114
 v41:=Tryz.zeroValue114
 t44:=Tryz.underlying249
 a44:=Tryz.isAgg249
 z44:=Tryz.sizeOf249
 v44:=Tryz.zeroValue249
 t46:=Tryz.underlying251
 a46:=Tryz.isAgg251
 z46:=Tryz.sizeOf251
 v46:=Tryz.zeroValue251
 t53:=Tryz.underlying263
 a53:=Tryz.isAgg263
 z53:=Tryz.sizeOf263
 v53:=Tryz.zeroValue263
 t57:=Tryz.underlying267
 a57:=Tryz.isAgg267
 z57:=Tryz.sizeOf267
 v57:=Tryz.zeroValue267
 t63:=Tryz.underlying273
 a63:=Tryz.isAgg273
 z63:=Tryz.sizeOf273
 v63:=Tryz.zeroValue273
 t64:=Tryz.underlying128
 a64:=Tryz.isAgg128
 z64:=Tryz.sizeOf128
 v64:=Tryz.zeroValue128 }

theorem sortsI (m:Nat):AnyZI.SortsIn Tryz.prog sortedI_ren Fence.wide m:=
 ⟨fun blk off cap ss W hH hblk hsz=>callsIn_wide.2 (AnyM.slices_Sort_int sortI blk off cap ss W hH hblk hsz),
  fun p cap W=>callsIn_wide.2 (AnyM.slices_Sort_int_none sortI p cap W)⟩
theorem keysC (mb:Option Nat) (W:World):Calls Tryz.prog 101 #[.map mb] W fun e w'=>e=.returned (.func (.func 140) #[] #[.pointer (some ⟨W.heap.size,0,none⟩)])∧w'=W.alloc (.cells #[.map mb] 173):=
 callsIn_wide.1 (AnyZI.keys_in keysI Fence.wide 5 trivial rfl mb W)
theorem sortedC (b nn:Nat) (D0:DataW Unit) (w:World) (hown:w.ownsMap Tryz.prog 3 (plainElem Tryz.prog 3) b nn D0) (hmax:nn≤1000000000) :
  Calls Tryz.prog 100 #[.func (.func 140) #[] #[.pointer (some ⟨w.heap.size,0,none⟩)]] (w.alloc (.cells #[.map (some b)] 173)) fun e w'=>∃ (v:Value) (ss:List Int),e=.returned v∧ss.Perm (intKeys D0) ∧
   w'.ownsRow (w.alloc (.cells #[.map (some b)] 173)).heap.size 3 1 v ss.length ((ss.mergeSort (fun x y=>decide (x≤y))).map encZ)∧(v=.slice none 0 0↔ss=[])∧Below (w.alloc (.cells #[.map (some b)] 173)).heap.size (w.alloc (.cells #[.map (some b)] 173)) w':=by
 have hbl:=hown.lt
 have hsz:=hown.size_le
 have hseq:SeqGives Fence.wide 2 Tryz.prog 140 #[.pointer (some ⟨w.heap.size,0,none⟩)] encZ (fun ss=>ss.Perm (intKeys D0)) (Maps.size D0) (w.alloc (.cells #[.map (some b)] 173)):=
  AnyZI.keys_gives (ρ:=keysI_ren) { keysI with } Fence.wide _ trivial rfl (by omega) w.heap.size b nn D0 _ (by simp) (by simp) (by
   obtain ⟨es,clock,hb,Ft,hs,hD⟩:=hown
   exact ⟨es,clock,(Below.heap_alloc _ _ b hbl).trans hb,Ft,hs,hD⟩)
 have cS:=AnyZI.sorted_in sortedI Fence.wide 5 trivial trivial trivial trivial rfl (by omega) (sortsI _) (enters_of Tryz.func139 (by kernel_rfl) rfl) 140 #[.pointer (some ⟨w.heap.size,0,none⟩)] trivial (enters_of Tryz.func140 (by kernel_rfl) rfl) _ _ (by unfold maxLen;omega) (by omega) _ hseq
 exact callsIn_wide.1 cS
theorem keys_set {w:World} {b nn:Nat} {D:DataW Unit} {xs ss:List Int} (hown:w.ownsMap Tryz.prog 3 (plainElem Tryz.prog 3) b nn D) (hS:SetD D xs) (hp:ss.Perm (intKeys D)):ss.mergeSort (fun x y=>decide (x≤y))=mrgI xs:=by
 obtain ⟨es,hD,hpw,_⟩:=hown.entries law_int8
 obtain ⟨es',hD',hko⟩:=hown.keysOf
 obtain rfl:es=es':=by rw [hD] at hD';simpa using hD'
 subst hD
 have hp2:(mrgI xs).Perm (intKeys (.map es)):=perm_intKeys hpw (fun p hp=>by obtain ⟨v,hv⟩:=hko p hp;obtain ⟨x,_,hx,_⟩:=Maps.keyOf_i64 Tryz.underlying3 hv;exact ⟨x,hx⟩) (rises_nodup (mrgI_rises xs)) (fun x=>by rw [mrgI_mem,hS.has])
 have hp3:(ss.mergeSort (fun x y=>decide (x≤y))).Perm (mrgI xs):=(List.mergeSort_perm _ _).trans (hp.trans hp2.symm)
 have tr:∀ a b c:Int,decide (a≤b)=true→decide (b≤c)=true→decide (a≤c)=true:=fun a b c h1 h2=>by simp only [decide_eq_true_eq] at *;exact Int.le_trans h1 h2
 have to:∀ a b:Int,(decide (a≤b) || decide (b≤a))=true:=fun a b=>by simp only [Bool.or_eq_true,decide_eq_true_eq];exact Int.le_total a b
 refine hp3.eq_of_pairwise (le:=fun a b=>a≤b) (fun a b _ _ h1 h2=>Int.le_antisymm h1 h2) ?_ ((mrgI_rises xs).imp (fun h=>Int.le_of_lt h))
 have:=List.pairwise_mergeSort tr to ss
 exact this.imp (fun h=>by simpa using h)
theorem merged_is (a:Option Addr) (n c:Nat) (xss:List (List Int)) (w:World) (h:RowsI w a n c xss) (hn:n≤1000000) (hT:xss.flatten.length≤1000000000) (hF:∀ x ∈ xss.flatten,(Lit.int .i64 x).wf=true) :
  Calls Tryz.prog 63 #[.slice a n c] w fun e w'=>RowGot e w' w.heap.size (mrgI xss.flatten)∧Below w.heap.size w w':=by
 have kM:=mapOf_is a n c xss w h hn hT hF
 clear h hF
 generalize xss.flatten=xs at *
 have HL:Hid (xs.length≤1000000000):=hT
 clear hT
 go_enter Tryz.func63,Tryz.ntmps63
 go_wp2_with fail
 refine kM.mono ?_
 rintro e w1 ⟨⟨rfl,D,hm,hS⟩,hb⟩
 have kS:=sortedC w.heap.size xs.length D w1 hm HL.out
 go_wp2_with fail
 refine (keysC _ _).mono ?_
 rintro e w2 ⟨rfl,rfl⟩
 go_wp2_with fail
 refine kS.mono ?_
 rintro e w3 ⟨v,ss,rfl,hp,ho,hnil,hb3⟩
 go_wp2
 go_ret
 have hsz:=hb.size
 refine ⟨⟨v,rfl,?_⟩,hb.trans ?_⟩
 ·have e1:=keys_set hm hS hp
  have e2:ss.length=(mrgI xs).length:=by rw [← e1,List.length_mergeSort]
  rw [e1,e2] at ho
  exact ownsRow_base_a ho (by simp;omega)
 ·exact ((Below.refl _ w1).alloc (Nat.le_refl _) _).mono hsz |>.trans (hb3.mono (by simp;omega))


def allIt (xs:List Int):Bool:=xs.all itOk
def wfs (xs:List Int):Prop:=∀ x ∈ xs,(Lit.int .i64 x).wf=true
theorem allIt_drop {xs:List Int} {k:Nat} (h:k<xs.length):allIt (xs.drop k)=(itOk (xs.getD k 0) && allIt (xs.drop (k+1))):=by
 unfold allIt
 rw [List.drop_eq_getElem_cons h,List.all_cons]
 simp [List.getD,List.getElem?_eq_getElem h]
theorem itOk_wf {x:Int} (h:itOk x=true):(Lit.int .i64 x).wf=true:=by
 simp only [itOk,decide_eq_true_eq] at h
 exact fits8 (by omega) (by omega)
theorem itemsOK_is (a:Option Addr) (n cap:Nat) (Z:List Int) (w:World) (h:Ints .i64 w a n cap Z) (hn:n≤1048576) (hw:wfs Z) :
  Calls Tryz.prog 29 #[.slice a n cap] w fun e w'=>e=.returned (.bool (allIt Z))∧w=w':=by
 have hl:=h.1
 obtain ⟨r,hr⟩:∃ r,r=allIt Z:=⟨_,rfl⟩
 rw [← hr]
 have HR:Hid (r=allIt (Z.drop 0)):=by rw [Hid];simpa using hr
 clear hr
 go_enter Tryz.func29,Tryz.ntmps29
 go_wp2_with fail
 go_loopw [7] (fun si wr=>∃ k:Nat,k≤n∧si=.int .i64 k∧Hid (r=allIt (Z.drop k))∧w=wr) (fun si _=>n - (Go.RowKit.intOf si).toNat)
 case atStart=>exact ⟨0,by omega,rfl,HR,rfl⟩
 case round =>
  clear HR
  obtain ⟨k,hk,rfl,HR,rfl⟩:=hrel
  by_cases hlt:k<n
  ·have hm:=allIt_drop (xs:=Z) (k:=k) (by omega)
   have hx:=hw (Z.getD k 0) (by simp [List.getD,List.getElem?_eq_getElem (show k<Z.length by omega)])
   obtain ⟨_,_,_,hcase⟩:=h
   rcases hcase with e0 | ⟨b,off,rfl,hb,hc⟩
   ·omega
   have d0:=hc k hlt
   clear hc hb
   generalize Z.getD k 0=x at d0 hm hx
   have kO:=isItem_is x (in_wf8 hx)
   clear hx
   have HM:Hid (allIt (Z.drop k)=(itOk x && allIt (Z.drop (k+1)))):=hm
   clear hm
   have hlt':(k:Int)<(n:Int):=by omega
   have hk0:(0:Int)≤(k:Int):=by omega
   cases hE:itOk x
   ·rw [hE] at kO
    have HF:Hid (r=false):=by rw [Hid,HR.out,HM.out,hE];rfl
    clear HM HR hE
    go_wp2_with fail
    refine (kO _).mono ?_
    rintro e w1 ⟨rfl,rfl⟩
    go_wp2
    go_ret
    exact ⟨by rw [HF.out];rfl,rfl⟩
   ·rw [hE] at kO
    have HF:Hid (r=allIt (Z.drop (k+1))):=by rw [Hid,HR.out,HM.out,hE];rfl
    clear HM HR hE
    go_wp2_with fail
    refine (kO _).mono ?_
    rintro e w1 ⟨rfl,rfl⟩
    go_wp2
    go_roundw
    case rel=>exact ⟨k+1,by omega,by go_num,HF,by first | rfl | trivial⟩
    case measure=>simp [Go.RowKit.intOf];omega
  ·obtain rfl:k=n:=by omega
   have HF:Hid (r=true):=by rw [Hid,HR.out,List.drop_of_length_le (by omega)];rfl
   clear HR
   go_wp2
   go_ret
   exact ⟨by rw [HF.out];rfl,rfl⟩

theorem l08All_is (a:Option Addr) (n cap:Nat) (Z:List Int) (w:World) (h:Ints .i64 w a n cap Z) (hn:n≤1048576) (hw:wfs Z) :
  Calls Tryz.prog 32 #[.slice a n cap] w fun e w'=>e=.returned (.bool (allIt Z))∧w=w':=by
 have hl:=h.1
 obtain ⟨r,hr⟩:∃ r,r=allIt Z:=⟨_,rfl⟩
 rw [← hr]
 have HR:Hid (r=allIt (Z.drop 0)):=by rw [Hid];simpa using hr
 clear hr
 go_enter Tryz.func32,Tryz.ntmps32
 go_wp2_with fail
 go_loopw [3] (fun si wr=>∃ k:Nat,k≤n∧si=.int .i64 k∧Hid (r=allIt (Z.drop k))∧w=wr) (fun si _=>n - (Go.RowKit.intOf si).toNat)
 case atStart=>exact ⟨0,by omega,rfl,HR,rfl⟩
 case round =>
  clear HR
  obtain ⟨k,hk,rfl,HR,rfl⟩:=hrel
  by_cases hlt:k<n
  ·have hm:=allIt_drop (xs:=Z) (k:=k) (by omega)
   have hx:=hw (Z.getD k 0) (by simp [List.getD,List.getElem?_eq_getElem (show k<Z.length by omega)])
   obtain ⟨_,_,_,hcase⟩:=h
   rcases hcase with e0 | ⟨b,off,rfl,hb,hc⟩
   ·omega
   have d0:=hc k hlt
   clear hc hb
   generalize Z.getD k 0=x at d0 hm hx
   have kO:=l08OK_is x (in_wf8 hx)
   clear hx
   have HM:Hid (allIt (Z.drop k)=(itOk x && allIt (Z.drop (k+1)))):=hm
   clear hm
   have hlt':(k:Int)<(n:Int):=by omega
   have hk0:(0:Int)≤(k:Int):=by omega
   cases hE:itOk x
   ·rw [hE] at kO
    have HF:Hid (r=false):=by rw [Hid,HR.out,HM.out,hE];rfl
    clear HM HR hE
    go_wp2_with fail
    refine (kO _).mono ?_
    rintro e w1 ⟨rfl,rfl⟩
    go_wp2
    go_ret
    exact ⟨by rw [HF.out];rfl,rfl⟩
   ·rw [hE] at kO
    have HF:Hid (r=allIt (Z.drop (k+1))):=by rw [Hid,HR.out,HM.out,hE];rfl
    clear HM HR hE
    go_wp2_with fail
    refine (kO _).mono ?_
    rintro e w1 ⟨rfl,rfl⟩
    go_wp2
    go_roundw
    case rel=>exact ⟨k+1,by omega,by go_num,HF,by first | rfl | trivial⟩
    case measure=>simp [Go.RowKit.intOf];omega
  ·obtain rfl:k=n:=by omega
   have HF:Hid (r=true):=by rw [Hid,HR.out,List.drop_of_length_le (by omega)];rfl
   clear HR
   go_wp2
   go_ret
   exact ⟨by rw [HF.out];rfl,rfl⟩


theorem tree_head (rows:List (List I3)) (f:Nat) (m:V4):m ∈ treeM rows f m:=by cases f<;>simp [treeM]
theorem tree_closed {rows:List (List I3)} (hp:progOk rows=true):∀ (f:Nat) (m:V4),shapeOk m=true→leftN rows m≤f→∀ x ∈ treeM rows f m,∀ t ∈ nxM rows x,t.2 ∈ treeM rows f m
 | 0,m,hs,hl,x,hx,t,ht=>by
  have e:x=m:=by simpa [treeM] using hx
  subst e
  unfold nxM at ht
  rw [enab_none hp hs (by omega)] at ht
  simp at ht
 | f+1,m,hs,hl,x,hx,t,ht=>by
  have hx2:x=m∨x ∈ (nxM rows m).flatMap fun t=>treeM rows f t.2:=by simpa [treeM] using hx
  show t.2 ∈ m::(nxM rows m).flatMap fun t=>treeM rows f t.2
  rcases hx2 with rfl | hx2
  ·exact List.mem_cons_of_mem _ (List.mem_flatMap.2 ⟨t,ht,tree_head rows f t.2⟩)
  ·obtain ⟨u,hu,hxu⟩:=List.mem_flatMap.1 hx2
   obtain ⟨h1,h2⟩:=nxM_mem hu
   have hsu:=nxM_shape hp hs hu
   have hlu:=left_step hp hs h1
   rw [← h2] at hlu
   exact List.mem_cons_of_mem _ (List.mem_flatMap.2 ⟨u,hu,tree_closed hp f u.2 hsu (by omega) x hxu t ht⟩)
theorem small_roomM {rows:List (List I3)} (h:ProgS rows) {m:V4} (hs:shapeOk m=true):(fullM rows m).length≤1749:=by
 obtain ⟨hp,h0,h1,h2⟩:=h
 have hz:∀ k,remM rows m k≤(codeM rows k).length:=fun k=>by unfold remM;omega
 have hl:=treeM_len hp 8 m hs
 have hm:=treeN_mono 8 _ _ _ 3 3 2 (Nat.le_trans (hz 0) h0) (Nat.le_trans (hz 1) h1) (Nat.le_trans (hz 2) h2)
 rw [treeN_332] at hm
 have hn:=nodup_le ((fullM rows m).map (·.1)) (treeM rows 8 m) (fullM_nodup rows m) (fun x hx=>by
  obtain ⟨r,hr,rfl⟩:=List.mem_map.1 hx
  have a:=hz 0
  have b:=hz 1
  have c:=hz 2
  exact fullM_ind (fun x=>x ∈ treeM rows 8 m) (tree_head rows 8 m) (tree_closed hp 8 m hs (by unfold leftN;omega)) r hr)
 rw [List.length_map] at hn
 omega
theorem rise_len:∀ (xs:List Int) (a b:Int),xs.Pairwise (· < ·)→(∀ x ∈ xs,a≤x∧x≤b)→(xs.length:Int)≤max (b - a+1) 0
 | [],a,b,_,_=>by simp;omega
 | x::xs,a,b,h,hb=>by
  obtain ⟨h1,h2⟩:=List.pairwise_cons.1 h
  have hx:=hb x (by simp)
  have ih:=rise_len xs (x+1) b h2 (fun y hy=>⟨by have:=h1 y hy;omega,(hb y (by simp [hy])).2⟩)
  simp only [List.length_cons,Int.natCast_add,Int.natCast_one]
  omega


def bugsI (rows:List (List I3)) (m:V4):List I3:=if stuckM rows m then [(14,0,0)] else (enabM rows m 3).flatMap (ownM rows m)
def localS (rows:List (List I3)) (m:V4):List I3:=(enabM rows m 3).foldl (fun out k=>mergeB out (foundM rows m k)) (deadM rows m)
theorem mem_fold {f:Int→List I3} {x:I3}:∀ (ks:List Int) (out:List I3),x ∈ ks.foldl (fun out k=>mergeB out (f k)) out↔x ∈ out∨∃ k ∈ ks,x ∈ f k
 | [],out=>by simp
 | k::ks,out=>by
  rw [List.foldl_cons,mem_fold ks,mem_mergeB]
  simp only [List.mem_cons,exists_eq_or_imp,or_assoc]
theorem mem_localS {rows:List (List I3)} {m:V4} {x:I3}:x ∈ localS rows m↔x ∈ deadM rows m∨∃ k ∈ enabM rows m 3,x ∈ foundM rows m k:=mem_fold _ _
theorem mem_foundM {rows:List (List I3)} {m:V4} {k:Int} {x:I3}:x ∈ foundM rows m k↔x ∈ ownM rows m k∨x ∈ deadM rows (goM rows m k).1:=by
 unfold foundM deadM
 split
 ·rw [mem_putB]
  simp
 ·simp
theorem mem_bugsI {rows:List (List I3)} {m:V4} {x:I3}:x ∈ bugsI rows m↔x ∈ deadM rows m∨∃ k ∈ enabM rows m 3,x ∈ ownM rows m k:=by
 unfold bugsI deadM
 by_cases hs:stuckM rows m=true
 ·rw [if_pos hs,if_pos hs]
  have he:enabM rows m 3=[]:=by
   unfold stuckM at hs
   simp at hs
   exact hs.1
  rw [he]
  simp
 ·rw [if_neg hs,if_neg hs]
  simp
def allI (rows:List (List I3)) (S:List (Rec6 V4)):List I3:=mergeB (S.flatMap fun r=>bugsI rows r.1) []
def allS (rows:List (List I3)) (S:List (Rec6 V4)):List I3:=S.foldl (fun out r=>mergeB out (localS rows r.1)) []
theorem mem_foldR {f:Rec6 V4→List I3} {x:I3}:∀ (S:List (Rec6 V4)) (out:List I3),x ∈ S.foldl (fun out r=>mergeB out (f r)) out↔x ∈ out∨∃ r ∈ S,x ∈ f r
 | [],out=>by simp
 | r::S,out=>by
  rw [List.foldl_cons,mem_foldR S,mem_mergeB]
  simp only [List.mem_cons,exists_eq_or_imp,or_assoc]
theorem rises_foldR {f:Rec6 V4→List I3}:∀ (S:List (Rec6 V4)) (out:List I3),Rises out→Rises (S.foldl (fun out r=>mergeB out (f r)) out)
 | [],out,h=>h
 | r::S,out,h=>rises_foldR S _ (mergeB_rises _ _)
theorem mem_allI {rows:List (List I3)} {S:List (Rec6 V4)} {x:I3}:x ∈ allI rows S↔∃ r ∈ S,x ∈ bugsI rows r.1:=by
 unfold allI
 rw [mem_mergeB]
 simp
theorem all_same {rows:List (List I3)} (h:(fullS rows).length≤2000):allS rows (fullS rows)=allI rows (fullS rows):=by
 refine (rises_foldR _ _ List.Pairwise.nil).same (mergeB_rises _ _) (fun x=>?_)
 show x ∈ allS rows (fullS rows)↔x ∈ allI rows (fullS rows)
 rw [mem_allI]
 unfold allS
 rw [mem_foldR]
 constructor
 ·rintro (hx | ⟨r,hr,hx⟩)
  ·simp at hx
  ·rcases mem_localS.1 hx with hx | ⟨k,hk,hx⟩
   ·exact ⟨r,hr,mem_bugsI.2 (.inl hx)⟩
   ·rcases mem_foundM.1 hx with hx | hx
    ·exact ⟨r,hr,mem_bugsI.2 (.inr ⟨k,hk,hx⟩)⟩
    ·have hc:=fullS_closed h r hr (k,(goM rows r.1 k).1) (List.mem_map.2 ⟨k,hk,rfl⟩)
     obtain ⟨q,hq,e⟩:=List.mem_map.1 hc
     refine ⟨q,hq,mem_bugsI.2 (.inl ?_)⟩
     have e':q.1=(goM rows r.1 k).1:=e
     rw [e']
     exact hx
 ·rintro ⟨r,hr,hx⟩
  refine .inr ⟨r,hr,mem_localS.2 ?_⟩
  rcases mem_bugsI.1 hx with hx | ⟨k,hk,hx⟩
  ·exact .inl hx
  ·exact .inr ⟨k,hk,mem_foundM.2 (.inl hx)⟩

open Go.Op

def ltS (a b:ByteArray):Bool:=bytesLess a.toList b.toList
theorem bL_irrefl:∀ l:List UInt8,bytesLess l l=false
 | []=>rfl
 | a::l=>by
  have:=bL_irrefl l
  simp [bytesLess,this]
theorem bL_cons {x y:UInt8} {a b:List UInt8}:bytesLess (x::a) (y::b)=true↔x<y∨(x=y∧bytesLess a b=true):=by
 simp [bytesLess]
theorem bL_trans:∀ {a b c:List UInt8},bytesLess a b=true→bytesLess b c=true→bytesLess a c=true
 | _,[],_,h,_=>by simp [bytesLess] at h
 | _,_::_,[],_,k=>by simp [bytesLess] at k
 | [],_::_,_::_,_,_=>by simp [bytesLess]
 | x::a,y::b,z::c,h,k=>by
  rw [bL_cons] at h k ⊢
  rcases h with h | ⟨rfl,h⟩
  ·rcases k with k | ⟨rfl,k⟩
   ·exact .inl (UInt8.lt_trans h k)
   ·exact .inl h
  ·rcases k with k | ⟨rfl,k⟩
   ·exact .inl k
   ·exact .inr ⟨rfl,bL_trans h k⟩
theorem bL_total:∀ {a b:List UInt8},bytesLess a b=false→bytesLess b a=false→a=b
 | [],[],_,_=>rfl
 | [],_::_,h,_=>by simp [bytesLess] at h
 | _::_,[],_,k=>by simp [bytesLess] at k
 | x::a,y::b,h,k=>by
  have h1:¬ (x<y∨(x=y∧bytesLess a b=true)):=fun e=>by rw [bL_cons.2 e] at h;cases h
  have k1:¬ (y<x∨(y=x∧bytesLess b a=true)):=fun e=>by rw [bL_cons.2 e] at k;cases k
  have hxy:x=y:=UInt8.le_antisymm (UInt8.not_lt.1 fun e=>k1 (.inl e)) (UInt8.not_lt.1 fun e=>h1 (.inl e))
  subst hxy
  have h2:bytesLess a b=false:=by cases e:bytesLess a b<;>simp_all
  have k2:bytesLess b a=false:=by cases e:bytesLess b a<;>simp_all
  rw [bL_total h2 k2]
theorem ltS_irrefl (a:ByteArray):ltS a a=false:=bL_irrefl _
theorem ltS_trans {a b c:ByteArray} (h:ltS a b=true) (k:ltS b c=true):ltS a c=true:=bL_trans h k
theorem toList_inj9 {a b:ByteArray} (h:a.toList=b.toList):a=b:=by
 have h1:a.data.toList=b.data.toList:=by
  rw [← Go.ByteArray.toList_eq a,← Go.ByteArray.toList_eq b]
  exact h
 cases a
 cases b
 simp at h1
 rw [h1]
theorem ltS_total {a b:ByteArray} (h:ltS a b=false) (k:ltS b a=false):a=b:=toList_inj9 (bL_total h k)

open Go.RowKit Go.ChangeShapes Go.WideShapes Go.Joins

abbrev E3:=ByteArray × List I3 × List Int
abbrev Sl2:=Sl × Sl
def entV (k:ByteArray) (s:Sl2):Value:=.agg #[.string k,.slice s.1.1 s.1.2.1 s.1.2.2,.slice s.2.1 s.2.2.1 s.2.2.2]
def entC (k:ByteArray) (s:Sl2):List Value:=[.string k,.slice s.1.1 s.1.2.1 s.1.2.2,.slice s.2.1 s.2.2.1 s.2.2.2]
def Nil0 (s:Sl2):Prop:=(s.1.1=none→s.1.2.2=0)∧(s.2.1=none→s.2.2.2=0)
def Emem (w:World) (s:Sl2) (e:E3):Prop:=(e.1.size≤maxLen∧Nil0 s)∧Instrs w s.1.1 s.1.2.1 s.1.2.2 e.2.1∧SlInts w s.2 e.2.2
theorem Emem.below {w w':World} {s:Sl2} {e:E3} (h:Emem w s e) (hb:Below w.heap.size w w'):Emem w' s e:=⟨h.1,h.2.1.below hb,h.2.2.below hb⟩
def e3d:E3:=(ByteArray.empty,[],[])
def Ents (w:World) (a:Option Addr) (len cap:Nat) (es:List E3):Prop:=
 es.length=len∧len≤cap∧cap≤maxLen∧(len=0∨∃ b off,a=some ⟨b,off,none⟩∧b<w.heap.size∧∀ t,t<len →
  ∃ s:Sl2,w.cell? ⟨b,off+t*3,none⟩=some (.string (es.getD t e3d).1)∧w.cell? ⟨b,off+t*3+1,none⟩=some (.slice s.1.1 s.1.2.1 s.1.2.2)∧w.cell? ⟨b,off+t*3+2,none⟩=some (.slice s.2.1 s.2.2.1 s.2.2.2)∧Emem w s (es.getD t e3d))
theorem Ents.below {w w':World} {a:Option Addr} {len cap:Nat} {es:List E3} (h:Ents w a len cap es) (hb:Below w.heap.size w w'):Ents w' a len cap es:=by
 obtain ⟨h1,h2,h3,h4⟩:=h
 refine ⟨h1,h2,h3,?_⟩
 rcases h4 with h4 | ⟨b,off,ha,hlt,hc⟩
 ·exact .inl h4
 ·refine .inr ⟨b,off,ha,by have:=hb.size;omega,fun t ht=>?_⟩
  obtain ⟨s,c0,c1,c2,hm⟩:=hc t ht
  exact ⟨s,by rw [hb.cell (p:=⟨b,_,none⟩) hlt];exact c0,by rw [hb.cell (p:=⟨b,_,none⟩) hlt];exact c1,by rw [hb.cell (p:=⟨b,_,none⟩) hlt];exact c2,hm.below hb⟩

section
variable {H : Type} {enc : TypeId × Value → H} {w : World} {base : Nat} {spare : Nat → Bool} {held : Bool}
end
end Go.Proofs.YtgmhhegckcionaaGreatDoor
