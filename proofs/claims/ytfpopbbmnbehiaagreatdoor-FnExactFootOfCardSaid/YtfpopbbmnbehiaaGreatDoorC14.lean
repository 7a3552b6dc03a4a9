/-
  Joined: MapI, SetP.
-/
import Derived.Maps.OwnSet
import Derived.Maps.OwnOps
import Derived.Maps.Own
import Derived.Test.YtfpopbbmnbehiaaGreatDoorC13

namespace Go.Proofs.YtfpopbbmnbehiaaGreatDoor
set_option maxRecDepth 100000
set_option maxHeartbeats 16000000
open Go.RowKit
set_option linter.unusedVariables false
set_option linter.unusedSimpArgs false

theorem law_int8:Maps.Keyed Tryz.prog 3:=Maps.int_keyed Tryz.underlying3
theorem zero_int8 (w:World):(zeroValue 3).run Tryz.prog w=.ok (.int .i64 0) w:=by kernel_rfl
structure SetD (D:DataW Unit) (xs:List Int):Prop where
 has:∀ x:Int,Maps.has D (.int .i64 x)=true↔x ∈ xs
 bnd:∀ x c:Int,D.atKey (.int .i64 x) (.lit (.int .i64 0))=.lit (.int .i64 c)→0≤c∧c≤xs.length
theorem SetD.start:SetD (.map []) []:=⟨fun t=>by simp [Maps.has],fun x c h=>by
 simp [DataW.atKey] at h
 subst h
 simp⟩
theorem lit_ne8 {s t:Int} (h:s≠t):(Lit.int .i64 s)≠Lit.int .i64 t:=fun e=>by
 injection e with _ e
 exact h e
theorem SetD.put {D:DataW Unit} {xs:List Int} (h:SetD D xs) (hm:Maps.IsMap D) {x c:Int} (hc0:0≤c) (hc:c≤xs.length) :
  SetD (D.put (.int .i64 x) (.lit (.int .i64 (c+1)))) (xs++[x]):=by
 have hkl:WideAt.IsKeyLit (.int .i64 x):=trivial
 refine ⟨fun t=>?_,fun y d hd=>?_⟩
 ·by_cases e:t=x
  ·subst e
   rw [Maps.has_put_same hm hkl]
   simp
  ·rw [Maps.has_put_other (lit_ne8 e),h.has]
   simp [e]
 ·by_cases e:y=x
  ·subst e
   rw [Maps.atKey_put_same hm hkl] at hd
   injection hd with hd
   injection hd with _ hd
   subst hd
   simp
   omega
  ·rw [Maps.atKey_put_other (lit_ne8 e)] at hd
   have:=h.bnd y d hd
   simp
   omega
theorem fits8 {z:Int} (h:0≤z) (h':z≤2000000000):(Lit.int .i64 z).wf=true:=by
 simp only [Lit.wf,Bool.and_eq_true,decide_eq_true_eq]
 have h1:IntKind.i64.min=-9223372036854775808:=by decide
 have h2:IntKind.i64.max=9223372036854775807:=by decide
 omega
theorem key_int8 {x:Int} (h:(Lit.int .i64 x).wf=true):keyOf Tryz.prog 3 (.int .i64 x)=some (.int .i64 x):=by
 simp [keyOf,Tryz.underlying3,mapKey,h]
def MapGot (e:Ending) (w':World) (B:Nat) (xs:List Int):Prop:=e=.returned (.map (some B))∧∃ D:DataW Unit,w'.ownsMap Tryz.prog 3 (plainElem Tryz.prog 3) B xs.length D∧SetD D xs

theorem flat_take {xss:List (List Int)} {i:Nat} (h:i<xss.length):(xss.take (i+1)).flatten=(xss.take i).flatten++xss.getD i []:=by
 have e:xss.getD i []=xss[i]:=by simp [List.getD,List.getElem?_eq_getElem h]
 rw [List.take_succ_eq_append_getElem h,List.flatten_append,e]
 simp only [List.flatten_cons,List.flatten_nil,List.append_nil]
theorem flat_len (xss:List (List Int)) (i:Nat):(xss.take i).flatten.length≤xss.flatten.length:=by
 conv=>rhs;rw [← List.take_append_drop i xss]
 rw [List.flatten_append,List.length_append]
 omega
theorem take_snoc8 {Z:List Int} {k:Nat} (h:k<Z.length):Z.take (k+1)=Z.take k++[Z.getD k 0]:=by
 rw [List.take_succ_eq_append_getElem h]
 simp [List.getD,List.getElem?_eq_getElem h]

theorem mapOf_is (a:Option Addr) (n c:Nat) (xss:List (List Int)) (w:World) (h:RowsI w a n c xss) (hn:n≤1000000) (hT:xss.flatten.length≤1000000000) (hF:∀ x ∈ xss.flatten,(Lit.int .i64 x).wf=true) :
  Calls Tryz.prog 133 #[.slice a n c] w fun e w'=>MapGot e w' w.heap.size xss.flatten∧Below w.heap.size w w':=by
 have hmm:=@run_makeMap Tryz.prog
 have hl:=h.1
 have hm0:(w.alloc (.map #[] 0)).ownsMap Tryz.prog 3 (plainElem Tryz.prog 3) w.heap.size 0 (.map []:DataW Unit):=World.ownsMap_made (H:=Unit) w Tryz.prog 3 (plainElem Tryz.prog 3)
 have hb0:Below w.heap.size w (w.alloc (.map #[] 0)):=⟨rfl,rfl,rfl,by simp,fun k hk=>Below.heap_alloc w _ k hk⟩
 obtain ⟨R,hR⟩:∃ R:World→Nat→List Int→Prop,∀ wr tot xs,R wr tot xs↔(∃ D:DataW Unit,wr.ownsMap Tryz.prog 3 (plainElem Tryz.prog 3) w.heap.size tot D∧SetD D xs)∧Below w.heap.size w wr:=⟨fun wr tot xs=>(∃ D:DataW Unit,wr.ownsMap Tryz.prog 3 (plainElem Tryz.prog 3) w.heap.size tot D∧SetD D xs)∧Below w.heap.size w wr,fun _ _ _=>Iff.rfl⟩
 have hR0:R (w.alloc (.map #[] 0)) 0 []:=(hR _ _ _).2 ⟨⟨_,hm0,SetD.start⟩,hb0⟩
 clear hm0 hb0
 go_enter Tryz.func133,Tryz.ntmps133
 go_wp2_with fail
 go_loopw [11] (fun si wr=>∃ i:Nat,i≤n∧si=.int .i64 i∧R wr ((xss.take i).flatten.length) ((xss.take i).flatten)) (fun si _=>n - (Go.RowKit.intOf si).toNat)
 case atStart=>exact ⟨0,by omega,rfl,by simpa using hR0⟩
 case round =>
  obtain ⟨i,hi,rfl,hr⟩:=hrel
  by_cases hlt:i<n
  ·have hlt':(i:Int)<(n:Int):=by omega
   obtain ⟨b,off,la,ln,lc,rfl,hcw,hI⟩:=h.cell hlt
   have hI0:=hI
   have hc:=hcw
   rw [← ((hR _ _ _).1 hr).2.cell (p:=⟨b,off+i,none⟩) (lt_of_cell hcw)] at hc
   obtain ⟨zs,hzs⟩:∃ zs,zs=xss.getD i []:=⟨_,rfl⟩
   have hfl:=flat_take (xss:=xss) (i:=i) (by omega)
   have hle:=flat_len xss (i+1)
   rw [hfl,List.length_append] at hle
   rw [← hzs] at hI hI0 hfl hle
   have hlz:=hI.1
   have hzm:∀ x ∈ zs,(Lit.int .i64 x).wf=true:=fun x hx=>hF x (by
    rw [hzs] at hx
    have hi2:i<xss.length:=by omega
    rw [List.mem_flatten]
    refine ⟨xss.getD i [],?_,hx⟩
    simp [List.getD,List.getElem?_eq_getElem hi2])
   clear hzs
   obtain ⟨ys,hys⟩:∃ ys,ys=(xss.take i).flatten:=⟨_,rfl⟩
   rw [← hys] at hr hfl hle
   have HF:Hid ((xss.take (i+1)).flatten=ys++zs):=hfl
   have hbW:=((hR _ _ _).1 hr).2
   clear hys hfl
   go_wp2_with fail
   go_loopw [17] (fun sj wq=>∃ j:Nat,j≤ln∧sj=.int .i64 j∧R wq (ys.length+j) (ys++zs.take j)) (fun sj _=>ln - (Go.RowKit.intOf sj).toNat)
   case atStart=>exact ⟨0,by omega,rfl,by simpa using hr⟩
   case round =>
    obtain ⟨j,hj,rfl,hq⟩:=hrel
    by_cases hlj:j<ln
    ·have hlj':(j:Int)<(ln:Int):=by omega
     obtain ⟨⟨D,hm,hS⟩,hbl⟩:=(hR _ _ _).1 hq
     obtain ⟨_,_,_,hcase⟩:=hI0.below hbl
     rcases hcase with e0 | ⟨lb,lo,rfl,_,hcc⟩
     ·omega
     have d0:=hcc j hlj
     have hx:=hzm (zs.getD j 0) (by simp [List.getD,List.getElem?_eq_getElem (show j<zs.length by omega)])
     have hsn:ys++zs.take (j+1)=(ys++zs.take j)++[zs.getD j 0]:=by rw [take_snoc8 (by omega),List.append_assoc]
     have HS:Hid (ys++zs.take (j+1)=(ys++zs.take j)++[zs.getD j 0]):=hsn
     have hlen:(ys++zs.take j).length=ys.length+j:=by simp;omega
     generalize zs.getD j 0=x at d0 hx HS
     have hkey:=key_int8 hx
     have hT2:ys.length+j≤1000000000:=by omega
     clear hcc hI hI0 hzm hc hcw hsn hF hx
     have hbn:∀ c:Int,D.atKey (.int .i64 x) (.lit (.int .i64 0))=.lit (.int .i64 c)→(0≤c∧c≤1000000000)∧SetD (D.put (.int .i64 x) (.lit (.int .i64 (c+1)))) (ys++zs.take j++[x]):=fun c hat=>by
      have:=hS.bnd x c hat
      exact ⟨by omega,hS.put hm.isMap this.1 this.2⟩
     clear hS hlen
     go_wp2_with (first | (at_lookup;refine wpList_lookup_own_int _ rfl _ _ 188 rfl 3 3 .i64 law_int8 Tryz.underlying188 Tryz.underlying3 (zero_int8 _) w.heap.size (ys.length+j) D rfl hm _ _ rfl hkey ?_;intro cc hat hwc;obtain ⟨⟨hc0,hc1⟩,hSP⟩:=hbn cc hat;clear hbn hat hwc) | (at_mapUpdate;refine wpList_mapUpdate_own _ rfl _ _ _ 188 rfl 3 3 law_int8 Tryz.underlying188 _ w.heap.size (ys.length+j) D rfl hm (by unfold maxLen;omega) _ _ _ rfl rfl hkey _ [] (plainElem_int Tryz.underlying3 (fits8 (by omega) (by omega))) ?_;intro w3 hm3 g3))
     have hb3:Below w.heap.size w w3:=hbl.grown g3 hbl.size (fun k e=>by cases e;exact Nat.le_refl _)
     go_roundw
     case rel=>exact ⟨j+1,by omega,by go_num,(hR _ _ _).2 ⟨⟨_,by rw [← Nat.add_assoc];exact hm3,by rw [HS.out];exact hSP⟩,hb3⟩⟩
     case measure=>simp [Go.RowKit.intOf];omega
    ·obtain rfl:j=ln:=by omega
     have e9:zs.take j=zs:=List.take_of_length_le (by omega)
     rw [e9,← hlz,← List.length_append,← HF.out] at hq
     clear e9 HF
     go_wp2
     go_roundw
     case rel=>exact ⟨i+1,by omega,by go_num,hq⟩
     case measure=>simp [Go.RowKit.intOf];omega
  ·obtain rfl:i=n:=by omega
   have e9:xss.take i=xss:=List.take_of_length_le (by omega)
   rw [e9,hR] at hr
   obtain ⟨⟨D,hm,hS⟩,hbl⟩:=hr
   clear e9
   go_wp2
   go_ret
   exact ⟨⟨rfl,D,hm,hS⟩,hbl⟩


def putI:List Int→Int→List Int
 | [],n=>[n]
 | x::xs,n=>if x<n then x::putI xs n else if x=n then x::xs else n::x::xs
def mrgI (xs:List Int):List Int:=xs.foldl putI []
theorem putI_mem:∀ (xs:List Int) (n y:Int),y ∈ putI xs n↔y=n∨y ∈ xs
 | [],n,y=>by simp [putI]
 | x::xs,n,y=>by
  unfold putI
  split
  ·simp only [List.mem_cons,putI_mem xs n y]
   constructor
   ·rintro (h | h | h)
    ·exact .inr (.inl h)
    ·exact .inl h
    ·exact .inr (.inr h)
   ·rintro (h | h | h)
    ·exact .inr (.inl h)
    ·exact .inl h
    ·exact .inr (.inr h)
  ·split
   ·rename_i h
    subst h
    simp
   ·simp
theorem putI_rises:∀ (xs:List Int) (n:Int),xs.Pairwise (· < ·)→(putI xs n).Pairwise (· < ·)
 | [],n,_=>by simp [putI]
 | x::xs,n,h=>by
  obtain ⟨h1,h2⟩:=List.pairwise_cons.1 h
  unfold putI
  split
  ·rename_i hx
   refine List.pairwise_cons.2 ⟨fun y hy=>?_,putI_rises xs n h2⟩
   rcases (putI_mem xs n y).1 hy with rfl | hy
   ·exact hx
   ·exact h1 y hy
  ·split
   ·exact h
   ·refine List.pairwise_cons.2 ⟨fun y hy=>?_,h⟩
    rcases List.mem_cons.1 hy with rfl | hy
    ·omega
    ·have:=h1 y hy
     omega
theorem foldl_putI:∀ (xs acc:List Int),acc.Pairwise (· < ·)→(xs.foldl putI acc).Pairwise (· < ·)∧∀ y,y ∈ xs.foldl putI acc↔y ∈ acc∨y ∈ xs
 | [],acc,h=>⟨h,fun y=>by simp⟩
 | x::xs,acc,h=>by
  obtain ⟨h1,h2⟩:=foldl_putI xs (putI acc x) (putI_rises acc x h)
  refine ⟨h1,fun y=>?_⟩
  rw [List.foldl_cons,h2,putI_mem,List.mem_cons]
  constructor
  ·rintro ((h | h) | h)
   ·exact .inr (.inl h)
   ·exact .inl h
   ·exact .inr (.inr h)
  ·rintro (h | h | h)
   ·exact .inl (.inr h)
   ·exact .inl (.inl h)
   ·exact .inr h
theorem mrgI_rises (xs:List Int):(mrgI xs).Pairwise (· < ·):=(foldl_putI xs [] List.Pairwise.nil).1
theorem mrgI_mem (xs:List Int) (y:Int):y ∈ mrgI xs↔y ∈ xs:=by
 have:=(foldl_putI xs [] List.Pairwise.nil).2 y
 simpa [mrgI] using this
theorem rises_nodup {xs:List Int} (h:xs.Pairwise (· < ·)):xs.Nodup:=h.imp (fun h e=>by subst e;exact absurd h (by omega))
theorem rises_eq {xs ys:List Int} (h:xs.Pairwise (· < ·)) (h':ys.Pairwise (· < ·)) (hm:∀ y,y ∈ xs↔y ∈ ys):xs=ys:=by
 have hp:xs.Perm ys:=(List.perm_ext_iff_of_nodup (rises_nodup h) (rises_nodup h')).2 hm
 exact hp.eq_of_pairwise (le:=fun a b=>a<b) (fun a b _ _ h1 h2=>absurd h1 (by omega)) h h'
theorem mrgI_eq {xs ys:List Int} (h:∀ y,y ∈ xs↔y ∈ ys):mrgI xs=mrgI ys:=rises_eq (mrgI_rises xs) (mrgI_rises ys) (fun y=>by rw [mrgI_mem,mrgI_mem,h])
theorem putI_len (xs:List Int) (n:Int):(putI xs n).length≤xs.length+1:=by
 induction xs with
 | nil=>simp [putI]
 | cons x xs ih =>
  unfold putI
  split
  ·simp;omega
  ·split<;>simp
theorem foldl_putI_len:∀ (xs acc:List Int),(xs.foldl putI acc).length≤acc.length+xs.length
 | [],acc=>by simp
 | x::xs,acc=>by
  have:=foldl_putI_len xs (putI acc x)
  have:=putI_len acc x
  simp
  omega
theorem mrgI_len (xs:List Int):(mrgI xs).length≤xs.length:=by simpa [mrgI] using foldl_putI_len xs []
theorem putI_at:∀ (xs:List Int) (n:Int) (k:Nat),k≤xs.length→(∀ i,i<k→xs.getD i 0<n)→(k=xs.length∨¬ xs.getD k 0<n)→putI xs n=if k<xs.length∧xs.getD k 0=n then xs else xs.take k++[n]++xs.drop k
 | [],n,k,hk,_,_=>by
  have:k=0:=by simpa using hk
  subst this
  simp [putI]
 | x::xs,n,0,_,_,h=>by
  have hx:¬ x<n:=by simpa using h
  unfold putI
  rw [if_neg hx]
  simp
 | x::xs,n,k+1,hk,hl,h=>by
  have hx:x<n:=by simpa using hl 0 (by omega)
  unfold putI
  rw [if_pos hx]
  have ih:=putI_at xs n k (by simpa using hk) (fun i hi=>by simpa using hl (i+1) (by omega)) (by simpa using h)
  rw [ih]
  simp only [List.length_cons,Nat.add_lt_add_iff_right,List.getD_cons_succ,List.take_succ_cons,List.drop_succ_cons]
  split<;>simp
end Go.Proofs.YtfpopbbmnbehiaaGreatDoor
