/-
  Joined: NumbersPlain, TxeP.
-/
import Derived.Test.YthmgampabhbpoaaDoorC10
import Derived.Test.YthmgampabhbpoaaDoorC29
import Derived.Test.YthmgampabhbpoaaDoorC32

namespace Go.Proofs.YthmgampabhbpoaaDoor
set_option maxRecDepth 100000
set_option maxHeartbeats 16000000

theorem nats_of {zs:List Int} (h:∀ z ∈ zs,0≤z∧z≤999999999):∃ ns:List Nat,zs=ns.map (fun z:Nat=>(z:Int))∧∀ n ∈ ns,n≤999999999:=by
 refine ⟨zs.map Int.toNat,?_,?_⟩
 ·rw [List.map_map]
  conv=>lhs;rw [← List.map_id zs]
  apply List.map_congr_left
  intro z hz
  have:=h z hz
  simp only [id,Function.comp]
  omega
 ·intro n hn
  obtain ⟨z,hz,rfl⟩:=List.mem_map.1 hn
  have:=h z hz
  omega
theorem packL_nats (ns:List Nat):packL (ns.map (fun z:Nat=>(z:Int)))=pack ns.length++packsN ns:=by
 unfold packL packs packsN
 rw [List.length_map]
 congr 1
 induction ns with
 | nil=>rfl
 | cons n ns ih=>simp [List.flatMap_cons,ih]
theorem packsN_byte {ns:List Nat} (h:∀ n ∈ ns,n≤999999999):∀ x ∈ packsN ns,0≤x∧x≤255:=by
 intro x hx
 obtain ⟨n,hn,hx⟩:=List.mem_flatMap.1 hx
 exact pack_byte n (by have:=h n hn;omega) x hx
theorem packL_byte {ns:List Nat} (h:∀ n ∈ ns,n≤999999999) (hl:ns.length≤4096):∀ x ∈ pack ns.length++packsN ns,0≤x∧x≤255:=by
 intro x hx
 rcases List.mem_append.1 hx with hx | hx
 ·exact pack_byte _ (by omega) x hx
 ·exact packsN_byte h x hx
theorem listed_pack {ns:List Nat} (h:∀ n ∈ ns,n≤999999999) (hl:ns.length≤4096):Listed (strOfNums (pack ns.length++packsN ns)) ns:=by
 have hb:=bytesAt_str _ (packL_byte h hl)
 have hn:=num_of_bytes (by omega) (bytesAt_left hb)
 refine listed_of hn hl (numsAt_of_bytes h ?_) rfl ?_
 ·simpa using bytesAt_right hb
 ·rw [strOfNums_size,List.length_append]

open Go.RowKit
set_option linter.unusedVariables false
set_option linter.unusedSimpArgs false

def txtN (e:E3):List Int:=((e.2.1.length:Int)::rowNums e.2.1)++e.2.2
def txtE (e:E3):ByteArray:=e.1++strOfNums (packL (txtN e))
theorem riseB_okB {xs:List I3} (h:riseB xs=true):∀ x ∈ xs,okB x=true:=by
 intro x hx
 obtain ⟨t,ht,rfl⟩:=List.getElem_of_mem hx
 have:=allR_at h ht
 simp only [bStep,Bool.and_eq_true] at this
 simpa [List.getD,List.getElem?_eq_getElem ht] using this.1
theorem okB_small {x:I3} (h:okB x=true):(0≤x.1∧x.1≤14)∧(0≤x.2.1∧x.2.1≤2)∧0≤x.2.2∧x.2.2≤5:=by
 unfold okB at h
 split at h
 ·simp only [Bool.and_eq_true,decide_eq_true_eq] at h
  omega
 ·split at h
  ·simp only [Bool.and_eq_true,inB,decide_eq_true_eq] at h
   omega
  ·cases h
theorem riseI_itOk {xs:List Int} (h:riseI xs=true):∀ x ∈ xs,0≤x∧x≤22:=by
 intro x hx
 obtain ⟨t,ht,rfl⟩:=List.getElem_of_mem hx
 have:=(riseI_at h t ht).2
 simp only [List.getD,List.getElem?_eq_getElem ht,Option.getD_some,itOk,decide_eq_true_eq] at this
 omega
theorem entOk_parts {e:E3} (h:entOk e=true):keyOk9 e.1=true∧riseB e.2.1=true∧riseI e.2.2=true∧e.2.1.length≤30:=by
 simp only [entOk,Bool.and_eq_true,decide_eq_true_eq] at h
 exact h
theorem txtN_ok {e:E3} (h:entOk e=true):allOk (txtN e):=by
 obtain ⟨_,h1,h2,h3⟩:=entOk_parts h
 intro z hz
 unfold txtN at hz
 rcases List.mem_append.1 hz with hz | hz
 ·rcases List.mem_cons.1 hz with rfl | hz
  ·omega
  ·unfold rowNums at hz
   obtain ⟨x,hx,hz⟩:=List.mem_flatMap.1 hz
   have:=okB_small (riseB_okB h1 x hx)
   simp only [List.mem_cons,List.not_mem_nil,or_false] at hz
   omega
 ·have:=riseI_itOk h2 z hz
  omega
theorem txtN_len {e:E3} (h:entOk e=true):(txtN e).length≤114:=by
 have h1:=entOk_bugs h
 have h2:=entOk_foot h
 unfold txtN
 rw [List.length_append,List.length_cons,rowNums_length]
 omega
theorem packL_inj {xs ys:List Int} (hx:allOk xs) (hy:allOk ys) (lx:xs.length≤4096) (ly:ys.length≤4096) (h:strOfNums (packL xs)=strOfNums (packL ys)):xs=ys:=by
 obtain ⟨na,ea,ma⟩:=nats_of hx
 obtain ⟨nb,eb,mb⟩:=nats_of hy
 have la':na.length=xs.length:=by rw [ea];simp
 have lb':nb.length=ys.length:=by rw [eb];simp
 have La:=listed_pack ma (by omega)
 have Lb:=listed_pack mb (by omega)
 rw [← packL_nats,← ea] at La
 rw [← packL_nats,← eb,← h] at Lb
 have hn:=La.only Lb
 rw [ea,eb,hn]
theorem rowNums_inj9:∀ {xs ys:List I3},rowNums xs=rowNums ys→xs=ys
 | [],[],_=>rfl
 | [],y::ys,h=>by simp [rowNums] at h
 | x::xs,[],h=>by simp [rowNums] at h
 | x::xs,y::ys,h=>by
  simp only [rowNums,List.flatMap_cons,List.cons_append,List.nil_append,List.cons.injEq] at h
  obtain ⟨h0,h1,h2,h3⟩:=h
  rw [rowNums_inj9 (show rowNums xs=rowNums ys from h3)]
  obtain ⟨x0,x1,x2⟩:=x
  obtain ⟨y0,y1,y2⟩:=y
  simp only at h0 h1 h2
  rw [h0,h1,h2]
theorem txtN_inj {e e':E3} (h:txtN e=txtN e'):e.2=e'.2:=by
 unfold txtN at h
 simp only [List.cons_append,List.cons.injEq] at h
 have hl:e.2.1.length=e'.2.1.length:=by omega
 obtain ⟨h2,h3⟩:=List.append_inj h.2 (by rw [rowNums_length,rowNums_length,hl])
 obtain ⟨_,b,f⟩:=e
 obtain ⟨_,b',f'⟩:=e'
 simp only at h2 h3
 rw [rowNums_inj9 h2,h3]
theorem app_inj9 {a b c d:ByteArray} (hl:a.size=c.size) (h:a++b=c++d):a=c∧b=d:=by
 have h1:a.data.toList++b.data.toList=c.data.toList++d.data.toList:=by
  have:=congrArg (fun x:ByteArray=>x.data.toList) h
  simpa [ByteArray.data_append] using this
 obtain ⟨h2,h3⟩:=List.append_inj h1 (by rw [Array.length_toList,Array.length_toList];exact hl)
 refine ⟨ByteArray.ext (Array.ext' h2),ByteArray.ext (Array.ext' h3)⟩
theorem txtE_inj {e e':E3} (h:entOk e=true) (h':entOk e'=true) (ht:txtE e=txtE e'):e=e':=by
 obtain ⟨h1,h2⟩:=app_inj9 (by rw [entOk_key h,entOk_key h']) ht
 have:=txtN_inj (packL_inj (txtN_ok h) (txtN_ok h') (by have:=txtN_len h;omega) (by have:=txtN_len h';omega) h2)
 obtain ⟨k,r⟩:=e
 obtain ⟨k',r'⟩:=e'
 simp only at h1 this
 rw [h1,this]
theorem packL_size {zs:List Int}:(strOfNums (packL zs)).size≤5+5*zs.length:=by
 rw [strOfNums_size]
 unfold packL
 rw [List.length_append]
 have:=packs_len zs
 have:=pack_len zs.length
 omega
end Go.Proofs.YthmgampabhbpoaaDoor
