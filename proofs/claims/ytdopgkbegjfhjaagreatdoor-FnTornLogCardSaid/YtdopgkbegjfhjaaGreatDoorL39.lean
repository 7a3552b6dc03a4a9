/-
  Joined: TxeP, BackP, FmmP, MemI, CmpB.
-/
import Derived.Deep.Cut
import Derived.Lib.FieldsP
import Derived.Laws.AppendOwnNone
import Derived.Shelf.SlSortCmp.Insertion
import Derived.Test.YtdopgkbegjfhjaaGreatDoorL21

namespace Go.Proofs.YtdopgkbegjfhjaaGreatDoor
set_option maxRecDepth 100000
set_option maxHeartbeats 16000000
open Go.RowKit
set_option linter.unusedVariables false
set_option linter.unusedSimpArgs false

def txtN (e:E3):List Int:=((e.2.1.length:Int)::rowNums e.2.1)++e.2.2
def txtE (e:E3):ByteArray:=e.1++strOfNums (packL (txtN e))
theorem riseB_okB {xs:List I3} (h:riseB xs=true):∀ x ∈ xs,okB x=true:=by
 intro x hx
 obtain ⟨t,ht,rfl⟩:=List.getElem_of_mem hx
 have:=allR_at h ht
 simp only [bStep,Bool.and_eq_true] at this
 simpa [List.getD,List.getElem?_eq_getElem ht] using this.1
theorem okB_small {x:I3} (h:okB x=true):(0≤x.1∧x.1≤14)∧(0≤x.2.1∧x.2.1≤2)∧0≤x.2.2∧x.2.2≤5:=by
 unfold okB at h
 split at h
 ·simp only [Bool.and_eq_true,decide_eq_true_eq] at h
  omega
 ·split at h
  ·simp only [Bool.and_eq_true,inB,decide_eq_true_eq] at h
   omega
  ·cases h
theorem riseI_itOk {xs:List Int} (h:riseI xs=true):∀ x ∈ xs,0≤x∧x≤22:=by
 intro x hx
 obtain ⟨t,ht,rfl⟩:=List.getElem_of_mem hx
 have:=(riseI_at h t ht).2
 simp only [List.getD,List.getElem?_eq_getElem ht,Option.getD_some,itOk,decide_eq_true_eq] at this
 omega
theorem entOk_parts {e:E3} (h:entOk e=true):keyOk9 e.1=true∧riseB e.2.1=true∧riseI e.2.2=true∧e.2.1.length≤30:=by
 simp only [entOk,Bool.and_eq_true,decide_eq_true_eq] at h
 exact h
theorem txtN_ok {e:E3} (h:entOk e=true):allOk (txtN e):=by
 obtain ⟨_,h1,h2,h3⟩:=entOk_parts h
 intro z hz
 unfold txtN at hz
 rcases List.mem_append.1 hz with hz | hz
 ·rcases List.mem_cons.1 hz with rfl | hz
  ·omega
  ·unfold rowNums at hz
   obtain ⟨x,hx,hz⟩:=List.mem_flatMap.1 hz
   have:=okB_small (riseB_okB h1 x hx)
   simp only [List.mem_cons,List.not_mem_nil,or_false] at hz
   omega
 ·have:=riseI_itOk h2 z hz
  omega
theorem txtN_len {e:E3} (h:entOk e=true):(txtN e).length≤114:=by
 have h1:=entOk_bugs h
 have h2:=entOk_foot h
 unfold txtN
 rw [List.length_append,List.length_cons,rowNums_length]
 omega
theorem packL_size {zs:List Int}:(strOfNums (packL zs)).size≤5+5*zs.length:=by
 rw [strOfNums_size]
 unfold packL
 rw [List.length_append]
 have:=packs_len zs
 have:=pack_len zs.length
 omega

open Go.RowKit Go.Lib

theorem bt_left (a b:ByteArray) (i:Nat) (h:i<a.size):bt (a++b) i=bt a i:=by
 unfold bt
 rw [dif_pos h,dif_pos (by rw [ByteArray.size_append];omega),ByteArray.getElem_append_left h]
theorem bt_right (a b:ByteArray) (i:Nat) (h:i<b.size):bt (a++b) (a.size+i)=bt b i:=by
 unfold bt
 rw [dif_pos h,dif_pos (by rw [ByteArray.size_append];omega),ByteArray.getElem_append_right (by omega)]
 congr 1
 simp

theorem extract_right (a b:ByteArray):(a++b).extract a.size (a++b).size=b:=by
 apply ByteArray.ext
 simp [ByteArray.data_extract,ByteArray.size_append]
 rw [Array.extract_empty_of_size_le_start (by simp),← ByteArray.size_data,Array.extract_size]
 simp
theorem extract_mid (a b c:ByteArray):(a++(b++c)).extract a.size (a.size+b.size)=b:=by
 apply ByteArray.ext
 simp [ByteArray.data_extract]
 rw [Array.extract_empty_of_size_le_start (by simp),← ByteArray.size_data,Array.extract_size]
 simp
theorem triples_nums:∀ (r:List I3),triples (rowNums r)=r
 | []=>rfl
 | x::r=>by
  have e:rowNums (x::r)=x.1::x.2.1::x.2.2::rowNums r:=by simp [rowNums]
  rw [e,triples,triples_nums r]
theorem parse_nums:∀ (rows:List (List I3)),parse rows.length (progNums rows)=some rows
 | []=>rfl
 | r::rows=>by
  have e:progNums (r::rows)=(r.length:Int)::(rowNums r++progNums rows):=by simp [progNums]
  have hl:=rowNums_length r
  rw [e,List.length_cons,parse_step (by rw [List.length_append,hl];omega),Int.toNat_natCast]
  have d1:(rowNums r++progNums rows).drop (3*r.length)=progNums rows:=by rw [show 3*r.length=(rowNums r).length by omega];simp
  have d2:(rowNums r++progNums rows).take (3*r.length)=rowNums r:=by rw [show 3*r.length=(rowNums r).length by omega];simp
  rw [d1,d2,parse_nums rows,triples_nums]
  rfl


theorem extract_left9 (a b:ByteArray):(a++b).extract 0 a.size=a:=by
 have:=extract_mid ByteArray.empty a b
 simpa using this
theorem rd_back {e:E3} (h:entOk e=true):RdOk (txtE e) e:=by
 have hk:=entOk_key h
 have hl:=txtN_len h
 obtain ⟨ns,en,mn⟩:=nats_of (txtN_ok h)
 have ln:ns.length=(txtN e).length:=by rw [en];simp
 have L:=listed_pack mn (by omega)
 rw [← packL_nats,← en] at L
 have hs:=packL_size (zs:=txtN e)
 have hz:(txtE e).size=15+(strOfNums (packL (txtN e))).size:=by unfold txtE;simp [hk]
 have e1:(txtE e).extract 15 (txtE e).size=strOfNums (packL (txtN e)):=by
  have:=extract_right e.1 (strOfNums (packL (txtN e)))
  rw [hk] at this
  exact this
 have e2:(txtE e).extract 0 15=e.1:=by
  have:=extract_left9 e.1 (strOfNums (packL (txtN e)))
  rw [hk] at this
  exact this
 have hcons:txtN e=(e.2.1.length:Int)::(rowNums e.2.1++e.2.2):=rfl
 have h0:ns.getD 0 0=e.2.1.length:=by
  rw [hcons] at en
  cases ns with
  | nil=>simp at en
  | cons x xs =>
   simp only [List.map_cons,List.cons.injEq] at en
   simp only [List.getD_cons_zero]
   omega
 have h1:1+3*e.2.1.length+e.2.2.length=ns.length:=by
  rw [ln,hcons,List.length_cons,List.length_append,rowNums_length]
  omega
 have ex:ofNats ns=txtN e:=en.symm
 have hent:entZ ((txtE e).extract 0 15) ns=e:=by
  unfold entZ
  rw [e2,ex,h0,hcons]
  have d1:((e.2.1.length:Int)::(rowNums e.2.1++e.2.2)).drop 1=rowNums e.2.1++e.2.2:=rfl
  have d2:((e.2.1.length:Int)::(rowNums e.2.1++e.2.2)).drop (1+3*e.2.1.length)=e.2.2:=by
   rw [Nat.add_comm,List.drop_succ_cons]
   have:=rowNums_length e.2.1
   rw [show 3*e.2.1.length=(rowNums e.2.1).length by omega,List.drop_left]
  have d3:(rowNums e.2.1++e.2.2).take (3*e.2.1.length)=rowNums e.2.1:=by
   have:=rowNums_length e.2.1
   rw [show 3*e.2.1.length=(rowNums e.2.1).length by omega,List.take_left]
  rw [d1,d2,d3,triples_nums]
 refine ⟨by omega,by omega,ns,by rw [e1];exact L,by omega,by rw [h0];omega,hent.symm,h⟩


theorem news_new9 (w:World) (cs:List Value) (t:TypeId):∀ ad,some (⟨w.heap.size,0,none⟩:Addr)=some ad→∀ j u,cs[j]?=some u→(w.alloc (.cells cs.toArray t)).cell? (ad.add j)=some u:=by
 intro ad ha j u hj
 cases ha
 have e:(⟨w.heap.size,0,none⟩:Addr).add j=⟨w.heap.size,0+j,none⟩:=by unfold Addr.add;split<;>simp_all
 rw [e,Nat.zero_add]
 have p:Blk (w.alloc (.cells cs.toArray t)) w.heap.size t cs:=blkAt _ _ _ rfl
 rw [p.cell j]
 exact hj

open Go.RowKit Go.Sort

def cmpI (a b:Int):Int:=if a<b then -1 else if b<a then 1 else 0
def orI (a b c:Int):Int:=if a≠0 then a else if b≠0 then b else c
def cmpB (x y:I3):Int:=orI (cmpI x.1 y.1) (cmpI x.2.1 y.2.1) (cmpI x.2.2 y.2.2)
theorem cmpB_lt (x y:I3):ltOf cmpB x y=ltB x y:=by
 unfold ltOf cmpB orI cmpI ltB
 by_cases a1:x.1<y.1
 ·simp [a1]
 by_cases a2:y.1<x.1
 ·have:¬ (x.1=y.1):=by omega
  simp [a1,a2,this]
 have a3:x.1=y.1:=by omega
 by_cases b1:x.2.1<y.2.1
 ·simp [a3,b1]
 by_cases b2:y.2.1<x.2.1
 ·have:¬ (x.2.1=y.2.1):=by omega
  simp [a3,b1,b2,this]
 have b3:x.2.1=y.2.1:=by omega
 by_cases c1:x.2.2<y.2.2
 ·simp [a3,b3,c1]
 by_cases c2:y.2.2<x.2.2
 ·simp [a3,b3,c1,c2]
 ·simp [a3,b3,c1,c2]
theorem cmpCompare_is (a b:Int) (w:World):Calls Tryz.prog 132 #[.int .i64 a,.int .i64 b] w fun e w'=>e=.returned (.int .i64 (cmpI a b))∧w=w':=by
 have ha:(a != a)=false:=by simp
 have hb:(b != b)=false:=by simp
 unfold cmpI
 by_cases h1:a<b
 ·rw [if_pos h1]
  go_enter Tryz.func132,Tryz.ntmps132
  go_wp2
  go_ret
  exact ⟨rfl,rfl⟩
 ·rw [if_neg h1]
  by_cases h2:b<a
  ·rw [if_pos h2]
   go_enter Tryz.func132,Tryz.ntmps132
   go_wp2
   go_ret
   exact ⟨rfl,rfl⟩
  ·rw [if_neg h2]
   go_enter Tryz.func132,Tryz.ntmps132
   go_wp2
   go_ret
   exact ⟨rfl,rfl⟩

theorem cmpOr_is (g:Nat) (a b c:Int) (w:World) (h0:w.cell? ⟨g,0,none⟩=some (.int .i64 a)) (h1:w.cell? ⟨g,1,none⟩=some (.int .i64 b)) (h2:w.cell? ⟨g,2,none⟩=some (.int .i64 c)) :
  Calls Tryz.prog 160 #[.slice (some ⟨g,0,none⟩) 3 3] w fun e w'=>e=.returned (.int .i64 (orI a b c))∧w=w':=by
 unfold orI
 by_cases ha:a=0
 ·subst ha
  simp only [ne_eq,not_true_eq_false,if_false]
  by_cases hb:b=0
  ·subst hb
   simp only [ne_eq,not_true_eq_false,if_false]
   by_cases hc:c=0
   ·subst hc
    go_enter Tryz.func160,Tryz.ntmps160
    go_wp2
    refine wp_loop_rounds 4 ?_
    rw [rounds_succ]
    go_wp2
    rw [rounds_succ]
    go_wp2
    rw [rounds_succ]
    go_wp2
    rw [rounds_succ]
    go_wp2
    go_ret
    exact ⟨rfl,rfl⟩
   ·go_enter Tryz.func160,Tryz.ntmps160
    go_wp2
    refine wp_loop_rounds 3 ?_
    rw [rounds_succ]
    go_wp2
    rw [rounds_succ]
    go_wp2
    rw [rounds_succ]
    go_wp2
    go_ret
    exact ⟨rfl,rfl⟩
  ·simp only [ne_eq,hb,not_false_eq_true,if_true]
   go_enter Tryz.func160,Tryz.ntmps160
   go_wp2
   refine wp_loop_rounds 2 ?_
   rw [rounds_succ]
   go_wp2
   rw [rounds_succ]
   go_wp2
   go_ret
   exact ⟨rfl,rfl⟩
 ·simp only [ne_eq,ha,not_false_eq_true,if_true]
  go_enter Tryz.func160,Tryz.ntmps160
  go_wp2
  refine wp_loop_rounds 1 ?_
  rw [rounds_succ]
  go_wp2
  go_ret
  exact ⟨rfl,rfl⟩

theorem compareBugs_is (x y:I3) (w:World) :
  Calls Tryz.prog 135 #[.agg #[.int .i64 x.1,.int .i64 x.2.1,.int .i64 x.2.2],.agg #[.int .i64 y.1,.int .i64 y.2.1,.int .i64 y.2.2]] w fun e w'=>e=.returned (.int .i64 (cmpB x y))∧∃ q os,w'=grow (w.drewN q) os:=by
 obtain ⟨x0,x1,x2⟩:=x
 obtain ⟨y0,y1,y2⟩:=y
 unfold cmpB
 simp only
 have k0:=fun W=>cmpCompare_is x0 y0 W
 have k1:=fun W=>cmpCompare_is x1 y1 W
 have k2:=fun W=>cmpCompare_is x2 y2 W
 generalize cmpI x0 y0=p0 at *
 generalize cmpI x1 y1=p1 at *
 generalize cmpI x2 y2=p2 at *
 have HW:Hid (∃ q os,((w.alloc (.cells #[.int .i64 x0,.int .i64 x1,.int .i64 x2] 112)).alloc (.cells #[.int .i64 y0,.int .i64 y1,.int .i64 y2] 112)).drew.alloc (.cells #[.int .i64 p0,.int .i64 p1,.int .i64 p2] 3)=grow (w.drewN q) os):=⟨1,#[.cells #[.int .i64 x0,.int .i64 x1,.int .i64 x2] 112]++#[.cells #[.int .i64 y0,.int .i64 y1,.int .i64 y2] 112]++#[.cells #[.int .i64 p0,.int .i64 p1,.int .i64 p2] 3],by
  rw [alloc_eq_grow,alloc_eq_grow,alloc_eq_grow]
  simp only [grow,World.drew,World.drewN,Array.append_assoc]⟩
 have c0:((w.alloc (.cells #[.int .i64 x0,.int .i64 x1,.int .i64 x2] 112)).alloc (.cells #[.int .i64 y0,.int .i64 y1,.int .i64 y2] 112)).cell? ⟨w.heap.size,0,none⟩=some (.int .i64 x0):=by simp [go_sem]
 have c1:((w.alloc (.cells #[.int .i64 x0,.int .i64 x1,.int .i64 x2] 112)).alloc (.cells #[.int .i64 y0,.int .i64 y1,.int .i64 y2] 112)).cell? ⟨w.heap.size,1,none⟩=some (.int .i64 x1):=by simp [go_sem]
 have c2:((w.alloc (.cells #[.int .i64 x0,.int .i64 x1,.int .i64 x2] 112)).alloc (.cells #[.int .i64 y0,.int .i64 y1,.int .i64 y2] 112)).cell? ⟨w.heap.size,2,none⟩=some (.int .i64 x2):=by simp [go_sem]
 have e0:((w.alloc (.cells #[.int .i64 x0,.int .i64 x1,.int .i64 x2] 112)).alloc (.cells #[.int .i64 y0,.int .i64 y1,.int .i64 y2] 112)).cell? ⟨w.heap.size+1,0,none⟩=some (.int .i64 y0):=by simp [go_sem]
 have e1:((w.alloc (.cells #[.int .i64 x0,.int .i64 x1,.int .i64 x2] 112)).alloc (.cells #[.int .i64 y0,.int .i64 y1,.int .i64 y2] 112)).cell? ⟨w.heap.size+1,1,none⟩=some (.int .i64 y1):=by simp [go_sem]
 have e2:((w.alloc (.cells #[.int .i64 x0,.int .i64 x1,.int .i64 x2] 112)).alloc (.cells #[.int .i64 y0,.int .i64 y1,.int .i64 y2] 112)).cell? ⟨w.heap.size+1,2,none⟩=some (.int .i64 y2):=by simp [go_sem]
 go_enter Tryz.func135,Tryz.ntmps135
 go_wp2_with fail
 generalize ((w.alloc (.cells #[.int .i64 x0,.int .i64 x1,.int .i64 x2] 112)).alloc (.cells #[.int .i64 y0,.int .i64 y1,.int .i64 y2] 112))=W at *
 refine wp_region_held_drew (S:=(fun w'=>w'.cell? ⟨w.heap.size,0,none⟩=some (.int .i64 x0)∧w'.cell? ⟨w.heap.size,1,none⟩=some (.int .i64 x1)∧w'.cell? ⟨w.heap.size,2,none⟩=some (.int .i64 x2)∧w'.cell? ⟨w.heap.size+1,0,none⟩=some (.int .i64 y0)∧w'.cell? ⟨w.heap.size+1,1,none⟩=some (.int .i64 y1)∧w'.cell? ⟨w.heap.size+1,2,none⟩=some (.int .i64 y2))) (by kernel_rfl) ⟨c0,c1,c2,e0,e1,e2⟩ (fun hS0=>?_)
 refine tkm 0 5 (.pointer (some ⟨w.heap.size,0,none⟩)) ?_
 refine tkm 1 6 (.int .i64 x0) ?_
 refine tkm 2 7 (.pointer (some ⟨w.heap.size+1,0,none⟩)) ?_
 refine tkm 3 8 (.int .i64 y0) ?_
 refine tkm 5 10 (.pointer (some ⟨w.heap.size,1,none⟩)) ?_
 refine tkm 6 11 (.int .i64 x1) ?_
 refine tkm 7 12 (.pointer (some ⟨w.heap.size+1,1,none⟩)) ?_
 refine tkm 8 13 (.int .i64 y1) ?_
 refine tkm 10 15 (.pointer (some ⟨w.heap.size,2,none⟩)) ?_
 refine tkm 11 16 (.int .i64 x2) ?_
 refine tkm 12 17 (.pointer (some ⟨w.heap.size+1,2,none⟩)) ?_
 refine tkm 13 18 (.int .i64 y2) ?_
 refine tkr 4 9 (fun K hK=>?_)
 go_simp
 refine (k0 _).mono ?_
 rintro e w5 ⟨rfl,rfl⟩
 go_wp2_with fail
 refine hK.out _ _ ⟨c0,c1,c2,e0,e1,e2⟩ (fun hS1=>?_)
 clear hK
 try simp only [Act.put,tka,tkb,tkc]
 refine tkr 9 14 (fun K hK=>?_)
 go_simp
 refine (k1 _).mono ?_
 rintro e w6 ⟨rfl,rfl⟩
 go_wp2_with fail
 refine hK.out _ _ ⟨c0,c1,c2,e0,e1,e2⟩ (fun hS2=>?_)
 clear hK
 try simp only [Act.put,tka,tkb,tkc]
 refine tkr 14 19 (fun K hK=>?_)
 go_simp
 refine (k2 _).mono ?_
 rintro e w7 ⟨rfl,rfl⟩
 go_wp2_with fail
 refine hK.out _ _ ⟨c0,c1,c2,e0,e1,e2⟩ (fun hS3=>?_)
 clear hK
 try simp only [Act.put,tka,tkb,tkc]
 have f0:(W.drew.alloc (.cells #[.int .i64 p0,.int .i64 p1,.int .i64 p2] 3)).cell? ⟨W.heap.size,0,none⟩=some (.int .i64 p0):=by simp [go_sem]
 have f1:(W.drew.alloc (.cells #[.int .i64 p0,.int .i64 p1,.int .i64 p2] 3)).cell? ⟨W.heap.size,1,none⟩=some (.int .i64 p1):=by simp [go_sem]
 have f2:(W.drew.alloc (.cells #[.int .i64 p0,.int .i64 p1,.int .i64 p2] 3)).cell? ⟨W.heap.size,2,none⟩=some (.int .i64 p2):=by simp [go_sem]
 have hal:Below W.heap.size W (W.drew.alloc (.cells #[.int .i64 p0,.int .i64 p1,.int .i64 p2] 3)):=by go_grown
 refine tkr 15 20 (fun K hK=>?_)
 go_simp
 refine hK.out _ _ ⟨cells_kept hal _ _ c0,cells_kept hal _ _ c1,cells_kept hal _ _ c2,cells_kept hal _ _ e0,cells_kept hal _ _ e1,cells_kept hal _ _ e2⟩ (fun hSa=>?_)
 clear hK
 try simp only [Act.put,tka,tkb,tkc]
 refine tkr 16 21 (fun K hK=>?_)
 go_simp
 refine (cmpOr_is W.heap.size p0 p1 p2 _ f0 f1 f2).mono ?_
 rintro e w9 ⟨rfl,rfl⟩
 go_wp2_with fail
 refine hK.out _ _ hSa (fun hSb=>?_)
 clear hK
 try simp only [Act.put,tka,tkb,tkc]
 refine tkm 17 4 (.int .i64 (orI p0 p1 p2)) ?_
 refine wpAnyH_done (by kernel_rfl) ?_ _
 clear hSa hSb c0 c1 c2 e0 e1 e2 f0 f1 f2 k0 k1 k2
 go_wp2
 go_ret
 exact ⟨rfl,HW.out⟩
end Go.Proofs.YtdopgkbegjfhjaaGreatDoor
