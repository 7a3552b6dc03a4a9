/-
  Joined: RdP, BackP, FmmP, PtsI, InsK.
-/
import Derived.Laws.AppendOwn
import Derived.Lib.AppendZeros
import Derived.Test.YtbdfbdbpjijcdaaGreatDoorM45

namespace Go.Proofs.YtbdfbdbpjijcdaaGreatDoor
set_option maxRecDepth 100000
set_option maxHeartbeats 16000000
open Go.RowKit
set_option linter.unusedVariables false
set_option linter.unusedSimpArgs false

def entZ (key:ByteArray) (zs:List Nat):E3:=(key,triples (((ofNats zs).drop 1).take (3*zs.getD 0 0)),(ofNats zs).drop (1+3*zs.getD 0 0))
def RdOk (t:ByteArray) (e:E3):Prop:=t.size≤65536∧15≤t.size∧∃ zs,Listed (t.extract 15 t.size) zs∧1≤zs.length∧1+3*zs.getD 0 0≤zs.length∧e=entZ (t.extract 0 15) zs∧entOk e=true
theorem RdOk.only {t:ByteArray} {e e':E3} (h:RdOk t e) (h':RdOk t e'):e=e':=by
 obtain ⟨_,_,zs,h1,_,_,rfl,_⟩:=h
 obtain ⟨_,_,ys,g1,_,_,rfl,_⟩:=h'
 rw [h1.only g1]
theorem RdOk.ok {t:ByteArray} {e:E3} (h:RdOk t e):entOk e=true:=by
 obtain ⟨_,_,zs,h1,_,_,_,h9⟩:=h
 exact h9
def rdC (t:ByteArray):Int:=if 65536<t.size then 2 else 3
theorem wf_small9 {z:Int} (h:0≤z∧z≤999999999):(Lit.int .i64 z).wf=true:=by
 simp only [Lit.wf,Bool.and_eq_true,decide_eq_true_eq]
 have h1:IntKind.i64.min=-9223372036854775808:=by decide
 have h2:IntKind.i64.max=9223372036854775807:=by decide
 omega
theorem listed_small9 {s:ByteArray} {zs:List Nat} (h:Listed s zs):∀ z ∈ ofNats zs,0≤z∧z≤999999999:=by
 obtain ⟨k,_,_,hz⟩:=h
 intro z hm
 obtain ⟨y,hy,rfl⟩:=List.mem_map.1 hm
 have:=numsAt_small hz y hy
 exact ⟨by omega,by omega⟩
theorem entZ_fits {s key:ByteArray} {zs:List Nat} (h:Listed s zs) (hk:key.size≤maxLen):(entZ key zs).fits:=by
 have hs:=listed_small9 h
 refine ⟨hk,fun x hx=>?_,fun z hz=>wf_small9 (hs z (List.mem_of_mem_drop hz))⟩
 obtain ⟨m1,m2,m3⟩:=triples_mem _ x hx
 exact ⟨wf_small9 (hs _ (List.mem_of_mem_drop (List.mem_of_mem_take m1))),wf_small9 (hs _ (List.mem_of_mem_drop (List.mem_of_mem_take m2))),wf_small9 (hs _ (List.mem_of_mem_drop (List.mem_of_mem_take m3)))⟩
theorem cut15 {t:ByteArray} (h:15≤t.size):(t.extract 0 15).size=15:=by simp;omega
theorem RdOk.fits {t:ByteArray} {e:E3} (h:RdOk t e):e.fits:=by
 obtain ⟨_,h15,zs,h1,_,_,rfl,_⟩:=h
 exact entZ_fits h1 (by rw [cut15 h15];unfold maxLen;omega)
theorem noList_nil {s:ByteArray} (h:s.size=0):NoList s:=by
 rintro zs ⟨k,hk,_,_⟩
 have:=hk.le
 have:=hk.one
 omega
theorem RdOk.more {t:ByteArray} {e:E3} (h:RdOk t e):15<t.size:=by
 obtain ⟨_,h15,zs,h1,_⟩:=h
 rcases Nat.lt_or_ge 15 t.size with h | h
 ·exact h
 ·exact absurd h1 (noList_nil (by simp;omega) zs)
theorem btV_cut {t:ByteArray} (h:15≤t.size) {i:Nat} (hi:i<15):btV (t.extract 0 15) i=(bt t i:Int):=by
 have h1:i<t.size:=by omega
 have h2:i<(t.extract 0 15).size:=by rw [cut15 h];exact hi
 unfold btV bt
 rw [dif_pos h1]
 have h3:i<(t.extract 0 15).data.toList.length:=by rw [Array.length_toList];exact h2
 have e:(t.extract 0 15).data.toList.getD i 0=t[i]'h1:=by
  rw [List.getD,List.getElem?_eq_getElem h3,Option.getD_some,Array.getElem_toList]
  have:=ByteArray.getElem_extract (i:=i) (start:=0) (stop:=15) (b:=t) h2
  simp only [Nat.zero_add] at this
  exact this
 rw [e]
theorem allIn_fill {s:ByteArray} {off n:Nat} {k high:Int} (h:allIn (fillL s off n 15) k high=true) (hh:high≤9) {i:Nat} (h1:off≤i) (h2:i<off+n) (h3:i<15):48≤btV s i∧btV s i≤57:=by
 unfold allIn at h
 simp only [Bool.and_eq_true,List.all_eq_true,decide_eq_true_eq] at h
 have hm:btV s i - 48 ∈ fillL s off n 15:=by
  unfold fillL
  refine List.mem_map.2 ⟨i - off,by simp;omega,?_⟩
  rw [show off+(i - off)=i by omega,if_pos h3]
 have:=h.1 _ hm
 omega
theorem key_dig {t:ByteArray} (h:15≤t.size) (hk:keyOk9 (t.extract 0 15)=true):allDig t 15:=by
 intro i hi
 unfold keyOk9 at hk
 simp only [Bool.and_eq_true] at hk
 have hs:=hk.2
 unfold shapeOk bytesV partV at hs
 simp only [Bool.and_eq_true] at hs
 have hb:=btV_cut h hi
 have:48≤btV (t.extract 0 15) i∧btV (t.extract 0 15) i≤57:=by
  by_cases c1:i<3
  ·exact allIn_fill hs.1 (by omega) (by omega) (by omega) hi
  ·by_cases c2:i<7
   ·exact allIn_fill hs.2.1 (by omega) (by omega) (by omega) hi
   ·by_cases c3:i<9
    ·exact allIn_fill hs.2.2.1 (by omega) (by omega) (by omega) hi
    ·exact allIn_fill hs.2.2.2 (by omega) (by omega) (by omega) hi
 omega
theorem RdOk.dig {t:ByteArray} {e:E3} (h:RdOk t e):allDig t 15:=by
 have hk:=h.ok
 obtain ⟨_,h15,zs,h1,_,_,rfl,_⟩:=h
 refine key_dig h15 ?_
 unfold entOk at hk
 simp only [Bool.and_eq_true] at hk
 exact hk.1
theorem ofNats_len (zs:List Nat):(ofNats zs).length=zs.length:=by simp [ofNats]
theorem ofNats_head {zs:List Nat} (h:1≤zs.length):(ofNats zs).getD 0 0=((zs.getD 0 0:Nat):Int):=by
 cases zs with
 | nil=>simp at h
 | cons x xs=>simp [ofNats]

open Go.RowKit Go.Lib

theorem extract_right (a b:ByteArray):(a++b).extract a.size (a++b).size=b:=by
 apply ByteArray.ext
 simp [ByteArray.data_extract,ByteArray.size_append]
 rw [Array.extract_empty_of_size_le_start (by simp),← ByteArray.size_data,Array.extract_size]
 simp
theorem extract_mid (a b c:ByteArray):(a++(b++c)).extract a.size (a.size+b.size)=b:=by
 apply ByteArray.ext
 simp [ByteArray.data_extract]
 rw [Array.extract_empty_of_size_le_start (by simp),← ByteArray.size_data,Array.extract_size]
 simp
theorem triples_nums:∀ (r:List I3),triples (rowNums r)=r
 | []=>rfl
 | x::r=>by
  have e:rowNums (x::r)=x.1::x.2.1::x.2.2::rowNums r:=by simp [rowNums]
  rw [e,triples,triples_nums r]


theorem extract_left9 (a b:ByteArray):(a++b).extract 0 a.size=a:=by
 have:=extract_mid ByteArray.empty a b
 simpa using this
theorem rd_back {e:E3} (h:entOk e=true):RdOk (txtE e) e:=by
 have hk:=entOk_key h
 have hl:=txtN_len h
 obtain ⟨ns,en,mn⟩:=nats_of (txtN_ok h)
 have ln:ns.length=(txtN e).length:=by rw [en];simp
 have L:=listed_pack mn (by omega)
 rw [← packL_nats,← en] at L
 have hs:=packL_size (zs:=txtN e)
 have hz:(txtE e).size=15+(strOfNums (packL (txtN e))).size:=by unfold txtE;simp [hk]
 have e1:(txtE e).extract 15 (txtE e).size=strOfNums (packL (txtN e)):=by
  have:=extract_right e.1 (strOfNums (packL (txtN e)))
  rw [hk] at this
  exact this
 have e2:(txtE e).extract 0 15=e.1:=by
  have:=extract_left9 e.1 (strOfNums (packL (txtN e)))
  rw [hk] at this
  exact this
 have hcons:txtN e=(e.2.1.length:Int)::(rowNums e.2.1++e.2.2):=rfl
 have h0:ns.getD 0 0=e.2.1.length:=by
  rw [hcons] at en
  cases ns with
  | nil=>simp at en
  | cons x xs =>
   simp only [List.map_cons,List.cons.injEq] at en
   simp only [List.getD_cons_zero]
   omega
 have h1:1+3*e.2.1.length+e.2.2.length=ns.length:=by
  rw [ln,hcons,List.length_cons,List.length_append,rowNums_length]
  omega
 have ex:ofNats ns=txtN e:=en.symm
 have hent:entZ ((txtE e).extract 0 15) ns=e:=by
  unfold entZ
  rw [e2,ex,h0,hcons]
  have d1:((e.2.1.length:Int)::(rowNums e.2.1++e.2.2)).drop 1=rowNums e.2.1++e.2.2:=rfl
  have d2:((e.2.1.length:Int)::(rowNums e.2.1++e.2.2)).drop (1+3*e.2.1.length)=e.2.2:=by
   rw [Nat.add_comm,List.drop_succ_cons]
   have:=rowNums_length e.2.1
   rw [show 3*e.2.1.length=(rowNums e.2.1).length by omega,List.drop_left]
  have d3:(rowNums e.2.1++e.2.2).take (3*e.2.1.length)=rowNums e.2.1:=by
   have:=rowNums_length e.2.1
   rw [show 3*e.2.1.length=(rowNums e.2.1).length by omega,List.take_left]
  rw [d1,d2,d3,triples_nums]
 refine ⟨by omega,by omega,ns,by rw [e1];exact L,by omega,by rw [h0];omega,hent.symm,h⟩


def ptM (es:List E3) (e:E3):List E3:=if memOk es=true∧entOk e=true then (if isE es e.1=false∧es.length=2000 then es else putE es e) else []
def ptC (es:List E3) (e:E3):Int:=if memOk es=true∧entOk e=true then (if isE es e.1=false∧es.length=2000 then 7 else 0) else 1

theorem specPutEntry_is (a:Option Addr) (n c:Nat) (es:List E3) (e:E3) (s:Sl2) (w:World) (h:Ents w a n c es) (hnil:a=none→c=0) (hE:Emem w s e) :
  Calls Tryz.prog 22 #[.agg #[.slice a n c],entV e.1 s] w fun x w'=>MemGotC x w' w.heap.size (ptM es e) (ptC es e)∧Below w.heap.size w w':=by
 have hl:=h.1
 have hl1:es.length≤n:=by omega
 have hl2:n≤es.length:=by omega
 clear hl
 have kM:=fun W (hb:Below w.heap.size w W)=>specMemoOK_is a n c es W (h.below hb)
 have kE:=fun W (hb:Below w.heap.size w W)=>specEntryOK_is e s W (hE.below hb)
 have kL:=fun (hok:memOk es=true) W (hb:Below w.heap.size w W)=>l10Place_is a n c es e.1 W (h.below hb) hok
 have kP:=fun (hok:memOk es=true) W (hb:Below w.heap.size w W)=>l10Put_is a n c es e s W (h.below hb) hnil hok (hE.below hb)
 have kO:=fun (hok:memOk es=true) W (hb:Below w.heap.size w W)=>l10Own_is a n c es W (h.below hb) hok
 have hput:=fun (hok:memOk es=true) (he:entOk e=true) hr=>putE_ok hok he hr
 unfold ptM ptC
 obtain ⟨ek,eb,ez⟩:=e
 obtain ⟨⟨e1,m1,d1⟩,⟨e2,m2,d2⟩⟩:=s
 unfold entV at *
 simp only at *
 have bw:Below w.heap.size w (((w.alloc (.cells #[.slice a n c] 33)).alloc (.cells #[.string ek,.slice e1 m1 d1,.slice e2 m2 d2] 45)).alloc (.cells #[.slice none 0 0] 33)):=by go_grown
 have pM:Blk (((w.alloc (.cells #[.slice a n c] 33)).alloc (.cells #[.string ek,.slice e1 m1 d1,.slice e2 m2 d2] 45)).alloc (.cells #[.slice none 0 0] 33)) w.heap.size 33 [.slice a n c]:=blkOld _ (blkOld _ (blkAt _ _ _ rfl))
 have pE:Blk (((w.alloc (.cells #[.slice a n c] 33)).alloc (.cells #[.string ek,.slice e1 m1 d1,.slice e2 m2 d2] 45)).alloc (.cells #[.slice none 0 0] 33)) (w.heap.size+1) 45 [.string ek,.slice e1 m1 d1,.slice e2 m2 d2]:=blkOld _ (blkAt _ _ _ (by simp))
 have pR:Blk (((w.alloc (.cells #[.slice a n c] 33)).alloc (.cells #[.string ek,.slice e1 m1 d1,.slice e2 m2 d2] 45)).alloc (.cells #[.slice none 0 0] 33)) (w.heap.size+1+1) 33 [.slice none 0 0]:=blkAt _ _ _ (by simp)
 have x0:=pE.cell 0
 have x1:=pE.cell 1
 have x2:=pE.cell 2
 have g0:=pM.cell 0
 simp only [List.getElem?_cons_zero,List.getElem?_cons_succ] at x0 x1 x2 g0
 clear h hE
 cases hok:memOk es
 ·rw [if_neg (by simp),if_neg (by simp)]
  rw [hok] at kM
  clear kE kL kP kO hput hok
  go_enter Tryz.func22,Tryz.ntmps22
  go_wp2_with fail
  generalize (((w.alloc (.cells #[.slice a n c] 33)).alloc (.cells #[.string ek,.slice e1 m1 d1,.slice e2 m2 d2] 45)).alloc (.cells #[.slice none 0 0] 33))=U at *
  refine (kM _ bw).mono ?_
  rintro x w1 ⟨rfl,hb⟩
  replace bw:=bel8 bw hb
  replace pM:=pM.below hb
  replace pE:=pE.below hb
  replace pR:=pR.below hb
  replace x0:=pE.cell 0
  replace x1:=pE.cell 1
  replace x2:=pE.cell 2
  replace g0:=pM.cell 0
  simp only [List.getElem?_cons_zero,List.getElem?_cons_succ] at x0 x1 x2 g0
  clear hb kM
  clear x0 x1 x2 g0
  have r0:=pR.cell 0
  have fr0:=pR.frozen 0
  have pZ:=pR.set 0 (.slice none 0 0)
  simp only [List.set_cons_zero] at pZ
  have z0:=pZ.cell 0
  simp only [List.getElem?_cons_zero] at z0 r0
  have bz:=bw.setCell (p:=⟨w.heap.size+1+1,0,none⟩) (show w.heap.size≤w.heap.size+1+1 by omega) (.slice none 0 0)
  clear pZ pR pM pE
  go_wp2
  refine bodyPost_ret (by simp [results,Tryz.results22,go_sem,z0];try rfl) rfl ?_
  exact ⟨MemGotC.mk9 (OwnM.nil9 _ _),bz⟩
 ·rw [hok] at kM
  cases heo:entOk (ek,eb,ez)
  ·rw [if_neg (by simp),if_neg (by simp)]
   rw [heo] at kE
   clear kL kP kO hput hok heo
   go_enter Tryz.func22,Tryz.ntmps22
   go_wp2_with fail
   generalize (((w.alloc (.cells #[.slice a n c] 33)).alloc (.cells #[.string ek,.slice e1 m1 d1,.slice e2 m2 d2] 45)).alloc (.cells #[.slice none 0 0] 33))=U at *
   refine (kM _ bw).mono ?_
   rintro x w1 ⟨rfl,hb⟩
   replace bw:=bel8 bw hb
   replace pM:=pM.below hb
   replace pE:=pE.below hb
   replace pR:=pR.below hb
   replace x0:=pE.cell 0
   replace x1:=pE.cell 1
   replace x2:=pE.cell 2
   replace g0:=pM.cell 0
   simp only [List.getElem?_cons_zero,List.getElem?_cons_succ] at x0 x1 x2 g0
   clear hb kM
   go_wp2_with fail
   refine (kE _ bw).mono ?_
   rintro x w2 ⟨rfl,hb⟩
   replace bw:=bel8 bw hb
   replace pM:=pM.below hb
   replace pE:=pE.below hb
   replace pR:=pR.below hb
   replace x0:=pE.cell 0
   replace x1:=pE.cell 1
   replace x2:=pE.cell 2
   replace g0:=pM.cell 0
   simp only [List.getElem?_cons_zero,List.getElem?_cons_succ] at x0 x1 x2 g0
   clear hb kE
   clear x0 x1 x2 g0
   have r0:=pR.cell 0
   have fr0:=pR.frozen 0
   have pZ:=pR.set 0 (.slice none 0 0)
   simp only [List.set_cons_zero] at pZ
   have z0:=pZ.cell 0
   simp only [List.getElem?_cons_zero] at z0 r0
   have bz:=bw.setCell (p:=⟨w.heap.size+1+1,0,none⟩) (show w.heap.size≤w.heap.size+1+1 by omega) (.slice none 0 0)
   clear pZ pR pM pE
   go_wp2
   refine bodyPost_ret (by simp [results,Tryz.results22,go_sem,z0];try rfl) rfl ?_
   exact ⟨MemGotC.mk9 (OwnM.nil9 _ _),bz⟩
  ·rw [heo] at kE
   have hAA:(true=true∧true=true):=⟨rfl,rfl⟩
   rw [if_pos hAA,if_pos hAA]
   clear hAA
   replace kL:=kL hok
   have hn2:=memOk_len hok
   cases hI:isE es ek
   ·rw [hI] at kL
    by_cases hfull:n=2000
    ·rw [if_pos ⟨rfl,by omega⟩,if_pos ⟨rfl,by omega⟩]
     replace kO:=kO hok
     have hfe:((n:Int) == 2000)=true:=by simp;omega
     have hf1:n≤2000:=by omega
     clear hfull
     clear kP hput hok heo hI
     go_enter Tryz.func22,Tryz.ntmps22
     go_wp2_with fail
     generalize (((w.alloc (.cells #[.slice a n c] 33)).alloc (.cells #[.string ek,.slice e1 m1 d1,.slice e2 m2 d2] 45)).alloc (.cells #[.slice none 0 0] 33))=U at *
     refine (kM _ bw).mono ?_
     rintro x w1 ⟨rfl,hb⟩
     replace bw:=bel8 bw hb
     replace pM:=pM.below hb
     replace pE:=pE.below hb
     replace pR:=pR.below hb
     replace x0:=pE.cell 0
     replace x1:=pE.cell 1
     replace x2:=pE.cell 2
     replace g0:=pM.cell 0
     simp only [List.getElem?_cons_zero,List.getElem?_cons_succ] at x0 x1 x2 g0
     clear hb kM
     go_wp2_with fail
     refine (kE _ bw).mono ?_
     rintro x w2 ⟨rfl,hb⟩
     replace bw:=bel8 bw hb
     replace pM:=pM.below hb
     replace pE:=pE.below hb
     replace pR:=pR.below hb
     replace x0:=pE.cell 0
     replace x1:=pE.cell 1
     replace x2:=pE.cell 2
     replace g0:=pM.cell 0
     simp only [List.getElem?_cons_zero,List.getElem?_cons_succ] at x0 x1 x2 g0
     clear hb kE
     go_wp2_with fail
     refine (kL _ bw).mono ?_
     rintro x w3 ⟨rfl,hb⟩
     replace bw:=bel8 bw hb
     replace pM:=pM.below hb
     replace pE:=pE.below hb
     replace pR:=pR.below hb
     replace x0:=pE.cell 0
     replace x1:=pE.cell 1
     replace x2:=pE.cell 2
     replace g0:=pM.cell 0
     simp only [List.getElem?_cons_zero,List.getElem?_cons_succ] at x0 x1 x2 g0
     clear hb kL
     go_wp2_with fail
     refine (kO _ bw).mono ?_
     rintro x w4 ⟨⟨v,rfl,hM⟩,hb⟩
     obtain ⟨va,vc,rfl⟩:=hM.slice9
     have hlow:=pR.lt
     replace bw:=bel8 bw hb
     replace pM:=pM.below hb
     replace pE:=pE.below hb
     replace pR:=pR.below hb
     clear hb
     have r0:=pR.cell 0
     have fr0:=pR.frozen 0
     have pZ:=pR.set 0 (.slice va es.length vc)
     simp only [List.set_cons_zero] at pZ
     have z0:=pZ.cell 0
     simp only [List.getElem?_cons_zero] at z0 r0
     have bz:=bw.setCell (p:=⟨w.heap.size+1+1,0,none⟩) (show w.heap.size≤w.heap.size+1+1 by omega) (.slice va es.length vc)
     have hM9:=(hM.low (p:=⟨w.heap.size+1+1,0,none⟩) (show w.heap.size+1+1<w3.heap.size from hlow) (.slice va es.length vc)).lower (show w.heap.size≤w3.heap.size by omega)
     clear pZ pR pM pE hM g0 x0 x1 x2
     go_wp2
     refine bodyPost_ret (by simp [results,Tryz.results22,go_sem,z0];try rfl) rfl ?_
     exact ⟨MemGotC.mk9 hM9,bz⟩
    ·rw [if_neg (by omega),if_neg (by omega)]
     replace kP:=kP hok
     have hokP:=hput hok heo (.inr (by omega))
     have hfe:((n:Int) == 2000)=false:=by simp;omega
     clear hfull
     clear kO hput hok heo hI
     generalize putE es (ek,eb,ez)=pes at *
     go_enter Tryz.func22,Tryz.ntmps22
     go_wp2_with fail
     generalize (((w.alloc (.cells #[.slice a n c] 33)).alloc (.cells #[.string ek,.slice e1 m1 d1,.slice e2 m2 d2] 45)).alloc (.cells #[.slice none 0 0] 33))=U at *
     refine (kM _ bw).mono ?_
     rintro x w1 ⟨rfl,hb⟩
     replace bw:=bel8 bw hb
     replace pM:=pM.below hb
     replace pE:=pE.below hb
     replace pR:=pR.below hb
     replace x0:=pE.cell 0
     replace x1:=pE.cell 1
     replace x2:=pE.cell 2
     replace g0:=pM.cell 0
     simp only [List.getElem?_cons_zero,List.getElem?_cons_succ] at x0 x1 x2 g0
     clear hb kM
     go_wp2_with fail
     refine (kE _ bw).mono ?_
     rintro x w2 ⟨rfl,hb⟩
     replace bw:=bel8 bw hb
     replace pM:=pM.below hb
     replace pE:=pE.below hb
     replace pR:=pR.below hb
     replace x0:=pE.cell 0
     replace x1:=pE.cell 1
     replace x2:=pE.cell 2
     replace g0:=pM.cell 0
     simp only [List.getElem?_cons_zero,List.getElem?_cons_succ] at x0 x1 x2 g0
     clear hb kE
     go_wp2_with fail
     refine (kL _ bw).mono ?_
     rintro x w3 ⟨rfl,hb⟩
     replace bw:=bel8 bw hb
     replace pM:=pM.below hb
     replace pE:=pE.below hb
     replace pR:=pR.below hb
     replace x0:=pE.cell 0
     replace x1:=pE.cell 1
     replace x2:=pE.cell 2
     replace g0:=pM.cell 0
     simp only [List.getElem?_cons_zero,List.getElem?_cons_succ] at x0 x1 x2 g0
     clear hb kL
     go_wp2_with fail
     refine (kP _ bw).mono ?_
     rintro x w4 ⟨⟨pa,pn,pc,rfl,hK⟩,hb⟩
     have kQ:=l10Own_is pa pn pc pes w4 hK hokP
     replace bw:=bel8 bw hb
     replace pM:=pM.below hb
     replace pE:=pE.below hb
     replace pR:=pR.below hb
     clear hb
     go_wp2_with fail
     refine kQ.mono ?_
     rintro x w5 ⟨⟨v,rfl,hM⟩,hb⟩
     obtain ⟨va,vc,rfl⟩:=hM.slice9
     have hlow:=pR.lt
     replace bw:=bel8 bw hb
     replace pM:=pM.below hb
     replace pE:=pE.below hb
     replace pR:=pR.below hb
     clear hb
     have r0:=pR.cell 0
     have fr0:=pR.frozen 0
     have pZ:=pR.set 0 (.slice va pes.length vc)
     simp only [List.set_cons_zero] at pZ
     have z0:=pZ.cell 0
     simp only [List.getElem?_cons_zero] at z0 r0
     have bz:=bw.setCell (p:=⟨w.heap.size+1+1,0,none⟩) (show w.heap.size≤w.heap.size+1+1 by omega) (.slice va pes.length vc)
     have hM9:=(hM.low (p:=⟨w.heap.size+1+1,0,none⟩) (show w.heap.size+1+1<w4.heap.size from hlow) (.slice va pes.length vc)).lower (show w.heap.size≤w4.heap.size by omega)
     clear pZ pR pM pE hM g0 x0 x1 x2
     go_wp2
     refine bodyPost_ret (by simp [results,Tryz.results22,go_sem,z0];try rfl) rfl ?_
     exact ⟨MemGotC.mk9 hM9,bz⟩
   ·rw [hI] at kL
    rw [if_neg (by simp),if_neg (by simp)]
    replace kP:=kP hok
    have hokP:=hput hok heo (.inl hI)
    clear kO hput hok heo hI
    generalize putE es (ek,eb,ez)=pes at *
    go_enter Tryz.func22,Tryz.ntmps22
    go_wp2_with fail
    generalize (((w.alloc (.cells #[.slice a n c] 33)).alloc (.cells #[.string ek,.slice e1 m1 d1,.slice e2 m2 d2] 45)).alloc (.cells #[.slice none 0 0] 33))=U at *
    refine (kM _ bw).mono ?_
    rintro x w1 ⟨rfl,hb⟩
    replace bw:=bel8 bw hb
    replace pM:=pM.below hb
    replace pE:=pE.below hb
    replace pR:=pR.below hb
    replace x0:=pE.cell 0
    replace x1:=pE.cell 1
    replace x2:=pE.cell 2
    replace g0:=pM.cell 0
    simp only [List.getElem?_cons_zero,List.getElem?_cons_succ] at x0 x1 x2 g0
    clear hb kM
    go_wp2_with fail
    refine (kE _ bw).mono ?_
    rintro x w2 ⟨rfl,hb⟩
    replace bw:=bel8 bw hb
    replace pM:=pM.below hb
    replace pE:=pE.below hb
    replace pR:=pR.below hb
    replace x0:=pE.cell 0
    replace x1:=pE.cell 1
    replace x2:=pE.cell 2
    replace g0:=pM.cell 0
    simp only [List.getElem?_cons_zero,List.getElem?_cons_succ] at x0 x1 x2 g0
    clear hb kE
    go_wp2_with fail
    refine (kL _ bw).mono ?_
    rintro x w3 ⟨rfl,hb⟩
    replace bw:=bel8 bw hb
    replace pM:=pM.below hb
    replace pE:=pE.below hb
    replace pR:=pR.below hb
    replace x0:=pE.cell 0
    replace x1:=pE.cell 1
    replace x2:=pE.cell 2
    replace g0:=pM.cell 0
    simp only [List.getElem?_cons_zero,List.getElem?_cons_succ] at x0 x1 x2 g0
    clear hb kL
    go_wp2_with fail
    refine (kP _ bw).mono ?_
    rintro x w4 ⟨⟨pa,pn,pc,rfl,hK⟩,hb⟩
    have kQ:=l10Own_is pa pn pc pes w4 hK hokP
    replace bw:=bel8 bw hb
    replace pM:=pM.below hb
    replace pE:=pE.below hb
    replace pR:=pR.below hb
    clear hb
    go_wp2_with fail
    refine kQ.mono ?_
    rintro x w5 ⟨⟨v,rfl,hM⟩,hb⟩
    obtain ⟨va,vc,rfl⟩:=hM.slice9
    have hlow:=pR.lt
    replace bw:=bel8 bw hb
    replace pM:=pM.below hb
    replace pE:=pE.below hb
    replace pR:=pR.below hb
    clear hb
    have r0:=pR.cell 0
    have fr0:=pR.frozen 0
    have pZ:=pR.set 0 (.slice va pes.length vc)
    simp only [List.set_cons_zero] at pZ
    have z0:=pZ.cell 0
    simp only [List.getElem?_cons_zero] at z0 r0
    have bz:=bw.setCell (p:=⟨w.heap.size+1+1,0,none⟩) (show w.heap.size≤w.heap.size+1+1 by omega) (.slice va pes.length vc)
    have hM9:=(hM.low (p:=⟨w.heap.size+1+1,0,none⟩) (show w.heap.size+1+1<w4.heap.size from hlow) (.slice va pes.length vc)).lower (show w.heap.size≤w4.heap.size by omega)
    clear pZ pR pM pE hM g0 x0 x1 x2
    go_wp2
    refine bodyPost_ret (by simp [results,Tryz.results22,go_sem,z0];try rfl) rfl ?_
    exact ⟨MemGotC.mk9 hM9,bz⟩


theorem grown_setRowK (w:World) (g:Nat) (cs:Array Value):w.grownBy (w.setRow g cs) (some g):=⟨rfl,rfl,rfl,by simp [World.setRow],fun k _ hk=>setRow_other w g k cs (fun e=>hk (by rw [e]))⟩
theorem run_copyK {P:Program} (w:World) (dT sT ty elem:TypeId) (i:TypeInfo) (k g o dLen dCap:Nat) (a:Addr) (sLen sCap n:Nat) (cur:Array Value) (t:TypeId) (cs:List Value)
  (hu:P.underlying dT=some (.slice elem)) (hq:P.info? elem=some i) (hi:i.size=k)
  (hg:w.heap[g]?=some (.cells cur t (0,0))) (hn:n=Nat.min sLen dLen) (hl9:cs.length=n*k)
  (hsrc:∀ j v,cs[j]?=some v→w.cell? (a.add j)=some v) (hfit:o+cs.length≤cur.size) (h1:∀ v ∈ cs,v.oneCell'=true) :
  (Builtin.copy_ #[dT,sT] ty #[.slice (some ⟨g,o,none⟩) dLen dCap,.slice (some a) sLen sCap]).run P w =
   .ok (goInt n) (w.setRow g (cur.toList.take o++cs++cur.toList.drop (o+cs.length)).toArray):=by
 have hl:=run_loadCells_list (P:=P) w a cs hsrc
 have hst:=run_storeCells_at P g o t cs 0 cur w hg (by simpa using hfit) h1
 rw [hl9] at hl
 simp [Builtin.copy_,run_underlying hu,Builtin.lenOf,Builtin.firstCells,sizeOf,typeInfo,hq,hi,← hn,hl,hst]
theorem wpList_copyK {P:Program} {w:World} {ops:Array Oper} {rest:List Oper} {o:Oper} {a:Act} {Q:Exit→Act→World→Prop} (hgd:o.guard=none) (d s:Operand) (dT sT:TypeId)
  (ho:o.op=.call { callee:=.builtin .copy,args:=#[d,s],argTypes:=#[dT,sT] }) (elem:TypeId) (i:TypeInfo) (k:Nat) (hu:P.underlying dT=some (.slice elem)) (hq:P.info? elem=some i) (hi:i.size=k)
  (g off dLen dCap:Nat) (ad:Addr) (sLen sCap n:Nat) (hd:a.eval d=.slice (some ⟨g,off,none⟩) dLen dCap) (hs:a.eval s=.slice (some ad) sLen sCap)
  (cur:List Value) (t:TypeId) (hg:w.heap[g]?=some (.cells cur.toArray t (0,0))) (cs:List Value) (hn:n=Nat.min sLen dLen) (hl:cs.length=n*k)
  (hsrc:∀ j v,cs[j]?=some v→w.cell? (ad.add j)=some v) (hfit:off+cs.length≤cur.length) (h1:∀ v ∈ cs,v.oneCell'=true) (B:Nat) (w0:World) (hb:Below B w0 w) (hBg:B≤g)
  (h:∀ w',Hid (w'.heap[g]?=some (.cells (splice cur off cs).toArray t (0,0)))→Hid (w.grownBy w' (some g))→Below B w0 w'→wpList P ops Q rest (a.put o.dst (goInt n)) w'):wpList P ops Q (o::rest) a w:=by
 refine wpList_plain hgd fun K hK=>?_
 have hrun:=run_copyK (P:=P) w dT sT o.type elem i k g off dLen dCap ad sLen sCap n cur.toArray t cs hu hq hi hg hn hl hsrc (by simpa using hfit) h1
 unfold Oper.wp
 simp [execOp,ho,resolve,invoke,builtin,hd,hs,hrun,Result.andThen]
 exact hK _ _ (h _ (show _=_ by simpa [splice] using setRow_heap w g _ _ t _ hg) (grown_setRowK w g _) (below_setRow hb hBg _))
theorem step_copyK {P:Program} {ops:Array Oper} {o:Oper} {a:Act} {w:World} {K:Act→World→Prop} {Q:Exit→Act→World→Prop} {E:Prop} (hgd:o.guard=none) (d s:Operand) (dT sT:TypeId)
  (ho:o.op=.call { callee:=.builtin .copy,args:=#[d,s],argTypes:=#[dT,sT] }) (elem:TypeId) (i:TypeInfo) (k:Nat) (hu:P.underlying dT=some (.slice elem)) (hq:P.info? elem=some i) (hi:i.size=k)
  (g off dLen dCap:Nat) (ad:Addr) (sLen sCap n:Nat) (hd:a.eval d=.slice (some ⟨g,off,none⟩) dLen dCap) (hs:a.eval s=.slice (some ad) sLen sCap)
  (cur:List Value) (t:TypeId) (hg:w.heap[g]?=some (.cells cur.toArray t (0,0))) (cs:List Value) (hn:n=Nat.min sLen dLen) (hl:cs.length=n*k)
  (hsrc:∀ j v,cs[j]?=some v→w.cell? (ad.add j)=some v) (hfit:off+cs.length≤cur.length) (h1:∀ v ∈ cs,v.oneCell'=true) (B:Nat) (w0:World) (hb:Below B w0 w) (hBg:B≤g)
  (h:∀ w',Hid (w'.heap[g]?=some (.cells (splice cur off cs).toArray t (0,0)))→Hid (w.grownBy w' (some g))→Below B w0 w'→K (a.put o.dst (goInt n)) w') :
  if Region.wanted o (yielded ops a.tmps)=true then Oper.wp P o a w K Q else E:=by
 have hw:Region.wanted o (yielded ops a.tmps)=true:=by simp [Region.wanted,hgd]
 rw [if_pos hw]
 have hrun:=run_copyK (P:=P) w dT sT o.type elem i k g off dLen dCap ad sLen sCap n cur.toArray t cs hu hq hi hg hn hl hsrc (by simpa using hfit) h1
 unfold Oper.wp
 simp [execOp,ho,resolve,invoke,builtin,hd,hs,hrun,Result.andThen]
 exact h _ (show _=_ by simpa [splice] using setRow_heap w g _ _ t _ hg) (grown_setRowK w g _) (below_setRow hb hBg _)
theorem run_append_zeros_grow {P:Program} (w:World) (t tn ty e:TypeId) (i:TypeInfo) (z:Value) (kn k:IntKind) (ht:P.underlying t=some (.slice e)) (htn:P.underlying tn=some (.int kn)) (hi:P.info? e=some i) (hz:i.zero=some z)
  (b:Addr) (sLen sCap:Nat) (olds:List Value) (hlo:olds.length=sLen*i.size) (holds:∀ j v,olds[j]?=some v→w.cell? (b.add j)=some v)
  (m:Nat) (h0:0<m) (hs:0<i.size) (hg:sCap<sLen+m) (h63:((sLen+m:Nat):Int)≤9223372036854775807) (h48:m*i.bytes≤281474976710656) (hfit:Builtin.nextslicecap (sLen+m) sCap*i.bytes≤281474976710656) :
  (Builtin.append_ #[t,tn] ty #[.slice (some b) sLen sCap,.int k m]).run P w =
   .ok (.slice (some ⟨w.heap.size,0,none⟩) (sLen+m) (grownCap w (sLen+m) sCap e))
    (w.drew.alloc (.cells (olds.toArray++Builtin.zeroCells z.cells m++Builtin.zeroCells z.cells (grownCap w (sLen+m) sCap e - (sLen+m))) e)):=by
 have hn:¬ (sLen+m≤sCap):=by omega
 have hm0:m≠0:=by omega
 have hw:IntKind.i64.wrap (m:Int)=m:=by rw [IntKind.wrap_i64];omega
 have h63':¬ (9223372036854775807<((sLen:Int)+(m:Int))):=by omega
 have h48':¬ (281474976710656<Builtin.nextslicecap (sLen+m) sCap*i.bytes):=by omega
 have h48i:¬ (281474976710656<(m:Int)*(i.bytes:Int)):=by
  rw [← Int.natCast_mul]
  omega
 have hneg:¬ ((m:Int)<0):=by omega
 have hns:¬ (m*i.size=0):=Nat.mul_ne_zero hm0 (by omega)
 have hfo:=run_firstCells_some (P:=P) w.drew i.size sLen b sLen sCap olds hlo (by simpa using holds)
 simp [Builtin.append_,run_underlying ht,run_underlying htn,sizeOf,typeInfo,zeroValue,hi,hz,asInt,asIntOf,hw,hm0,hneg,hns,hn,h63',h48',h48i,Question.forced,hfo,newRow,grownCap]
 try (congr 2;apply Array.ext';simp [List.append_assoc])
end Go.Proofs.YtbdfbdbpjijcdaaGreatDoor
