/-
  Joined: NumP, RdP, UnProgS.
-/
import Derived.Test.YthlcdhddickdiaaDoorR27
import Derived.Test.YthlcdhddickdiaaDoorR32

namespace Go.Proofs.YthlcdhddickdiaaDoor
set_option maxRecDepth 100000
set_option maxHeartbeats 16000000

def digVal (s:ByteArray):Nat→Nat
 | 0=>0
 | k+1=>10*digVal s k+(bt s k - 48)
def allDig (s:ByteArray) (k:Nat):Prop:=∀ i,i<k→48≤bt s i∧bt s i≤57
theorem allDig_zero (s:ByteArray):allDig s 0:=fun i h=>absurd h (by omega)
theorem allDig_succ {s:ByteArray} {k:Nat} (h:allDig s k) (h1:48≤bt s k) (h2:bt s k≤57):allDig s (k+1):=by
 intro i hi
 rcases Nat.lt_or_ge i k with h' | h'
 ·exact h i h'
 ·obtain rfl:i=k:=by omega
  exact ⟨h1,h2⟩
theorem digVal_lt {s:ByteArray}:∀ {k:Nat},allDig s k→digVal s k<10 ^ k
 | 0,_=>by simp [digVal]
 | k+1,h=>by
  have ih:=digVal_lt (k:=k) (fun i hi=>h i (by omega))
  have:=h k (by omega)
  rw [digVal,Nat.pow_succ]
  omega
theorem digVal_small {s:ByteArray} {k:Nat} (h:allDig s k) (hk:k≤18):digVal s k<1000000000000000000:=by
 have h1:=digVal_lt h
 have h2:10 ^ k≤10 ^ 18:=Nat.pow_le_pow_right (by omega) hk
 have:(10:Nat) ^ 18=1000000000000000000:=by decide
 omega
def IsDec (s:ByteArray) (n:Nat):Prop:=1≤s.size∧s.size≤18∧¬ (1<s.size∧bt s 0=48)∧allDig s s.size∧n=digVal s s.size
theorem IsDec.only {s:ByteArray} {n m:Nat} (h:IsDec s n) (g:IsDec s m):n=m:=h.2.2.2.2.trans g.2.2.2.2.symm
theorem IsDec.lt {s:ByteArray} {n:Nat} (h:IsDec s n):n<1000000000000000000:=by
 obtain ⟨_,h2,_,h4,rfl⟩:=h
 exact digVal_small h4 h2

open Go.RowKit
set_option linter.unusedVariables false
set_option linter.unusedSimpArgs false

def entZ (key:ByteArray) (zs:List Nat):E3:=(key,triples (((ofNats zs).drop 1).take (3*zs.getD 0 0)),(ofNats zs).drop (1+3*zs.getD 0 0))
def RdOk (t:ByteArray) (e:E3):Prop:=t.size≤65536∧15≤t.size∧∃ zs,Listed (t.extract 15 t.size) zs∧1≤zs.length∧1+3*zs.getD 0 0≤zs.length∧e=entZ (t.extract 0 15) zs∧entOk e=true
theorem RdOk.only {t:ByteArray} {e e':E3} (h:RdOk t e) (h':RdOk t e'):e=e':=by
 obtain ⟨_,_,zs,h1,_,_,rfl,_⟩:=h
 obtain ⟨_,_,ys,g1,_,_,rfl,_⟩:=h'
 rw [h1.only g1]
theorem RdOk.ok {t:ByteArray} {e:E3} (h:RdOk t e):entOk e=true:=by
 obtain ⟨_,_,zs,h1,_,_,_,h9⟩:=h
 exact h9
def rdC (t:ByteArray):Int:=if 65536<t.size then 2 else 3
theorem wf_small9 {z:Int} (h:0≤z∧z≤999999999):(Lit.int .i64 z).wf=true:=by
 simp only [Lit.wf,Bool.and_eq_true,decide_eq_true_eq]
 have h1:IntKind.i64.min=-9223372036854775808:=by decide
 have h2:IntKind.i64.max=9223372036854775807:=by decide
 omega
theorem listed_small9 {s:ByteArray} {zs:List Nat} (h:Listed s zs):∀ z ∈ ofNats zs,0≤z∧z≤999999999:=by
 obtain ⟨k,_,_,hz⟩:=h
 intro z hm
 obtain ⟨y,hy,rfl⟩:=List.mem_map.1 hm
 have:=numsAt_small hz y hy
 exact ⟨by omega,by omega⟩
theorem entZ_fits {s key:ByteArray} {zs:List Nat} (h:Listed s zs) (hk:key.size≤maxLen):(entZ key zs).fits:=by
 have hs:=listed_small9 h
 refine ⟨hk,fun x hx=>?_,fun z hz=>wf_small9 (hs z (List.mem_of_mem_drop hz))⟩
 obtain ⟨m1,m2,m3⟩:=triples_mem _ x hx
 exact ⟨wf_small9 (hs _ (List.mem_of_mem_drop (List.mem_of_mem_take m1))),wf_small9 (hs _ (List.mem_of_mem_drop (List.mem_of_mem_take m2))),wf_small9 (hs _ (List.mem_of_mem_drop (List.mem_of_mem_take m3)))⟩
theorem cut15 {t:ByteArray} (h:15≤t.size):(t.extract 0 15).size=15:=by simp;omega
theorem RdOk.fits {t:ByteArray} {e:E3} (h:RdOk t e):e.fits:=by
 obtain ⟨_,h15,zs,h1,_,_,rfl,_⟩:=h
 exact entZ_fits h1 (by rw [cut15 h15];unfold maxLen;omega)
theorem noList_nil {s:ByteArray} (h:s.size=0):NoList s:=by
 rintro zs ⟨k,hk,_,_⟩
 have:=hk.le
 have:=hk.one
 omega
theorem RdOk.more {t:ByteArray} {e:E3} (h:RdOk t e):15<t.size:=by
 obtain ⟨_,h15,zs,h1,_⟩:=h
 rcases Nat.lt_or_ge 15 t.size with h | h
 ·exact h
 ·exact absurd h1 (noList_nil (by simp;omega) zs)
theorem btV_cut {t:ByteArray} (h:15≤t.size) {i:Nat} (hi:i<15):btV (t.extract 0 15) i=(bt t i:Int):=by
 have h1:i<t.size:=by omega
 have h2:i<(t.extract 0 15).size:=by rw [cut15 h];exact hi
 unfold btV bt
 rw [dif_pos h1]
 have h3:i<(t.extract 0 15).data.toList.length:=by rw [Array.length_toList];exact h2
 have e:(t.extract 0 15).data.toList.getD i 0=t[i]'h1:=by
  rw [List.getD,List.getElem?_eq_getElem h3,Option.getD_some,Array.getElem_toList]
  have:=ByteArray.getElem_extract (i:=i) (start:=0) (stop:=15) (b:=t) h2
  simp only [Nat.zero_add] at this
  exact this
 rw [e]
theorem allIn_fill {s:ByteArray} {off n:Nat} {k high:Int} (h:allIn (fillL s off n 15) k high=true) (hh:high≤9) {i:Nat} (h1:off≤i) (h2:i<off+n) (h3:i<15):48≤btV s i∧btV s i≤57:=by
 unfold allIn at h
 simp only [Bool.and_eq_true,List.all_eq_true,decide_eq_true_eq] at h
 have hm:btV s i - 48 ∈ fillL s off n 15:=by
  unfold fillL
  refine List.mem_map.2 ⟨i - off,by simp;omega,?_⟩
  rw [show off+(i - off)=i by omega,if_pos h3]
 have:=h.1 _ hm
 omega
theorem key_dig {t:ByteArray} (h:15≤t.size) (hk:keyOk9 (t.extract 0 15)=true):allDig t 15:=by
 intro i hi
 unfold keyOk9 at hk
 simp only [Bool.and_eq_true] at hk
 have hs:=hk.2
 unfold shapeOk bytesV partV at hs
 simp only [Bool.and_eq_true] at hs
 have hb:=btV_cut h hi
 have:48≤btV (t.extract 0 15) i∧btV (t.extract 0 15) i≤57:=by
  by_cases c1:i<3
  ·exact allIn_fill hs.1 (by omega) (by omega) (by omega) hi
  ·by_cases c2:i<7
   ·exact allIn_fill hs.2.1 (by omega) (by omega) (by omega) hi
   ·by_cases c3:i<9
    ·exact allIn_fill hs.2.2.1 (by omega) (by omega) (by omega) hi
    ·exact allIn_fill hs.2.2.2 (by omega) (by omega) (by omega) hi
 omega
theorem RdOk.dig {t:ByteArray} {e:E3} (h:RdOk t e):allDig t 15:=by
 have hk:=h.ok
 obtain ⟨_,h15,zs,h1,_,_,rfl,_⟩:=h
 refine key_dig h15 ?_
 unfold entOk at hk
 simp only [Bool.and_eq_true] at hk
 exact hk.1
theorem ofNats_len (zs:List Nat):(ofNats zs).length=zs.length:=by simp [ofNats]
theorem ofNats_head {zs:List Nat} (h:1≤zs.length):(ofNats zs).getD 0 0=((zs.getD 0 0:Nat):Int):=by
 cases zs with
 | nil=>simp at h
 | cons x xs=>simp [ofNats]


theorem own_dr {w:World} {B e k n:Nat} {v:Value} {cs:List Value} (h:w.ownsRow B e k v n cs):w.drew.ownsRow B e k v n cs:=h
theorem three_dr (w:World) (x y z:Value) (t:TypeId):∀ j u,[x,y,z][j]?=some u→(w.alloc (.cells #[x,y,z] t)).drew.cell? ((⟨w.heap.size,0,none⟩:Addr).add j)=some u:=cell_three_new w x y z t
theorem below_app3 {B e k n:Nat} {wr w3:World} {o:Obj} {v:Value} {cs:List Value} (hb:B≤wr.heap.size) (hr:wr.ownsRow B e k v n cs) (hg:(wr.alloc o).drew.grownBy w3 v.ownBlock):Below B wr w3:=
 ((by go_grown:Below wr.heap.size wr (wr.alloc o).drew).mono hb).grown hg (by simp;omega) (fun j hj=>(hr.lt _ hj).1)
theorem cells_lo3 {B:Nat} {wr w3:World} (h:Below B wr w3) {p:Addr} {v:Value} (hp:p.block<B) (hc:wr.cell? p=some v):w3.cell? p=some v:=by rw [h.cell hp];exact hc
end Go.Proofs.YthlcdhddickdiaaDoor
