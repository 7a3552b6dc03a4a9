/-
  Joined: OfBk, FindS.
-/
import Derived.Test.YtifoggpohlegmaaGreatDoorA35

namespace Go.Proofs.YtifoggpohlegmaaGreatDoor
set_option maxRecDepth 100000
set_option maxHeartbeats 16000000
open Go.RowKit
set_option linter.unusedVariables false
set_option linter.unusedSimpArgs false

theorem l03Of_back {m:V4} (h:shapeOk m=true) (w:World) :
  Calls Tryz.prog 84 #[.string (keyT m)] w fun e w'=>(∃ t:S4,e=.returned (.tuple #[t.val,.bool true])∧OwnV w' w.heap.size t m)∧Below w.heap.size w w':=by
 refine (l03Of_15 (keyT m) w (keyT_size6 h)).mono ?_
 rintro e w' ⟨⟨z,b,⟨t,rfl,hO⟩,hb,hz⟩,hw⟩
 rw [key_back6 h,h] at hb
 subst hb
 rw [key_back6 h] at hz
 obtain rfl:=hz rfl
 exact ⟨⟨t,rfl,hO⟩,hw⟩
theorem own_some6 {w:World} {B e s n:Nat} {v:Value} {xs:List Value} (h:w.ownsRow B e s v n xs) (hn:0<n):∃ g c,v=.slice (some ⟨g,0,none⟩) n c∧n≤c∧c≤maxLen:=by
 rcases h.2 with ⟨_,h0⟩ | ⟨g,c,cur,hv,_,_,h1,h2,_⟩
 ·omega
 ·exact ⟨g,c,hv,h1,h2⟩
theorem str_cell6 {w:World} {B g n c:Nat} {ts:List ByteArray} (h:w.ownsRow B 9 1 (.slice (some ⟨g,0,none⟩) n c) n (ts.map Value.string)) {i:Nat} (hi:i<n) {t:ByteArray} (ht:ts[i]?=some t):w.cell? ⟨g,i,none⟩=some (.string t):=by
 have hc:=h.cellAt i (by simpa using hi)
 simpa [ht] using hc


theorem beq_tf {x t:ByteArray} (h:¬ x=t):(x.toList == t.toList)=false:=by
 rw [beq_eq_false_iff_ne]
 intro e
 rw [ByteArray.toList_eq,ByteArray.toList_eq] at e
 exact h (ByteArray.ext (Array.ext' e))
def findT (ts:List ByteArray) (t:ByteArray):Nat→Int
 | 0=>-1
 | n+1=>if ts.getD n ByteArray.empty=t then (n:Int) else findT ts t n
theorem findT_iff {ts:List ByteArray} {t:ByteArray}:∀ n,n≤ts.length→(0≤findT ts t n↔t ∈ ts.take n)
 | 0,_=>by simp [findT]
 | n+1,h=>by
  have ih:=findT_iff (ts:=ts) (t:=t) n (by omega)
  have e:ts.take (n+1)=ts.take n++[ts.getD n ByteArray.empty]:=by
   rw [List.take_add_one,List.getElem?_eq_getElem (show n<ts.length by omega)]
   simp [List.getD,show n<ts.length by omega]
  rw [e,List.mem_append,List.mem_singleton]
  unfold findT
  by_cases h1:ts.getD n ByteArray.empty=t
  ·rw [if_pos h1]
   exact ⟨fun _=>.inr h1.symm,fun _=>by omega⟩
  ·rw [if_neg h1,ih]
   exact ⟨.inl,fun h2=>h2.elim id (fun h3=>absurd h3.symm h1)⟩

theorem l06Find_is (a:Option Addr) (n c:Nat) (ts:List ByteArray) (t:ByteArray) (w:World) (h:Strs w a n c ts) (hn:n≤1000000) :
  Calls Tryz.prog 100 #[.slice a n c,.string t] w fun e w'=>e=.returned (.int .i64 (findT ts t n))∧w=w':=by
 obtain ⟨hl,hlc,hcm,hcase⟩:=h
 obtain ⟨f,hf⟩:∃ f,f=findT ts t n:=⟨_,rfl⟩
 have HF:Hid (f=findT ts t n):=hf
 rw [← hf]
 clear hf hl hcm
 go_enter Tryz.func100,Tryz.ntmps100
 go_wp2_with fail
 go_loopw [5] (fun si wr=>∃ ii:Nat,ii≤n∧si=.int .i64 ((ii:Int) - 1)∧Hid (f=findT ts t ii)∧w=wr) (fun si _=>(intOf si+1).toNat)
 case atStart=>exact ⟨n,Nat.le_refl _,rfl,HF,rfl⟩
 case round =>
  obtain ⟨ii,hii,rfl,HG,rfl⟩:=hrel
  rcases Nat.eq_zero_or_pos ii with rfl | hpos
  ·have HE:Hid (f=-1):=HG.out
   go_wp2
   go_ret
   exact ⟨by rw [HE.out];rfl,rfl⟩
  ·obtain ⟨i,rfl⟩:∃ i,ii=i+1:=⟨ii - 1,by omega⟩
   have hi0:((i+1:Nat):Int) - 1=(i:Int):=by omega
   rw [hi0]
   have hi9:(0:Int)≤(i:Int):=by omega
   have hin:(i:Int)<(n:Int):=by omega
   rcases hcase with h0 | ⟨b,off,rfl,hb,hcell⟩
   ·omega
   have hc:=hcell i (by omega)
   have HG2:Hid (f=if ts.getD i ByteArray.empty=t then (i:Int) else findT ts t i):=HG.out
   clear hcell HG
   generalize ts.getD i ByteArray.empty=x at *
   by_cases hx:x=t
   ·have hxx:(x.toList == t.toList)=true:=by rw [hx];simp
    have HE:Hid (f=i):=by rw [Hid,HG2.out,if_pos hx]
    clear HG2 hx
    go_wp2
    go_ret
    exact ⟨by rw [HE.out];rfl,rfl⟩
   ·have hxx:(x.toList == t.toList)=false:=beq_tf hx
    have HE:Hid (f=findT ts t i):=by rw [Hid,HG2.out,if_neg hx]
    clear HG2 hx
    go_wp2
    go_roundw
    case rel=>exact ⟨i,by omega,by go_num,HE,by first | rfl | trivial⟩
    case measure=>simp [intOf]<;>omega
end Go.Proofs.YtifoggpohlegmaaGreatDoor
