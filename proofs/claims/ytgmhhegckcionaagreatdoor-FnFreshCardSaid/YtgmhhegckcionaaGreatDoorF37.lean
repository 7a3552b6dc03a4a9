/-
  Joined: EntS, EsP.
-/
import Derived.Shelf.Small.Strs
import Derived.Test.YtgmhhegckcionaaGreatDoorF34

namespace Go.Proofs.YtgmhhegckcionaaGreatDoor
set_option maxRecDepth 100000
set_option maxHeartbeats 16000000
open Go.RowKit
set_option linter.unusedVariables false
set_option linter.unusedSimpArgs false

theorem JV {L:List EQ} {k j:Nat} {u:Value} (h:(Yq (L.take k))[j]?=some u):(Yq L)[j]?=some u:=by
 obtain ⟨t,i,x,rfl,hi,hx,hu⟩:=Qp h
 have hx2:L[t]?=some x:=by
  rw [List.getElem?_take] at hx
  split at hx
  ·exact hx
  cases hx
 rw [VL hx2 hi]
 exact hu
theorem JT {L:List EQ} {k j:Nat} {u:Value} (h:(Yq (L.drop k))[j]?=some u):(Yq L)[k*3+j]?=some u:=by
 obtain ⟨t,i,x,rfl,hi,hx,hu⟩:=Qp h
 have hx2:L[k+t]?=some x:=by rw [List.getElem?_drop] at hx;exact hx
 rw [show k*3+(t*3+i)=(k+t)*3+i by omega,VL hx2 hi]
 exact hu
theorem F4 {w:World} {a:Option Addr} {n c hi:Nat} {L:List EQ} (h:Wv w a n c L) (hz:a=none→c=0) (h2:hi≤n) :
  (∀ W,(Instr.slice 31 (.slice a n c) none (some (.int .i64 (hi:Int))) none).run Tryz.prog W=.ok (.slice a hi c) W)∧Wv w a hi c (L.take hi):=by
 obtain ⟨hl,hlc,hcm,hm,hcase⟩:=h
 have hhc:(hi:Int)≤(c:Int):=by omega
 refine ⟨fun W=>?_,by rw [List.length_take];omega,by omega,hcm,fun x hx=>hm x (List.mem_of_mem_take hx),?_⟩
 ·rcases a with _ | ⟨b,off,sp⟩
  ·have:=hz rfl
   subst this
   obtain rfl:hi=0:=by omega
   obtain rfl:n=0:=by omega
   go_simp
  go_simp
  try omega
 rcases hcase with h0 | ⟨b,off,ha,hb,hc⟩
 ·exact .inl (by omega)
 exact .inr ⟨b,off,ha,hb,fun j u hj=>hc j u (JV hj)⟩
theorem Ly {w:World} {a:Option Addr} {n c lo:Nat} {L:List EQ} (h:Wv w a n c L) (hz:a=none→c=0) (h1:lo≤n) :
  ∃ a2,(∀ W,(Instr.slice 31 (.slice a n c) (some (.int .i64 (lo:Int))) none none).run Tryz.prog W=.ok (.slice a2 (n - lo) (c - lo)) W)∧Wv w a2 (n - lo) (c - lo) (L.drop lo)∧(a2=none→c - lo=0):=by
 obtain ⟨hl,hlc,hcm,hm,hcase⟩:=h
 have hlh:(lo:Int)≤(n:Int):=by omega
 rcases a with _ | ⟨b,off,sp⟩
 ·have:=hz rfl
  subst this
  obtain rfl:n=0:=by omega
  obtain rfl:lo=0:=by omega
  refine ⟨none,fun W=>?_,⟨by rw [List.length_drop];omega,by omega,by omega,fun x hx=>hm x (List.mem_of_mem_drop hx),.inl rfl⟩,fun _=>rfl⟩
  go_simp
 by_cases hz:c - lo=0
 ·refine ⟨some ⟨b,off,sp⟩,fun W=>?_,⟨by rw [List.length_drop];omega,by omega,by omega,fun x hx=>hm x (List.mem_of_mem_drop hx),.inl (by omega)⟩,fun h9=>by cases h9⟩
  go_simp
  try omega
 rcases hcase with h0 | ⟨b',off',ha,hb,hc⟩
 ·obtain rfl:lo=0:=by omega
  refine ⟨some ⟨b,off,sp⟩,fun W=>?_,⟨by rw [List.length_drop];omega,by omega,by omega,fun x hx=>hm x (List.mem_of_mem_drop hx),.inl (by omega)⟩,fun h9=>by cases h9⟩
  go_simp
  first | done | (intro _;unfold Addr.add;split<;>simp_all;done) | (unfold Addr.add;split<;>simp_all)
 cases ha
 refine ⟨some ⟨b,off+lo*3,none⟩,fun W=>?_,⟨by rw [List.length_drop];omega,by omega,by omega,fun x hx=>hm x (List.mem_of_mem_drop hx),.inr ⟨b,off+lo*3,rfl,hb,fun j u hj=>?_⟩⟩,fun h9=>by cases h9⟩
 ·go_simp
  omega
 rw [Nat.add_assoc]
 exact hc _ _ (JT hj)


theorem Vg (a:Option Addr) (n cap:Nat) (es:List E3) (key:ByteArray) (w:World) (h:Y6 w a n cap es) (hok:UpR es) :
  Calls Tryz.prog 116 #[.agg #[.slice a n cap],.string key] w fun e w'=>e=.returned (.tuple #[.int .i64 (Yf es key),.bool (isE es key)])∧Below w.heap.size w w':=by
 have bu:Below w.heap.size w (w.alloc (.cells #[.slice a n cap] 33)):=by go_grown
 have g0:(w.alloc (.cells #[.slice a n cap] 33)).cell? ⟨w.heap.size,0,none⟩=some (.slice a n cap):=by first | (simp [go_sem];done) | (simp [World.cell?];done)
 replace h:=h.below bu
 have hn2:=hok.few
 obtain ⟨hl,hlc,hcm,hcase⟩:=h
 rw [hl] at hn2
 unfold maxLen at hcm
 obtain ⟨pl,hpl⟩:∃ pl,pl=Yf es key:=⟨_,rfl⟩
 obtain ⟨fb,hfb⟩:∃ fb,fb=isE es key:=⟨_,rfl⟩
 rw [← hpl,← hfb]
 have HPL:Hid (pl=Yf es key):=hpl
 have HFB:Hid (fb=isE es key):=hfb
 clear hpl hfb
 go_enter Tryz.func116,Tryz.ntmps116
 go_wp2_with fail
 generalize (w.alloc (.cells #[.slice a n cap] 33))=U at *
 go_loopw [6,7] (fun sl sh wr=>∃ lo hi:Nat,lo≤hi∧hi≤n∧sl=.int .i64 lo∧sh=.int .i64 hi∧Hid ((∀ i,i<lo→ltS (es.getD i e3d).1 key=true)∧∀ i,hi≤i→i<n→ltS (es.getD i e3d).1 key=false)∧U=wr) (fun sl sh _=>(intOf sh).toNat - (intOf sl).toNat)
 case atStart=>exact ⟨0,n,by omega,by omega,rfl,rfl,⟨fun i hi=>by omega,fun i h1 h2=>by omega⟩,rfl⟩
 case round =>
  obtain ⟨lo,hi,h1,h2,rfl,rfl,HK,rfl⟩:=hrel
  by_cases hlt:lo<hi
  ·rcases hcase with e0 | ⟨b,off,rfl,hblt,hcell⟩
   ·omega
   obtain ⟨m,hm⟩:∃ m,m=(lo+hi) / 2:=⟨_,rfl⟩
   have hm1:lo≤m:=by omega
   have hm2:m<hi:=by omega
   have hq:((lo:Int)+(hi:Int)).tdiv 2=(m:Int):=by rw [Int.tdiv_eq_ediv_of_nonneg (by omega)];omega
   have hw1:IntKind.i64.wrap ((lo:Int)+(hi:Int))=(lo:Int)+(hi:Int):=by rw [IntKind.wrap_i64];omega
   have hw2:IntKind.i64.wrap (m:Int)=(m:Int):=by rw [IntKind.wrap_i64];omega
   clear hm
   obtain ⟨s,c0,_⟩:=hcell m (by omega)
   have hlt2:(lo:Int)<(hi:Int):=by omega
   have hmn:(m:Int)<(n:Int):=by omega
   have hm0:(0:Int)≤(m:Int):=by omega
   cases hT:ltS (es.getD m e3d).1 key
   ·have HK2:Hid ((∀ i,i<lo→ltS (es.getD i e3d).1 key=true)∧∀ i,m≤i→i<n→ltS (es.getD i e3d).1 key=false):=⟨HK.out.1,fun i h3 h4=>by
     by_cases e:i=m
     ·rw [e];exact hT
     cases hc:ltS (es.getD i e3d).1 key
     ·rfl
     have:=WA (hok.lt (i:=m) (j:=i) (by omega) (by omega)) hc
     rw [hT] at this
     cases this⟩
    generalize (es.getD m e3d).1=xk at *
    unfold ltS at hT
    clear HK hcell
    go_wp2
    go_roundw
    case rel=>exact ⟨lo,m,by omega,by omega,rfl,rfl,HK2,by first | rfl | trivial⟩
    case measure=>simp [intOf];omega
   have HK2:Hid ((∀ i,i<m+1→ltS (es.getD i e3d).1 key=true)∧∀ i,hi≤i→i<n→ltS (es.getD i e3d).1 key=false):=⟨fun i h3=>by
    by_cases e:i=m
    ·rw [e];exact hT
    exact WA (hok.lt (i:=i) (j:=m) (by omega) (by omega)) hT,HK.out.2⟩
   generalize (es.getD m e3d).1=xk at *
   unfold ltS at hT
   clear HK hcell
   go_wp2
   go_roundw
   case rel=>exact ⟨m+1,hi,by omega,by omega,by go_num,rfl,HK2,by first | rfl | trivial⟩
   case measure=>simp [intOf];omega
  obtain rfl:lo=hi:=by omega
  have hp:Yf es key=lo:=Qd HK.out.1 (by omega) (fun h3=>HK.out.2 lo (Nat.le_refl _) (by omega))
  have HI:Hid (isE es key=(decide (lo<n) && decide ((es.getD lo e3d).1=key))):=by rw [Hid,isE,hp,hl]
  rw [← HFB.out] at HI
  have HP:Hid (pl=lo):=by rw [Hid,HPL.out];exact hp
  clear HK hp HPL HFB
  have hll:¬ (lo:Int)<(lo:Int):=by omega
  have hb0:(0:Int)≤(lo:Int):=by omega
  have bd:Below U.heap.size U U.drew:=by go_grown
  by_cases hln:lo<n
  ·rcases hcase with e0 | ⟨b,off,rfl,hblt,hcell⟩
   ·omega
   obtain ⟨s,c0,_⟩:=hcell lo hln
   have hln2:(lo:Int)<(n:Int):=by omega
   have g1:=g0
   by_cases hE:(es.getD lo e3d).1=key
   ·have HR:Hid (fb=true):=by rw [Hid,HI.out,decide_eq_true hln,decide_eq_true hE];rfl
    clear HI hcell
    generalize (es.getD lo e3d).1=xk at *
    have hee:(xk.toList == key.toList)=true:=by rw [hE];simp
    clear hE
    go_wp2_with fail
    refine wp_region_held_drew (S:=(fun w'=>w'.cell? ⟨w.heap.size,0,none⟩=some (.slice (some ⟨b,off,none⟩) n cap)∧w'.cell? ⟨b,off+lo*3,none⟩=some (.string xk))) (by kernel_rfl) ⟨g1,c0⟩ (fun hS0=>?_)
    refine tkv 0 30 (.int .i64 (lo:Int)) ?_
    refine tkv 1 31 (.int .i64 (lo:Int)) ?_
    refine tkv 2 32 (.pointer (some ⟨w.heap.size,0,none⟩)) ?_
    refine tkv 3 33 (.slice (some ⟨b,off,none⟩) n cap) ?_
    refine tkv 4 34 (.int .i64 (n:Int)) ?_
    refine tkv 5 35 (.bool true) ?_
    refine tkv 6 36 (.bool true) ?_
    refine tkv 7 37 (.pointer (some ⟨w.heap.size,0,none⟩)) ?_
    refine tkv 8 38 (.slice (some ⟨b,off,none⟩) n cap) ?_
    refine tkv 9 39 (.int .i64 (lo:Int)) ?_
    refine tkv 10 40 (.pointer (some ⟨b,off+lo*3,none⟩)) ?_
    refine tkv 11 41 (.pointer (some ⟨b,off+lo*3,none⟩)) ?_
    refine tkv 12 42 (.string xk) ?_
    refine tkv 13 43 (.string key) ?_
    refine tkv 14 44 (.bool true) ?_
    refine tkv 15 45 (.bool true) ?_
    refine tkv 16 4 (.int .i64 (lo:Int)) ?_
    refine tkv 17 5 (.bool true) ?_
    refine wpAnyH_done (by kernel_rfl) ?_ _
    have bz:=Zo bu bd
    clear hS0 c0 g1 bd
    go_wp2
    go_ret2
    exact ⟨by rw [HR.out,HP.out];rfl,bz⟩
   have HR:Hid (fb=false):=by rw [Hid,HI.out,decide_eq_false hE,Bool.and_false]
   clear HI hcell
   generalize (es.getD lo e3d).1=xk at *
   have hee:(xk.toList == key.toList)=false:=by
    cases hc:(xk.toList == key.toList)
    ·rfl
    exact absurd (Tu (by simpa using hc)) hE
   clear hE
   go_wp2_with fail
   refine wp_region_held_drew (S:=(fun w'=>w'.cell? ⟨w.heap.size,0,none⟩=some (.slice (some ⟨b,off,none⟩) n cap)∧w'.cell? ⟨b,off+lo*3,none⟩=some (.string xk))) (by kernel_rfl) ⟨g1,c0⟩ (fun hS0=>?_)
   refine tkv 0 30 (.int .i64 (lo:Int)) ?_
   refine tkv 1 31 (.int .i64 (lo:Int)) ?_
   refine tkv 2 32 (.pointer (some ⟨w.heap.size,0,none⟩)) ?_
   refine tkv 3 33 (.slice (some ⟨b,off,none⟩) n cap) ?_
   refine tkv 4 34 (.int .i64 (n:Int)) ?_
   refine tkv 5 35 (.bool true) ?_
   refine tkv 6 36 (.bool true) ?_
   refine tkv 7 37 (.pointer (some ⟨w.heap.size,0,none⟩)) ?_
   refine tkv 8 38 (.slice (some ⟨b,off,none⟩) n cap) ?_
   refine tkv 9 39 (.int .i64 (lo:Int)) ?_
   refine tkv 10 40 (.pointer (some ⟨b,off+lo*3,none⟩)) ?_
   refine tkv 11 41 (.pointer (some ⟨b,off+lo*3,none⟩)) ?_
   refine tkv 12 42 (.string xk) ?_
   refine tkv 13 43 (.string key) ?_
   refine tkv 14 44 (.bool false) ?_
   refine tkv 15 45 (.bool false) ?_
   refine tkv 16 4 (.int .i64 (lo:Int)) ?_
   refine tkv 17 5 (.bool false) ?_
   refine wpAnyH_done (by kernel_rfl) ?_ _
   have bz:=Zo bu bd
   clear hS0 c0 g1 bd
   go_wp2
   go_ret2
   exact ⟨by rw [HR.out,HP.out];rfl,bz⟩
  have HR:Hid (fb=false):=by rw [Hid,HI.out,decide_eq_false hln,Bool.false_and]
  have hln2:¬ (lo:Int)<(n:Int):=by omega
  have g1:=g0
  clear HI hcase
  go_wp2_with fail
  refine wp_region_held_drew (S:=(fun w'=>w'.cell? ⟨w.heap.size,0,none⟩=some (.slice a n cap))) (by kernel_rfl) g1 (fun hS0=>?_)
  refine tkv 0 30 (.int .i64 (lo:Int)) ?_
  refine tkv 1 31 (.int .i64 (lo:Int)) ?_
  refine tkv 2 32 (.pointer (some ⟨w.heap.size,0,none⟩)) ?_
  refine tkv 3 33 (.slice a n cap) ?_
  refine tkv 4 34 (.int .i64 (n:Int)) ?_
  refine tkv 5 35 (.bool false) ?_
  refine tkv 6 36 (.bool false) ?_
  refine tku 7 37 ?_
  refine tku 8 38 ?_
  refine tku 9 39 ?_
  refine tku 10 40 ?_
  refine tku 11 41 ?_
  refine tku 12 42 ?_
  refine tku 13 43 ?_
  refine tku 14 44 ?_
  refine tkv 15 45 (.bool false) ?_
  refine tkv 16 4 (.int .i64 (lo:Int)) ?_
  refine tkv 17 5 (.bool false) ?_
  refine wpAnyH_done (by kernel_rfl) ?_ _
  have bz:=Zo bu bd
  clear hS0 g1 bd
  go_wp2
  go_ret2
  exact ⟨by rw [HR.out,HP.out];rfl,bz⟩
end Go.Proofs.YtgmhhegckcionaaGreatDoor
