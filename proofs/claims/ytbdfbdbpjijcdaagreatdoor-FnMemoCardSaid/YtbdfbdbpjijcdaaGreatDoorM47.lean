/-
  Joined: InsE.
-/
import Derived.Lib.Overlaps
import Derived.Test.YtbdfbdbpjijcdaaGreatDoorM46

namespace Go.Proofs.YtbdfbdbpjijcdaaGreatDoor
set_option maxRecDepth 100000
set_option maxHeartbeats 16000000
open Go.RowKit
set_option linter.unusedVariables false
set_option linter.unusedSimpArgs false

theorem sliceV_some {b off n c lo:Nat} (h:n≤c) (h1:lo≤n) (hz:c - lo≠0) :
  ∀ W,(Instr.slice 31 (.slice (some ⟨b,off,none⟩) n c) (some (.int .i64 (lo:Int))) none none).run Tryz.prog W=.ok (.slice (some ⟨b,off+lo*3,none⟩) (n - lo) (c - lo)) W:=by
 intro W
 have hlh:(lo:Int)≤(n:Int):=by omega
 go_simp
 first | done | omega | (intro h9;omega)
theorem sliceV_any {a:Option Addr} {n c lo:Nat} (hz:a=none→c=0) (h:n≤c) (h1:lo≤n) :
  ∃ a2,∀ W,(Instr.slice 31 (.slice a n c) (some (.int .i64 (lo:Int))) none none).run Tryz.prog W=.ok (.slice a2 (n - lo) (c - lo)) W:=by
 have hlh:(lo:Int)≤(n:Int):=by omega
 rcases a with _ | ad
 ·have:=hz rfl
  subst this
  obtain rfl:n=0:=by omega
  obtain rfl:lo=0:=by omega
  exact ⟨none,fun W=>by go_simp⟩
 ·refine ⟨if c=lo then some ad else some (ad.add (lo*3)),fun W=>?_⟩
  go_simp
theorem sliceV_h {b off n c hi:Nat} (h2:hi≤c) :
  ∀ W,(Instr.slice 31 (.slice (some ⟨b,off,none⟩) n c) none (some (.int .i64 (hi:Int))) none).run Tryz.prog W=.ok (.slice (some ⟨b,off,none⟩) hi c) W:=by
 intro W
 have hhc:(hi:Int)≤(c:Int):=by omega
 go_simp
 first | done | omega
def insX (xs:List Value) (p:Nat) (cs:List Value):List Value:=xs.take (p*3)++(cs++xs.drop (p*3))
theorem insX_len {xs cs:List Value} {n p:Nat} (hx:xs.length=n*3) (hc:cs.length=3) (hp:p≤n):(insX xs p cs).length=(n+1)*3:=by
 unfold insX
 rw [List.length_append,List.length_append,List.length_take,List.length_drop]
 omega
theorem insX_grow {xs cs R:List Value} {n p:Nat} (hx:xs.length=n*3) (hc:cs.length=3) (hp:p≤n) (hR:(n+1 - p)*3≤R.length) :
  (splice (splice (xs.take (p*3)++R) (p*3) cs) ((p+1)*3) (xs.drop (p*3))).take ((n+1)*3)=insX xs p cs∧(splice (splice (xs.take (p*3)++R) (p*3) cs) ((p+1)*3) (xs.drop (p*3))).length=(xs.take (p*3)++R).length:=by
 have hA:(xs.take (p*3)).length=p*3:=by rw [List.length_take];omega
 have hD:(xs.drop (p*3)).length=(n - p)*3:=by rw [List.length_drop];omega
 generalize hAA:xs.take (p*3)=A at *
 generalize hDD:xs.drop (p*3)=D at *
 have e1:splice (A++R) (p*3) cs=(A++cs)++R.drop 3:=by
  unfold splice
  rw [← hA,List.take_left,List.drop_append,hc]
  simp [hA]
 have hl1:(A++cs).length=(p+1)*3:=by rw [List.length_append];omega
 have e2:splice ((A++cs)++R.drop 3) ((p+1)*3) D=((A++cs)++D)++(R.drop 3).drop D.length:=by
  unfold splice
  rw [← hl1,List.take_left,List.drop_append]
  simp
 rw [e1,e2]
 refine ⟨?_,?_⟩
 ·have hl2:((A++cs)++D).length=(n+1)*3:=by rw [List.length_append,hl1,hD];omega
  rw [← hl2,List.take_left]
  unfold insX
  rw [hDD,List.append_assoc]
  rw [hAA]
 ·rw [List.length_append,List.length_append,hl1,hD,List.length_drop,List.length_drop,List.length_append,hA]
  omega
theorem insX_room {xs cs R:List Value} {n p:Nat} (hx:xs.length=n*3) (hc:cs.length=3) (hp:p<n) (hR:3≤R.length) :
  (splice (splice (xs++R) ((p+1)*3) (xs.drop (p*3))) (p*3) cs).take ((n+1)*3)=insX xs p cs∧(splice (splice (xs++R) ((p+1)*3) (xs.drop (p*3))) (p*3) cs).length=(xs++R).length:=by
 have hA:(xs.take (p*3)).length=p*3:=by rw [List.length_take];omega
 have hD:(xs.drop (p*3)).length=(n - p)*3:=by rw [List.length_drop];omega
 have hH:((xs++R).take ((p+1)*3)).length=(p+1)*3:=by rw [List.length_take,List.length_append];omega
 have hHA:((xs++R).take ((p+1)*3)).take (p*3)=xs.take (p*3):=by
  rw [List.take_take,Nat.min_eq_left (by omega),List.take_append_of_le_length (by omega)]
 unfold insX
 generalize hAA:xs.take (p*3)=A at *
 generalize hDD:xs.drop (p*3)=D at *
 have e1:splice (xs++R) ((p+1)*3) D=(xs++R).take ((p+1)*3)++(D++(xs++R).drop ((p+1)*3+D.length)):=rfl
 generalize (xs++R).take ((p+1)*3)=H at *
 generalize hZ:(xs++R).drop ((p+1)*3+D.length)=Z at *
 have hZl:Z.length=(xs++R).length - ((p+1)*3+D.length):=by rw [← hZ,List.length_drop]
 have e2:splice (H++(D++Z)) (p*3) cs=(A++(cs++D))++Z:=by
  unfold splice
  rw [List.take_append_of_le_length (by omega),hHA,hc,show p*3+3=H.length by omega,List.drop_left]
  simp [List.append_assoc]
 rw [e1,e2]
 have hl2:(A++(cs++D)).length=(n+1)*3:=by rw [List.length_append,List.length_append,hD];omega
 refine ⟨by rw [← hl2,List.take_left],?_⟩
 rw [List.length_append,hl2,hZl,List.length_append,hD,hx]
 omega
def InsGot (x:Ending) (w':World) (B n:Nat) (ys:List Value):Prop:=∃ v,x=.returned v∧w'.ownsRow B 45 3 v n ys
theorem InsGot.mk9 {w':World} {B n:Nat} {v:Value} {ys:List Value} (h:w'.ownsRow B 45 3 v n ys):InsGot (.returned v) w' B n ys:=⟨v,rfl,h⟩
theorem own_of9 {w:World} {B g n c:Nat} {cur ys:List Value} (hB:B≤g) (hg:w.heap[g]?=some (.cells cur.toArray 45 (0,0))) (hn:n≤c) (hc:c≤maxLen) (hl:cur.length=c*3) (ht:cur.take (n*3)=ys) (hy:ys.length=n*3):w.ownsRow B 45 3 (.slice (some ⟨g,0,none⟩) n c) n ys:=
 ⟨hy,.inr ⟨g,c,cur.toArray,rfl,hB,hg,hn,hc,by simpa using hl,by simpa using ht⟩⟩
theorem szE (w:World):(Go.sizeOf 45).run Tryz.prog w=.ok 3 w:=by kernel_rfl

theorem insert_is (v:Value) (n:Nat) (xs:List Value) (B p g7:Nat) (ek:ByteArray) (s:Sl2) (w:World) (q:w.ownsRow B 45 3 v n xs) (p7:Blk w g7 45 (entC ek s)) (hne:v.ownBlock≠some g7) (hp:p≤n) (hn:n≤2000) (hB:B≤w.heap.size) (h1c:∀ u ∈ xs,u.oneCell'=true) :
  Calls Tryz.prog 141 #[v,.int .i64 (p:Int),.slice (some ⟨g7,0,none⟩) 1 1] w fun x w'=>InsGot x w' B (n+1) (insX xs p (entC ek s))∧w.grownBy w' v.ownBlock:=by
 obtain ⟨i0,hi0,hz0,hz1,hz2⟩:=info_parts info_entry
 have hxl:=q.1
 have hcl:(entC ek s).length=3:=by simp [entC]
 have hnw:∀ ad,some (⟨g7,0,none⟩:Addr)=some ad→∀ j u,(entC ek s)[j]?=some u→w.cell? (ad.add j)=some u:=fun ad ha j u hj=>by
  cases ha
  have e:(⟨g7,0,none⟩:Addr).add j=⟨g7,0+j,none⟩:=by unfold Addr.add;split<;>simp_all
  rw [e,Nat.zero_add,p7.cell j]
  exact hj
 have hone:=entC_one ek s
 by_cases hpn:p=n
 ·subst hpn
  have hX:insX xs p (entC ek s)=xs++entC ek s:=by
   unfold insX
   rw [List.take_of_length_le (by omega),List.drop_of_length_le (by omega),List.append_nil]
  rw [hX]
  obtain ⟨va,vc,rfl⟩:=slice8 q
  have hpc:p≤vc:=by
   rcases q.2 with ⟨hv,h0⟩ | ⟨g,cap,cur,hv,_,_,hnc,_⟩
   ·omega
   ·injection hv with e1 e2 e3;omega
  obtain ⟨a2,hs1⟩:=sliceV_any (own_nil0 q) hpc (Nat.le_refl p)
  have heq:((p:Int) == (p:Int))=true:=by simp
  generalize entC ek s=cs at *
  go_enter Tryz.func141,Tryz.ntmps141
  go_wp2_with (at_builtin;refine wpList_app9 rfl _ _ 31 rfl B 45 i0 (.agg #[.string ⟨#[]⟩,.slice none 0 0,.slice none 0 0]) 3 64 Tryz.underlying31 hi0 hz0 hz1 hz2 rfl (by decide) (.slice va p vc) _ _ rfl q _ 1 1 rfl (fun h9=>by cases h9) cs (by omega) hnw hone (by unfold maxLen;omega) (by omega) hB ?_)
  intro v9 w9 hown hgrow _
  go_wp2
  go_ret
  exact ⟨InsGot.mk9 hown,hgrow⟩
 ·have hlt:p<n:=by omega
  rcases q.2 with ⟨_,h0⟩ | ⟨g,cap,cur,rfl,hBg,hg,hnc,hcm,hcs,htk⟩
  ·omega
  have hgw:g<w.heap.size:=(Array.getElem?_eq_some_iff.1 hg).1
  have hcells:∀ j u,xs[j]?=some u→w.cell? ⟨g,j,none⟩=some u:=fun j u hj=>by
   have hj2:j<n*3:=by have:=(List.getElem?_eq_some_iff.1 hj).1;omega
   rw [q.cellAt j hj2];exact hj
  have hdrop:∀ j u,(xs.drop (p*3))[j]?=some u→w.cell? ⟨g,p*3+j,none⟩=some u:=fun j u hj=>hcells _ u (by rw [List.getElem?_drop] at hj;exact hj)
  have hDl:(xs.drop (p*3)).length=(n - p)*3:=by rw [List.length_drop];omega
  have hD1:∀ u ∈ xs.drop (p*3),u.oneCell'=true:=fun u hu=>h1c u (List.mem_of_mem_drop hu)
  have add9:∀ (x y j:Nat),(⟨x,y,none⟩:Addr).add j=⟨x,y+j,none⟩:=fun x y j=>by unfold Addr.add;split<;>simp_all
  have hpne:((p:Int) == (n:Int))=false:=by simp;omega
  have hs1:=sliceV_some (b:=g) (off:=0) hnc hp (show cap - p≠0 by omega)
  rw [Nat.zero_add] at hs1
  have e11:((p+1:Nat):Int)=(p:Int)+1:=by omega
  have hwp:IntKind.i64.wrap ((p:Int)+1)=(p:Int)+1:=by rw [IntKind.wrap_i64];omega
  have hmin:∀ a b:Nat,a≤b→a=Nat.min a b:=fun a b h=>(Nat.min_eq_left h).symm
  by_cases hroom:n+1≤cap
  ·have hs2:=sliceV_h (b:=g) (off:=0) (n:=n) (c:=cap) (hi:=n+1) hroom
   have hs3:=sliceV_some (b:=g) (off:=0) (n:=n+1) (c:=cap) (lo:=p) hroom (by omega) (by omega)
   have hs4:=sliceV_some (b:=g) (off:=0) (n:=n+1) (c:=cap) (lo:=p+1) hroom (by omega) (by omega)
   rw [Nat.zero_add] at hs3 hs4
   have hle9:¬ (cap:Int)<(n:Int)+1:=by omega
   have hn1:((n+1:Nat):Int)=(n:Int)+1:=by omega
   rw [hn1] at hs2
   have hs4':=hs4
   rw [e11] at hs4'
   have hov:∀ lb cb,(callFunc 204 #[.slice (some ⟨g7,0,none⟩) 1 1,.slice (some ⟨g,(p+1)*3,none⟩) lb cb]).run Tryz.prog w=.ok (.value (.bool false)) w:=fun lb cb=>by
    rw [run_callFunc_extern Tryz.func204 (by kernel_rfl) (by kernel_rfl) (by kernel_rfl) (e:=Extern.SlicesOverlaps.overlaps #[31,31] #[4]) (by kernel_rfl),
     Lib.run_overlaps_apart w 31 4 45 Tryz.underlying31 3 szE ⟨g7,0,none⟩ ⟨g,(p+1)*3,none⟩ 1 1 lb cb (fun e=>hne (by simp [Value.ownBlock] at e ⊢;exact e.symm)) 45 45 3 cur.size (by unfold World.shape?;rw [p7];rfl) (by unfold World.shape?;rw [hg]) (by omega) (p7.frozen 0) (p7.frozen 3)]
    rfl
   obtain ⟨R,hR⟩:∃ R,R=cur.toList.drop (n*3):=⟨_,rfl⟩
   have hC:cur.toList=xs++R:=by rw [hR,← htk,List.take_append_drop]
   have hRl:3≤R.length:=by rw [hR,List.length_drop,Array.length_toList,hcs];omega
   have hg':w.heap[g]?=some (.cells (xs++R).toArray 45 (0,0)):=by rw [hg,← hC]
   have hCl:(xs++R).length=cap*3:=by rw [← hC,Array.length_toList,hcs]
   have hfin:=insX_room (cs:=entC ek s) hxl hcl hlt hRl
   have hil:=insX_len (cs:=entC ek s) hxl hcl hp
   have bd:Below w.heap.size w w.drew:=by go_grown
   have hdd:∀ j u,(xs.drop (p*3))[j]?=some u→w.drew.cell? ((⟨g,p*3,none⟩:Addr).add j)=some u:=fun j u hj=>by rw [add9];exact cell8 bd (hdrop j u hj)
   have hgd:w.drew.heap[g]?=some (.cells (xs++R).toArray 45 (0,0)):=hg'
   have hl1:(splice (xs++R) ((p+1)*3) (xs.drop (p*3))).length=(xs++R).length:=length_splice _ _ _ (by omega)
   clear hR hC hcs htk hg
   generalize entC ek s=cs at *
   generalize hDD:xs.drop (p*3)=D at *
   go_enter Tryz.func141,Tryz.ntmps141
   go_wp2_with (simp only [hov])
   refine wp_region_held_drew (S:=(fun _=>True)) (by kernel_rfl) trivial (fun hS0=>?_)
   refine tkx 0 69 (.slice (some ⟨g,0,none⟩) (n+1) cap) ?_ ?_
   ·(intro w' hSw;(try dsimp only at hSw);go_simp;first | done | rfl | omega | (intro h9;omega) | (rw [IntKind.wrap_i64];omega))
   simp only [Act.put,tka,tkb,tkc]
   refine tkx 1 70 (.int .i64 (p:Int)) ?_ ?_
   ·(intro w' hSw;(try dsimp only at hSw);go_simp;first | done | rfl | omega | (intro h9;omega) | (rw [IntKind.wrap_i64];omega))
   simp only [Act.put,tka,tkb,tkc]
   refine tkx 2 71 (.int .i64 1) ?_ ?_
   ·(intro w' hSw;(try dsimp only at hSw);go_simp;first | done | rfl | omega | (intro h9;omega) | (rw [IntKind.wrap_i64];omega))
   simp only [Act.put,tka,tkb,tkc]
   refine tkx 3 72 (.int .i64 ((p+1:Nat):Int)) ?_ ?_
   ·(intro w' hSw;(try dsimp only at hSw);go_simp;first | done | rfl | omega | (intro h9;omega) | (rw [IntKind.wrap_i64];omega))
   simp only [Act.put,tka,tkb,tkc]
   refine tkx 4 73 (.slice (some ⟨g,(p+1)*3,none⟩) ((n+1) - (p+1)) (cap - (p+1))) ?_ ?_
   ·(intro w' hSw;(try dsimp only at hSw);go_simp;first | done | rfl | omega | (intro h9;omega) | (rw [IntKind.wrap_i64];omega))
   simp only [Act.put,tka,tkb,tkc]
   refine tkx 5 74 (.slice (some ⟨g,0,none⟩) (n+1) cap) ?_ ?_
   ·(intro w' hSw;(try dsimp only at hSw);go_simp;first | done | rfl | omega | (intro h9;omega) | (rw [IntKind.wrap_i64];omega))
   simp only [Act.put,tka,tkb,tkc]
   refine tkx 6 75 (.int .i64 (p:Int)) ?_ ?_
   ·(intro w' hSw;(try dsimp only at hSw);go_simp;first | done | rfl | omega | (intro h9;omega) | (rw [IntKind.wrap_i64];omega))
   simp only [Act.put,tka,tkb,tkc]
   refine tkx 7 76 (.slice (some ⟨g,p*3,none⟩) ((n+1) - p) (cap - p)) ?_ ?_
   ·(intro w' hSw;(try dsimp only at hSw);go_simp;first | done | rfl | omega | (intro h9;omega) | (rw [IntKind.wrap_i64];omega))
   simp only [Act.put,tka,tkb,tkc]
   refine tkr 8 77 (fun K hK=>?_)
   refine step_copyK rfl _ _ 31 31 rfl 45 i0 3 Tryz.underlying31 hi0 hz1 g ((p+1)*3) (n+1 - (p+1)) (cap - (p+1)) ⟨g,p*3,none⟩ (n+1 - p) (cap - p) (n - p) rfl rfl (xs++R) 45 hgd D (by show n - p=min (n+1 - p) (n+1 - (p+1));omega) hDl hdd (by omega) hD1 B w (bd.mono hB) hBg ?_
   intro V1 HG1 HGr1 b1
   have hsrc1:∀ j u,cs[j]?=some u→V1.cell? ((⟨g7,0,none⟩:Addr).add j)=some u:=fun j u hj=>by rw [add9];exact grown8 HGr1.out (cell8 bd (by have:=hnw _ rfl j u hj;rw [add9] at this;exact this)) (fun e=>hne (by simp [Value.ownBlock] at e ⊢;exact e.symm))
   go_simp
   refine hK.out _ _ ?_ (fun hS8=>?_)
   ·exact trivial
   clear hK
   try simp only [Act.put,tka,tkb,tkc]
   refine wpAnyH_done (by kernel_rfl) ?_ _
   go_wp2_with (refine wpList_copyK rfl _ _ 31 31 rfl 45 i0 3 Tryz.underlying31 hi0 hz1 g (p*3) (n+1 - p) (cap - p) ⟨g7,0,none⟩ 1 1 1 rfl rfl (splice (xs++R) ((p+1)*3) D) 45 HG1.out cs (hmin _ _ (by omega)) (by omega) hsrc1 (by omega) hone B w b1 hBg ?_)
   intro V2 HG2 HGr2 b2
   have hgrow:w.grownBy V2 (some g):=⟨HGr2.out.os.trans (HGr1.out.os.trans rfl),HGr2.out.tape.trans (HGr1.out.tape.trans rfl),HGr2.out.output.trans (HGr1.out.output.trans rfl),Nat.le_trans HGr1.out.size HGr2.out.size,fun k hk hkn=>(HGr2.out.block k (Nat.lt_of_lt_of_le hk HGr1.out.size) hkn).trans (HGr1.out.block k hk hkn)⟩
   have hown:=own_of9 (B:=B) hBg HG2.out hroom hcm (by rw [hfin.2,hCl]) hfin.1 hil
   clear HG2 HGr2 HG1 HGr1 b1 b2
   go_wp2
   go_ret
   exact ⟨InsGot.mk9 hown,hgrow⟩
  ·have hgt:(cap:Int)<(n:Int)+1:=by omega
   have hs2:=sliceV_h (b:=g) (off:=0) (n:=n) (c:=cap) (hi:=p) (by omega)
   have hA:(xs.take (p*3)).length=p*i0.size:=by rw [List.length_take,hz1];omega
   have hr:=run_append_zeros_grow (P:=Tryz.prog) w 31 3 31 45 i0 (.agg #[.string ⟨#[]⟩,.slice none 0 0,.slice none 0 0]) .i64 .i64 Tryz.underlying31 Tryz.underlying3 hi0 hz0 ⟨g,0,none⟩ p cap (xs.take (p*3)) hA (fun j u hj=>by
    rw [add9,Nat.zero_add]
    refine hcells j u ?_
    rw [List.getElem?_take] at hj
    split at hj
    ·exact hj
    ·cases hj) (n+1 - p) (by omega) (by omega) (by omega) (by omega) (by rw [hz2];omega) (growslice_fits (by omega) (by rw [hz2];omega))
   rw [show p+(n+1 - p)=n+1 by omega,show ((n+1 - p:Nat):Int)=(n:Int)+1 - (p:Int) by omega] at hr
   have hc2:=grownCap_ge w (n+1) cap 45
   have hc2m:=grownCap_le_maxLen w (n+1) cap 45 (by unfold maxLen;omega)
   obtain ⟨R,hR⟩:∃ R,R=(Builtin.zeroCells (Value.agg #[.string ⟨#[]⟩,.slice none 0 0,.slice none 0 0]).cells (n+1 - p)).toList++(Builtin.zeroCells (Value.agg #[.string ⟨#[]⟩,.slice none 0 0,.slice none 0 0]).cells (grownCap w (n+1) cap 45 - (n+1))).toList:=⟨_,rfl⟩
   have hRl:R.length=(grownCap w (n+1) cap 45 - p)*3:=by
    rw [hR,List.length_append,Array.length_toList,Array.length_toList,size_zeroCells,size_zeroCells]
    show (n+1 - p)*3+(grownCap w (n+1) cap 45 - (n+1))*3=_
    omega
   have harr:(xs.take (p*3)).toArray++Builtin.zeroCells (Value.agg #[.string ⟨#[]⟩,.slice none 0 0,.slice none 0 0]).cells (n+1 - p)++Builtin.zeroCells (Value.agg #[.string ⟨#[]⟩,.slice none 0 0,.slice none 0 0]).cells (grownCap w (n+1) cap 45 - (n+1))=(xs.take (p*3)++R).toArray:=by
    apply Array.ext'
    rw [hR]
    simp [List.append_assoc]
   rw [harr] at hr
   clear harr hR
   generalize grownCap w (n+1) cap 45=c2 at *
   have hVg:(w.drew.alloc (.cells (xs.take (p*3)++R).toArray 45)).heap[w.heap.size]?=some (.cells (xs.take (p*3)++R).toArray 45 (0,0)):=heap_alloc_new w.drew _
   have hgr0:w.grownBy (w.drew.alloc (.cells (xs.take (p*3)++R).toArray 45)) none:=⟨rfl,rfl,rfl,by simp,fun k hk _=>by first | exact heap_alloc_old w.drew _ hk | exact heap_alloc_old w.drew _ k hk⟩
   have hVs:(w.drew.alloc (.cells (xs.take (p*3)++R).toArray 45)).heap.size=w.heap.size+1:=by simp
   have bV:Below w.heap.size w (w.drew.alloc (.cells (xs.take (p*3)++R).toArray 45)):=by go_grown
   generalize w.drew.alloc (.cells (xs.take (p*3)++R).toArray 45)=V at *
   obtain ⟨g2,hg2⟩:∃ g2,g2=w.heap.size:=⟨_,rfl⟩
   have bV0:=bV
   rw [← hg2] at hr hVg hVs bV
   have hg2a:g2≤w.heap.size:=by omega
   have hg2b:w.heap.size≤g2:=by omega
   clear hg2
   have hBg2:B≤g2:=by omega
   have hgg2:g<g2:=by omega
   have hs3:=sliceV_some (b:=g2) (off:=0) (n:=n+1) (c:=c2) (lo:=p) hc2 (by omega) (by omega)
   have hs4:=sliceV_some (b:=g2) (off:=0) (n:=n+1) (c:=c2) (lo:=p+1) hc2 (by omega) (by omega)
   rw [Nat.zero_add] at hs3 hs4
   have hs4':=hs4
   rw [e11] at hs4'
   have hsrc0:∀ j u,(entC ek s)[j]?=some u→V.cell? ((⟨g7,0,none⟩:Addr).add j)=some u:=fun j u hj=>cell8 bV0 (hnw _ rfl j u hj)
   have hfin:=insX_grow (cs:=entC ek s) (R:=R) hxl hcl hp (by omega)
   have hil:=insX_len (cs:=entC ek s) hxl hcl hp
   have hcurl:(xs.take (p*3)++R).length=c2*3:=by rw [List.length_append,hA,hz1,hRl];omega
   have hl1:(splice (xs.take (p*3)++R) (p*3) (entC ek s)).length=(xs.take (p*3)++R).length:=length_splice _ _ _ (by rw [hcurl];omega)
   have hgw7:g7<w.heap.size:=p7.lt
   generalize entC ek s=cs at *
   generalize hDD:xs.drop (p*3)=D at *
   generalize xs.take (p*3)++R=C2 at *
   have bVB:Below B w V:=bV.mono hBg2
   go_enter Tryz.func141,Tryz.ntmps141
   go_wp2_with (first | (at_builtin;refine Go.Lib.wpList_append_run _ rfl _ _ _ _ rfl _ _ rfl rfl _ _ hr ?_) | (refine wpList_copyK rfl _ _ 31 31 rfl 45 i0 3 Tryz.underlying31 hi0 hz1 g2 (p*3) (n+1 - p) (c2 - p) ⟨g7,0,none⟩ 1 1 1 rfl rfl C2 45 hVg cs (hmin _ _ (by omega)) (by omega) hsrc0 (by omega) hone B w bVB hBg2 ?_))
   intro V1 HG1 HGr1 b1
   have hdd:∀ j u,D[j]?=some u→V1.drew.cell? ((⟨g,p*3,none⟩:Addr).add j)=some u:=fun j u hj=>by
    rw [add9]
    have h9:=grown8 HGr1.out (cell8 bV0 (hdrop j u hj)) (by simp;omega)
    exact cell8 (show Below V1.heap.size V1 V1.drew by go_grown) h9
   have hgd:V1.drew.heap[g2]?=some (.cells (splice C2 (p*3) cs).toArray 45 (0,0)):=HG1.out
   have bd1:Below B w V1.drew:=b1.trans ⟨rfl,rfl,rfl,Nat.le_refl _,fun _ _=>rfl⟩
   go_wp2_with fail
   refine wp_region_held_drew (S:=(fun _=>True)) (by kernel_rfl) trivial (fun hS0=>?_)
   refine tkx 0 46 (.slice (some ⟨g2,0,none⟩) (n+1) c2) ?_ ?_
   ·(intro w' hSw;(try dsimp only at hSw);go_simp;first | done | rfl | omega | (intro h9;omega) | (rw [IntKind.wrap_i64];omega))
   simp only [Act.put,tka,tkb,tkc]
   refine tkx 1 47 (.int .i64 (p:Int)) ?_ ?_
   ·(intro w' hSw;(try dsimp only at hSw);go_simp;first | done | rfl | omega | (intro h9;omega) | (rw [IntKind.wrap_i64];omega))
   simp only [Act.put,tka,tkb,tkc]
   refine tkx 2 48 (.int .i64 1) ?_ ?_
   ·(intro w' hSw;(try dsimp only at hSw);go_simp;first | done | rfl | omega | (intro h9;omega) | (rw [IntKind.wrap_i64];omega))
   simp only [Act.put,tka,tkb,tkc]
   refine tkx 3 49 (.int .i64 ((p+1:Nat):Int)) ?_ ?_
   ·(intro w' hSw;(try dsimp only at hSw);go_simp;first | done | rfl | omega | (intro h9;omega) | (rw [IntKind.wrap_i64];omega))
   simp only [Act.put,tka,tkb,tkc]
   refine tkx 4 50 (.slice (some ⟨g2,(p+1)*3,none⟩) ((n+1) - (p+1)) (c2 - (p+1))) ?_ ?_
   ·(intro w' hSw;(try dsimp only at hSw);go_simp;first | done | rfl | omega | (intro h9;omega) | (rw [IntKind.wrap_i64];omega))
   simp only [Act.put,tka,tkb,tkc]
   refine tkx 5 51 (.slice (some ⟨g,0,none⟩) n cap) ?_ ?_
   ·(intro w' hSw;(try dsimp only at hSw);go_simp;first | done | rfl | omega | (intro h9;omega) | (rw [IntKind.wrap_i64];omega))
   simp only [Act.put,tka,tkb,tkc]
   refine tkx 6 52 (.int .i64 (p:Int)) ?_ ?_
   ·(intro w' hSw;(try dsimp only at hSw);go_simp;first | done | rfl | omega | (intro h9;omega) | (rw [IntKind.wrap_i64];omega))
   simp only [Act.put,tka,tkb,tkc]
   refine tkx 7 53 (.slice (some ⟨g,p*3,none⟩) (n - p) (cap - p)) ?_ ?_
   ·(intro w' hSw;(try dsimp only at hSw);go_simp;first | done | rfl | omega | (intro h9;omega) | (rw [IntKind.wrap_i64];omega))
   simp only [Act.put,tka,tkb,tkc]
   refine tkr 8 54 (fun K hK=>?_)
   refine step_copyK rfl _ _ 31 31 rfl 45 i0 3 Tryz.underlying31 hi0 hz1 g2 ((p+1)*3) (n+1 - (p+1)) (c2 - (p+1)) ⟨g,p*3,none⟩ (n - p) (cap - p) (n - p) rfl rfl (splice C2 (p*3) cs) 45 hgd D (hmin _ _ (by omega)) hDl hdd (by omega) hD1 B w bd1 hBg2 ?_
   intro V2 HG2 HGr2 b2
   go_simp
   refine hK.out _ _ ?_ (fun hS8=>?_)
   ·exact trivial
   clear hK
   try simp only [Act.put,tka,tkb,tkc]
   refine wpAnyH_done (by kernel_rfl) ?_ _
   have hgrow:w.grownBy V2 (some g):=⟨b2.os,b2.tape,b2.output,by have h8:=HGr2.out.size;have h9:=HGr1.out.size;have h7:V1.drew.heap.size=V1.heap.size:=rfl;omega,fun k hk _=>by
    have h1:=HGr2.out.block k (by have h9:=HGr1.out.size;show k<V1.heap.size;omega) (by simp;omega)
    have h2:=HGr1.out.block k (by omega) (by simp;omega)
    have h3:=hgr0.block k hk (by simp)
    exact h1.trans (h2.trans h3)⟩
   have hown:=own_of9 (B:=B) hBg2 HG2.out hc2 hc2m (by rw [hfin.2,hcurl]) hfin.1 hil
   clear HG2 HGr2 HG1 HGr1 b1 b2 bd1
   go_wp2
   go_ret
   exact ⟨InsGot.mk9 hown,hgrow⟩
end Go.Proofs.YtbdfbdbpjijcdaaGreatDoor
