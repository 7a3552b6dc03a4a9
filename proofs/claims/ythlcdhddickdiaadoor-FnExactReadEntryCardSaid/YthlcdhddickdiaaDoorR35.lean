/-
  Joined: EnoI.
-/
import Derived.Test.YthlcdhddickdiaaDoorR34

namespace Go.Proofs.YthlcdhddickdiaaDoor
set_option maxRecDepth 100000
set_option maxHeartbeats 16000000
open Go.RowKit
set_option linter.unusedVariables false
set_option linter.unusedSimpArgs false

theorem slice_l9 {b off len cap lo:Nat} (h1:lo≤len) (h2:len≤cap) :
  ∃ a,(∀ W,(Instr.slice 26 (.slice (some ⟨b,off,none⟩) len cap) (some (.int .i64 (lo:Int))) none none).run Tryd.prog W=.ok (.slice a (len - lo) (cap - lo)) W)∧(cap - lo=0∧a=some ⟨b,off,none⟩∨a=some ⟨b,off+lo,none⟩):=by
 have hlh:(lo:Int)≤(len:Int):=by omega
 by_cases hz:cap - lo=0
 ·refine ⟨some ⟨b,off,none⟩,fun W=>?_,.inl ⟨hz,rfl⟩⟩
  go_simp
  omega
 ·refine ⟨some ⟨b,off+lo,none⟩,fun W=>?_,.inr rfl⟩
  go_simp
  omega
def EnG (e:Ending) (w':World) (B:Nat) (key:ByteArray) (a:Option Addr) (n c:Nat) (xs:List Int) (m:Nat):Prop:=
 (¬ (1≤n∧1+3*m≤n)∧e=.returned (.tuple #[.agg #[.string ⟨#[]⟩,.slice none 0 0,.slice none 0 0],.bool false])) ∨
 ((1≤n∧1+3*m≤n)∧∃ (s:Sl2) (b off:Nat),a=some ⟨b,off,none⟩∧e=.returned (.tuple #[entV key s,.bool true])∧w'.ownsRow B 93 3 (.slice s.1.1 s.1.2.1 s.1.2.2) (triples ((xs.drop 1).take (3*m))).length (flat (triples ((xs.drop 1).take (3*m)))) ∧
  s.2.2=(n - (1+3*m),c - (1+3*m))∧(c - (1+3*m)=0∧s.2.1=some ⟨b,off,none⟩∨s.2.1=some ⟨b,off+(1+3*m),none⟩))

theorem entryOf_is (key:ByteArray) (a:Option Addr) (n c:Nat) (xs:List Int) (m:Nat) (w:World) (h:Ints .i64 w a n c xs) (hn:n≤4096) (hx:1≤n→xs.getD 0 0=(m:Int)) (hm:m≤999999999) :
  Calls Tryd.prog 49 #[.string key,.slice a n c] w fun e w'=>EnG e w' w.heap.size key a n c xs m∧Below w.heap.size w w':=by
 have bw:Below w.heap.size w (w.alloc (.cells #[.string ⟨#[]⟩,.slice none 0 0,.slice none 0 0] 39)):=by go_grown
 have pR:Blk (w.alloc (.cells #[.string ⟨#[]⟩,.slice none 0 0,.slice none 0 0] 39)) w.heap.size 39 [.string ⟨#[]⟩,.slice none 0 0,.slice none 0 0]:=blkAt _ _ _ rfl
 by_cases h0:n=0
 ·subst h0
  have hN:Hid (EnG (.returned (.tuple #[.agg #[.string ⟨#[]⟩,.slice none 0 0,.slice none 0 0],.bool false])) w w.heap.size key a 0 c xs m):=.inl ⟨by omega,rfl⟩
  have HN:∀ W,EnG (.returned (.tuple #[.agg #[.string ⟨#[]⟩,.slice none 0 0,.slice none 0 0],.bool false])) W w.heap.size key a 0 c xs m:=fun W=>.inl ⟨by omega,rfl⟩
  clear hN
  replace HN:Hid (∀ W,EnG (.returned (.tuple #[.agg #[.string ⟨#[]⟩,.slice none 0 0,.slice none 0 0],.bool false])) W w.heap.size key a 0 c xs m):=HN
  clear h hx
  go_enter Tryd.func49,Tryd.ntmps49
  have r0:=pR.cell 0
  have r1:=pR.cell 1
  have r2:=pR.cell 2
  have fr0:=pR.frozen 0
  have fr1:=pR.frozen 1
  have fr2:=pR.frozen 2
  have pZ:=((pR.set 0 (.string ⟨#[]⟩)).set 1 (.slice none 0 0)).set 2 (.slice none 0 0)
  simp only [List.set_cons_zero,List.set_cons_succ] at pZ
  have z0:=pZ.cell 0
  have z1:=pZ.cell 1
  have z2:=pZ.cell 2
  simp only [List.getElem?_cons_zero,List.getElem?_cons_succ] at z0 z1 z2 r0 r1 r2
  have bz:=((bw.setCell (p:=⟨w.heap.size,0,none⟩) (Nat.le_refl _) (.string ⟨#[]⟩)).setCell (p:=⟨w.heap.size,1,none⟩) (Nat.le_refl _) (.slice none 0 0)).setCell (p:=⟨w.heap.size,2,none⟩) (Nat.le_refl _) (.slice none 0 0)
  clear pZ pR
  go_wp2
  refine bodyPost_ret (by simp [results,Tryd.results49,go_sem,z0,z1,z2];try rfl) rfl ?_
  first | exact ⟨HN.out _,bz⟩ | exact ⟨HN.out _,by go_grown⟩
 have hx1:=hx (by omega)
 have hI:=h
 obtain ⟨e1,e2,e3,hcase⟩:=h
 rcases hcase with h9 | ⟨b,off,rfl,hbl,hc⟩
 ·exact absurd h9 h0
 have d0:=hc 0 (by omega)
 rw [hx1,Nat.add_zero] at d0
 have d0':=cells_kept bw _ _ d0
 have hq0:0<n:=by omega
 have hp0:(0:Int)<(n:Int):=by omega
 have hnz:((n:Int) == 0)=false:=by simp;omega
 clear hc hx hx1
 by_cases h1:1+3*m≤n
 ·have hgt:¬ (n:Int)<1+3*(m:Int):=by omega
  obtain ⟨a1,hs1,hI1⟩:=slice_lh hI (lo:=1) (hi:=1+3*m) (by omega) (by omega)
  obtain ⟨a2,hs2,hA2⟩:=slice_l9 (b:=b) (off:=off) (len:=n) (cap:=c) (lo:=1+3*m) (by omega) e2
  have hca:((1+3*m:Nat):Int)=1+3*(m:Int):=by omega
  rw [hca] at hs1 hs2
  rw [Nat.add_sub_cancel_left] at hs1 hI1
  have hs1':∀ W,(Instr.slice 26 (.slice (some ⟨b,off,none⟩) n c) (some (.int .i64 1)) (some (.int .i64 (1+3*(m:Int)))) none).run Tryd.prog W=.ok (.slice a1 (3*m) (c - 1)) W:=fun W=>hs1 W
  have kB:=fun W (hb:Below w.heap.size w W)=>bugsOf_is a1 (3*m) (c - 1) ((xs.drop 1).take (3*m)) m W (hI1.below hb) rfl (by omega)
  obtain ⟨fn9,hfn⟩:∃ k,k=n - (1+3*m):=⟨_,rfl⟩
  obtain ⟨fc9,hfc⟩:∃ k,k=c - (1+3*m):=⟨_,rfl⟩
  rw [← hfn,← hfc] at hs2
  rw [← hfc] at hA2
  obtain ⟨bn9,hbn⟩:∃ k,k=3*m:=⟨_,rfl⟩
  rw [← hbn] at hs1' kB
  have HF:Hid ((fn9,fc9)=(n - (1+3*m),c - (1+3*m))∧fc9=c - (1+3*m)∧bn9=3*m):=⟨by rw [hfn,hfc],hfc,hbn⟩
  clear hs1 hI1 hfn hfc hI hca
  generalize hys:(xs.drop 1).take bn9=ys at *
  have HY:Hid ((xs.drop 1).take bn9=ys):=hys
  clear hys hbn
  have bd:Below w.heap.size w (w.alloc (.cells #[.string ⟨#[]⟩,.slice none 0 0,.slice none 0 0] 39)).drew:=bel8 bw (by go_grown)
  go_enter Tryd.func49,Tryd.ntmps49
  go_wp2_with fail
  generalize (w.alloc (.cells #[.string ⟨#[]⟩,.slice none 0 0,.slice none 0 0] 39))=U at *
  refine wp_region_held_drew (S:=(fun _=>True)) (by kernel_rfl) trivial (fun hS0=>?_)
  refine tkx 0 21 (.string key) ?_ ?_
  ·(intro w' hSw;(try dsimp only at hSw);go_simp;first | done | rfl | omega | (intro h9;omega) | (rw [IntKind.wrap_i64];omega))
  simp only [Act.put,tka,tkb,tkc]
  refine tkx 1 22 (.slice (some ⟨b,off,none⟩) n c) ?_ ?_
  ·(intro w' hSw;(try dsimp only at hSw);go_simp;first | done | rfl | omega | (intro h9;omega) | (rw [IntKind.wrap_i64];omega))
  simp only [Act.put,tka,tkb,tkc]
  refine tkx 2 23 (.int .i64 (1+3*(m:Int))) ?_ ?_
  ·(intro w' hSw;(try dsimp only at hSw);go_simp;first | done | rfl | omega | (intro h9;omega) | (rw [IntKind.wrap_i64];omega))
  simp only [Act.put,tka,tkb,tkc]
  refine tkx 3 24 (.slice a1 bn9 (c - 1)) ?_ ?_
  ·(intro w' hSw;(try dsimp only at hSw);go_simp;first | done | rfl | omega | (intro h9;omega) | (rw [IntKind.wrap_i64];omega))
  simp only [Act.put,tka,tkb,tkc]
  refine tkx 5 26 (.slice (some ⟨b,off,none⟩) n c) ?_ ?_
  ·(intro w' hSw;(try dsimp only at hSw);go_simp;first | done | rfl | omega | (intro h9;omega) | (rw [IntKind.wrap_i64];omega))
  simp only [Act.put,tka,tkb,tkc]
  refine tkx 6 27 (.int .i64 (1+3*(m:Int))) ?_ ?_
  ·(intro w' hSw;(try dsimp only at hSw);go_simp;first | done | rfl | omega | (intro h9;omega) | (rw [IntKind.wrap_i64];omega))
  simp only [Act.put,tka,tkb,tkc]
  refine tkx 7 28 (.slice a2 fn9 fc9) ?_ ?_
  ·(intro w' hSw;(try dsimp only at hSw);go_simp;first | done | rfl | omega | (intro h9;omega) | (rw [IntKind.wrap_i64];omega))
  simp only [Act.put,tka,tkb,tkc]
  refine tkr 4 25 (fun K hK=>?_)
  go_simp
  refine (kB _ bd).mono ?_
  rintro e w5 ⟨⟨v,rfl,hO⟩,hb5⟩
  obtain ⟨va,vc,rfl⟩:=slice8 hO
  go_wp2_with fail
  refine hK.out _ _ ?_ (fun hS5=>?_)
  ·exact trivial
  clear hK
  replace hO:=lower8 hO (show w.heap.size+1≤U.drew.heap.size from by have:=pR.lt;exact this)
  generalize hlv:(triples ys).length=lv at *
  have hb6:=bel8 (show Below U.heap.size U U.drew by go_grown) hb5
  replace pR:=pR.below hb6
  replace bw:=bel8 bw hb6
  have r0:=pR.cell 0
  have r1:=pR.cell 1
  have r2:=pR.cell 2
  have fr0:=pR.frozen 0
  have fr1:=pR.frozen 1
  have fr2:=pR.frozen 2
  have pZ:=((pR.set 0 (.string key)).set 1 (.slice va lv vc)).set 2 (.slice a2 fn9 fc9)
  simp only [List.set_cons_zero,List.set_cons_succ] at pZ
  have z0:=pZ.cell 0
  have z1:=pZ.cell 1
  have z2:=pZ.cell 2
  simp only [List.getElem?_cons_zero,List.getElem?_cons_succ] at z0 z1 z2 r0 r1 r2
  have bz:=((bw.setCell (p:=⟨w.heap.size,0,none⟩) (Nat.le_refl _) (.string key)).setCell (p:=⟨w.heap.size,1,none⟩) (Nat.le_refl _) (.slice va lv vc)).setCell (p:=⟨w.heap.size,2,none⟩) (Nat.le_refl _) (.slice a2 fn9 fc9)
  refine tkx 8 29 (.agg #[.string key,.slice va lv vc,.slice a2 fn9 fc9]) ?_ ?_
  ·(intro w' hSw;(try dsimp only at hSw);go_simp;first | done | rfl | omega | (intro h9;omega) | (rw [IntKind.wrap_i64];omega))
  simp only [Act.put,tka,tkb,tkc]
  refine tkz 9 (fun K hK=>?_)
  go_simp
  refine hK.out _ _ ?_ (fun hS9=>?_)
  ·exact trivial
  clear hK
  try simp only [Act.put,tka,tkb,tkc]
  refine tkx 10 5 (.bool true) ?_ ?_
  ·(intro w' hSw;(try dsimp only at hSw);go_simp;first | done | rfl | omega | (intro h9;omega) | (rw [IntKind.wrap_i64];omega))
  simp only [Act.put,tka,tkb,tkc]
  refine wpAnyH_done (by kernel_rfl) ?_ _
  have hO9:=ownsRow_setCell_below (ownsRow_setCell_below (ownsRow_setCell_below hO (a:=⟨w.heap.size,0,none⟩) (Nat.lt_succ_self _) (.string key)) (a:=⟨w.heap.size,1,none⟩) (Nat.lt_succ_self _) (.slice va lv vc)) (a:=⟨w.heap.size,2,none⟩) (Nat.lt_succ_self _) (.slice a2 fn9 fc9)
  replace hO9:=lower8 hO9 (Nat.le_succ w.heap.size)
  have HE:Hid (EnG (.returned (.tuple #[entV key ((va,lv,vc),(a2,fn9,fc9)),.bool true])) _ w.heap.size key (some ⟨b,off,none⟩) n c xs m):=.inr ⟨⟨by omega,h1⟩,((va,lv,vc),(a2,fn9,fc9)),b,off,rfl,rfl,by
   have e9:=HF.out.2.2
   have e8:=HY.out
   rw [e9] at e8
   rw [e8,hlv]
   exact hO9,HF.out.1,by rw [← HF.out.2.1];exact hA2⟩
  clear hO hO9 pZ pR hS5 hS9 kB hb5 hb6
  go_wp2
  refine bodyPost_ret (by simp [results,Tryd.results49,go_sem,z0,z1,z2];try rfl) rfl ?_
  first | exact ⟨HE.out,bz⟩ | exact ⟨HE.out,by go_grown⟩
 ·have hgt:(n:Int)<1+3*(m:Int):=by omega
  have HN:Hid (∀ W,EnG (.returned (.tuple #[.agg #[.string ⟨#[]⟩,.slice none 0 0,.slice none 0 0],.bool false])) W w.heap.size key (some ⟨b,off,none⟩) n c xs m):=fun W=>.inl ⟨by omega,rfl⟩
  clear hI
  go_enter Tryd.func49,Tryd.ntmps49
  have r0:=pR.cell 0
  have r1:=pR.cell 1
  have r2:=pR.cell 2
  have fr0:=pR.frozen 0
  have fr1:=pR.frozen 1
  have fr2:=pR.frozen 2
  have pZ:=((pR.set 0 (.string ⟨#[]⟩)).set 1 (.slice none 0 0)).set 2 (.slice none 0 0)
  simp only [List.set_cons_zero,List.set_cons_succ] at pZ
  have z0:=pZ.cell 0
  have z1:=pZ.cell 1
  have z2:=pZ.cell 2
  simp only [List.getElem?_cons_zero,List.getElem?_cons_succ] at z0 z1 z2 r0 r1 r2
  have bz:=((bw.setCell (p:=⟨w.heap.size,0,none⟩) (Nat.le_refl _) (.string ⟨#[]⟩)).setCell (p:=⟨w.heap.size,1,none⟩) (Nat.le_refl _) (.slice none 0 0)).setCell (p:=⟨w.heap.size,2,none⟩) (Nat.le_refl _) (.slice none 0 0)
  clear pZ pR
  go_wp2
  refine bodyPost_ret (by simp [results,Tryd.results49,go_sem,z0,z1,z2];try rfl) rfl ?_
  first | exact ⟨HN.out _,bz⟩ | exact ⟨HN.out _,by go_grown⟩
end Go.Proofs.YthlcdhddickdiaaDoor
