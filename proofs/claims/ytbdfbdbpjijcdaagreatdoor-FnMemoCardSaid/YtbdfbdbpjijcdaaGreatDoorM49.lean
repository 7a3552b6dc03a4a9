/-
  Joined: RdF, UnProgS, BonI, EnoI, DigI, CkyI, RdiI, ErrLaid.
-/
import Derived.Test.YtbdfbdbpjijcdaaGreatDoorRows
import Derived.ProofKit
import Derived.LaidMore
import Derived.LaidHandle
import Derived.MakeChecks
import Derived.Test.YtbdfbdbpjijcdaaGreatDoorM46

namespace Go.Proofs.YtbdfbdbpjijcdaaGreatDoor
set_option maxRecDepth 100000
set_option maxHeartbeats 16000000
open Go.RowKit
set_option linter.unusedVariables false
set_option linter.unusedSimpArgs false

def OwnO (w:World) (B T:Nat) (s:Sl) (zs:List Int):Prop:=zs.length=s.2.1∧s.2.1≤s.2.2∧s.2.2≤maxLen∧(s.1=none→s.2.2=0)∧(s.2.1=0∨∃ g off cs,s.1=some ⟨g,off,none⟩∧B≤g∧g<T∧Blk w g 3 cs∧∀ t,t<s.2.1→cs[off+t]?=some (.int .i64 (zs.getD t 0)))
theorem OwnO.below {w w':World} {B T:Nat} {s:Sl} {zs:List Int} (h:OwnO w B T s zs) (hb:Below w.heap.size w w'):OwnO w' B T s zs:=by
 obtain ⟨h1,h2,h3,h4,h5⟩:=h
 refine ⟨h1,h2,h3,h4,?_⟩
 rcases h5 with h5 | ⟨g,off,cs,e,hg,ht,hB,hc⟩
 ·exact .inl h5
 ·exact .inr ⟨g,off,cs,e,hg,ht,hB.below hb,hc⟩
theorem OwnO.ints {w:World} {B T:Nat} {s:Sl} {zs:List Int} (h:OwnO w B T s zs):Ints .i64 w s.1 s.2.1 s.2.2 zs:=by
 obtain ⟨h1,h2,h3,h4,h5⟩:=h
 refine ⟨h1,h2,h3,?_⟩
 rcases h5 with h5 | ⟨g,off,cs,e,hg,ht,hB,hc⟩
 ·exact .inl h5
 ·exact .inr ⟨g,off,e,hB.lt,fun t ht=>by rw [hB.cell];exact hc t ht⟩
def OwnF (w:World) (B T:Nat) (s:Sl2) (e:E3):Prop:=w.ownsRow B 158 3 (.slice s.1.1 s.1.2.1 s.1.2.2) e.2.1.length (flat e.2.1)∧(∀ x,(Value.slice s.1.1 s.1.2.1 s.1.2.2).ownBlock=some x→x<T)∧OwnO w B T s.2 e.2.2
theorem OwnF.below {w w':World} {B T:Nat} {s:Sl2} {e:E3} (h:OwnF w B T s e) (hb:Below w.heap.size w w'):OwnF w' B T s e:=⟨owns8 h.1 hb,h.2.1,h.2.2.below hb⟩
theorem OwnF.mem {w:World} {B T:Nat} {s:Sl2} {e:E3} (h:OwnF w B T s e) (hf:e.fits):Emem w s e:=by
 obtain ⟨q1,_,q2⟩:=h
 obtain ⟨a,cap,e1,hI⟩:=Instrs.of_ownB9 q1 hf.2.1
 injection e1 with e1 e2 e3
 have hn:=own_nil0 q1
 refine ⟨⟨hf.1,?_⟩,?_,⟨q2.ints,hf.2.2⟩⟩
 ·exact ⟨hn,q2.2.2.2.1⟩
 ·rw [e1,e2,e3];exact hI


theorem own_dr {w:World} {B e k n:Nat} {v:Value} {cs:List Value} (h:w.ownsRow B e k v n cs):w.drew.ownsRow B e k v n cs:=h
theorem three_dr (w:World) (x y z:Value) (t:TypeId):∀ j u,[x,y,z][j]?=some u→(w.alloc (.cells #[x,y,z] t)).drew.cell? ((⟨w.heap.size,0,none⟩:Addr).add j)=some u:=cell_three_new w x y z t
theorem below_app3 {B e k n:Nat} {wr w3:World} {o:Obj} {v:Value} {cs:List Value} (hb:B≤wr.heap.size) (hr:wr.ownsRow B e k v n cs) (hg:(wr.alloc o).drew.grownBy w3 v.ownBlock):Below B wr w3:=
 ((by go_grown:Below wr.heap.size wr (wr.alloc o).drew).mono hb).grown hg (by simp;omega) (fun j hj=>(hr.lt _ hj).1)
theorem cells_lo3 {B:Nat} {wr w3:World} (h:Below B wr w3) {p:Addr} {v:Value} (hp:p.block<B) (hc:wr.cell? p=some v):w3.cell? p=some v:=by rw [h.cell hp];exact hc


def slLen:Value→Nat
 | .slice _ n _=>n
 | _=>0
def RowB (e:Ending) (w':World) (B:Nat) (xs:List I3):Prop:=∃ v,e=.returned v∧w'.ownsRow B 158 3 v xs.length (flat xs)
theorem RowB.mk9 {w':World} {B:Nat} {v:Value} {xs:List I3} (h:w'.ownsRow B 158 3 v xs.length (flat xs)):RowB (.returned v) w' B xs:=⟨v,rfl,h⟩
theorem info_bug9:∃ i,Tryz.prog.info? 158=some i∧i.zero=some (.agg #[.int .i64 0,.int .i64 0,.int .i64 0])∧i.size=3∧i.bytes=24:=info_parts (show (Tryz.prog.info? 158).map (fun i=>(i.zero,i.size,i.bytes))=some (some (.agg #[.int .i64 0,.int .i64 0,.int .i64 0]),3,24) by kernel_rfl)

theorem bugsOf_is (a:Option Addr) (n c:Nat) (ys:List Int) (m:Nat) (w:World) (h:Ints .i64 w a n c ys) (hn:n=3*m) (hm:m≤2000) :
  Calls Tryz.prog 154 #[.slice a n c] w fun e w'=>RowB e w' w.heap.size (triples ys)∧Below w.heap.size w w':=by
 obtain ⟨i0,hi,hz0,hz1,hz2⟩:=info_bug9
 have htl:(triples ys).length=m:=triples_length m ys (by rw [h.1,hn])
 have hyl:ys.length=3*m:=by rw [h.1,hn]
 have HG:Hid (∀ i,i<m→(triples ys).getD i (0,0,0)=(ys.getD (3*i) 0,ys.getD (3*i+1) 0,ys.getD (3*i+2) 0)):=fun i hi=>triples_get m ys i hyl hi
 go_enter Tryz.func154,Tryz.ntmps154
 go_wp2
 go_loopw [0,3] (fun s0 sv wr=>∃ (k ln:Nat) (a':Option Addr) (c':Nat),k≤m∧ln≤3*(m - k)∧3*(m - k)≤ln∧s0=.slice a' ln c'∧Ints .i64 w a' ln c' (ys.drop (3*k))∧wr.ownsRow w.heap.size 158 3 sv k (flat ((triples ys).take k))∧Below w.heap.size w wr) (fun s0 _ _=>slLen s0)
 case atStart=>exact ⟨0,n,a,c,by omega,by omega,by omega,rfl,by simpa using h,by simpa [flat] using World.ownsRow_nil _ _ _ _,Below.refl _ _⟩
 case round =>
  obtain ⟨k,ln,a',c',hk,hl1,hl2,rfl,hI,hr,hb⟩:=hrel
  by_cases hlt:k<m
  ·have hI0:=hI
   obtain ⟨e1,e2,e3,hcase⟩:=hI
   rcases hcase with h0 | ⟨b,off,rfl,hbl,hc⟩
   ·omega
   have d0:=hc 0 (by omega)
   have d1:=hc 1 (by omega)
   have d2:=hc 2 (by omega)
   rw [← hb.cell (p:=⟨b,_,none⟩) hbl] at d0 d1 d2
   obtain ⟨a2,hsl,hI2⟩:=slice_l hI0 (lo:=3) (by omega)
   have hgt:=HG.out k hlt
   have t0:(ys.drop (3*k)).getD 0 0=((triples ys).getD k (0,0,0)).1:=by rw [hgt];simp [List.getD]
   have t1:(ys.drop (3*k)).getD 1 0=((triples ys).getD k (0,0,0)).2.1:=by rw [hgt];simp [List.getD]
   have t2:(ys.drop (3*k)).getD 2 0=((triples ys).getD k (0,0,0)).2.2:=by rw [hgt];simp [List.getD]
   rw [t0] at d0
   rw [t1] at d1
   rw [t2] at d2
   have hst:Hid (flat ((triples ys).take (k+1))=flat ((triples ys).take k)++((triples ys).getD k (0,0,0)).cells):=flat_take_succ (by omega)
   have hI3:Ints .i64 w a2 (ln - 3) (c' - 3) (ys.drop (3*(k+1))):=by
    have:(ys.drop (3*k)).drop 3=ys.drop (3*(k+1)):=by rw [List.drop_drop];congr 1
    rw [← this];exact hI2
   have hsl3:∀ W,(Instr.slice 36 (.slice (some ⟨b,off,none⟩) ln c') (some (.int .i64 3)) none none).run Tryz.prog W=.ok (.slice a2 (ln - 3) (c' - 3)) W:=fun W=>hsl W
   clear hgt t0 t1 t2 hc hI0 hI2 hsl
   rw [Nat.add_zero] at d0
   generalize (triples ys).getD k (0,0,0)=x at d0 d1 d2 hst
   have hge:(3:Int)≤(ln:Int):=by omega
   have hp0:(0:Int)<(ln:Int):=by omega
   have hp1:(1:Int)<(ln:Int):=by omega
   have hp2:(2:Int)<(ln:Int):=by omega
   have hq0:0<ln:=by omega
   have hq1:1<ln:=by omega
   have hq2:2<ln:=by omega
   have hm1:k+1≤maxLen:=by unfold maxLen;omega
   have hm2:(k+1)*24≤140737488355328:=by omega
   have hm3:w.heap.size≤(wr.alloc (.cells #[.int .i64 x.1,.int .i64 x.2.1,.int .i64 x.2.2] 158)).drew.heap.size:=by have:=hb.size;simp;omega
   have hbis:=hb.size
   go_wp2_with fail
   go_region_held3 (fun w'=>w'.cell? ⟨b,off,none⟩=some (.int .i64 x.1)∧w'.cell? ⟨b,off+1,none⟩=some (.int .i64 x.2.1)∧w'.cell? ⟨b,off+2,none⟩=some (.int .i64 x.2.2)) (first | (exact ⟨d0,d1,d2⟩) | (exact ⟨q1,q2,q3⟩) | go_keep)
    (first | (refine step_append_mine rfl _ _ 28 rfl w.heap.size 158 i0 (.agg #[.int .i64 0,.int .i64 0,.int .i64 0]) 3 24 Tryz.underlying28 hi hz0 hz1 hz2 rfl (by decide) _ k (flat ((triples ys).take k)) rfl (own_dr (hr.alloc _)) ⟨wr.heap.size,0,none⟩ 1 1 [.int .i64 x.1,.int .i64 x.2.1,.int .i64 x.2.2] rfl rfl (three_dr wr _ _ _ _) (three_i64 _ _ _) hm1 hm2 hm3 ?_;intro v3 w3 hown3 hgrow3;have hB3:=below_app3 hbis hr hgrow3;have q1:=cells_lo3 hB3 hbl d0;have q2:=cells_lo3 hB3 hbl d1;have q3:=cells_lo3 hB3 hbl d2))
   have hr3:w3.ownsRow w.heap.size 158 3 v3 (k+1) (flat ((triples ys).take (k+1))):=by rw [hst.out];exact hown3
   have hb3:Below w.heap.size w w3:=hb.trans hB3
   clear hown3 hgrow3 hB3 q1 q2 q3 d0 d1 d2 hr hb hm1 hm2 hm3 hbis hst
   go_wp2
   go_roundw
   case rel=>exact ⟨k+1,ln - 3,a2,c' - 3,by omega,by omega,by omega,rfl,hI3,hr3,hb3⟩
   case measure=>simp [slLen];omega
  ·obtain rfl:k=m:=by omega
   have hge:¬ (3:Int)≤(ln:Int):=by omega
   rw [show (triples ys).take k=triples ys by rw [← htl,List.take_length]] at hr
   rw [← htl] at hr
   go_wp2
   go_ret
   exact ⟨RowB.mk9 hr,hb⟩


theorem slice_l9 {b off len cap lo:Nat} (h1:lo≤len) (h2:len≤cap) :
  ∃ a,(∀ W,(Instr.slice 36 (.slice (some ⟨b,off,none⟩) len cap) (some (.int .i64 (lo:Int))) none none).run Tryz.prog W=.ok (.slice a (len - lo) (cap - lo)) W)∧(cap - lo=0∧a=some ⟨b,off,none⟩∨a=some ⟨b,off+lo,none⟩):=by
 have hlh:(lo:Int)≤(len:Int):=by omega
 by_cases hz:cap - lo=0
 ·refine ⟨some ⟨b,off,none⟩,fun W=>?_,.inl ⟨hz,rfl⟩⟩
  go_simp
  omega
 ·refine ⟨some ⟨b,off+lo,none⟩,fun W=>?_,.inr rfl⟩
  go_simp
  omega
def EnG (e:Ending) (w':World) (B:Nat) (key:ByteArray) (a:Option Addr) (n c:Nat) (xs:List Int) (m:Nat):Prop:=
 (¬ (1≤n∧1+3*m≤n)∧e=.returned (.tuple #[.agg #[.string ⟨#[]⟩,.slice none 0 0,.slice none 0 0],.bool false])) ∨
 ((1≤n∧1+3*m≤n)∧∃ (s:Sl2) (b off:Nat),a=some ⟨b,off,none⟩∧e=.returned (.tuple #[entV key s,.bool true])∧w'.ownsRow B 158 3 (.slice s.1.1 s.1.2.1 s.1.2.2) (triples ((xs.drop 1).take (3*m))).length (flat (triples ((xs.drop 1).take (3*m)))) ∧
  s.2.2=(n - (1+3*m),c - (1+3*m))∧(c - (1+3*m)=0∧s.2.1=some ⟨b,off,none⟩∨s.2.1=some ⟨b,off+(1+3*m),none⟩))

theorem entryOf_is (key:ByteArray) (a:Option Addr) (n c:Nat) (xs:List Int) (m:Nat) (w:World) (h:Ints .i64 w a n c xs) (hn:n≤4096) (hx:1≤n→xs.getD 0 0=(m:Int)) (hm:m≤999999999) :
  Calls Tryz.prog 84 #[.string key,.slice a n c] w fun e w'=>EnG e w' w.heap.size key a n c xs m∧Below w.heap.size w w':=by
 have bw:Below w.heap.size w (w.alloc (.cells #[.string ⟨#[]⟩,.slice none 0 0,.slice none 0 0] 45)):=by go_grown
 have pR:Blk (w.alloc (.cells #[.string ⟨#[]⟩,.slice none 0 0,.slice none 0 0] 45)) w.heap.size 45 [.string ⟨#[]⟩,.slice none 0 0,.slice none 0 0]:=blkAt _ _ _ rfl
 by_cases h0:n=0
 ·subst h0
  have hN:Hid (EnG (.returned (.tuple #[.agg #[.string ⟨#[]⟩,.slice none 0 0,.slice none 0 0],.bool false])) w w.heap.size key a 0 c xs m):=.inl ⟨by omega,rfl⟩
  have HN:∀ W,EnG (.returned (.tuple #[.agg #[.string ⟨#[]⟩,.slice none 0 0,.slice none 0 0],.bool false])) W w.heap.size key a 0 c xs m:=fun W=>.inl ⟨by omega,rfl⟩
  clear hN
  replace HN:Hid (∀ W,EnG (.returned (.tuple #[.agg #[.string ⟨#[]⟩,.slice none 0 0,.slice none 0 0],.bool false])) W w.heap.size key a 0 c xs m):=HN
  clear h hx
  go_enter Tryz.func84,Tryz.ntmps84
  have r0:=pR.cell 0
  have r1:=pR.cell 1
  have r2:=pR.cell 2
  have fr0:=pR.frozen 0
  have fr1:=pR.frozen 1
  have fr2:=pR.frozen 2
  have pZ:=((pR.set 0 (.string ⟨#[]⟩)).set 1 (.slice none 0 0)).set 2 (.slice none 0 0)
  simp only [List.set_cons_zero,List.set_cons_succ] at pZ
  have z0:=pZ.cell 0
  have z1:=pZ.cell 1
  have z2:=pZ.cell 2
  simp only [List.getElem?_cons_zero,List.getElem?_cons_succ] at z0 z1 z2 r0 r1 r2
  have bz:=((bw.setCell (p:=⟨w.heap.size,0,none⟩) (Nat.le_refl _) (.string ⟨#[]⟩)).setCell (p:=⟨w.heap.size,1,none⟩) (Nat.le_refl _) (.slice none 0 0)).setCell (p:=⟨w.heap.size,2,none⟩) (Nat.le_refl _) (.slice none 0 0)
  clear pZ pR
  go_wp2
  refine bodyPost_ret (by simp [results,Tryz.results84,go_sem,z0,z1,z2];try rfl) rfl ?_
  first | exact ⟨HN.out _,bz⟩ | exact ⟨HN.out _,by go_grown⟩
 have hx1:=hx (by omega)
 have hI:=h
 obtain ⟨e1,e2,e3,hcase⟩:=h
 rcases hcase with h9 | ⟨b,off,rfl,hbl,hc⟩
 ·exact absurd h9 h0
 have d0:=hc 0 (by omega)
 rw [hx1,Nat.add_zero] at d0
 have d0':=cells_kept bw _ _ d0
 have hq0:0<n:=by omega
 have hp0:(0:Int)<(n:Int):=by omega
 have hnz:((n:Int) == 0)=false:=by simp;omega
 clear hc hx hx1
 by_cases h1:1+3*m≤n
 ·have hgt:¬ (n:Int)<1+3*(m:Int):=by omega
  obtain ⟨a1,hs1,hI1⟩:=slice_lh hI (lo:=1) (hi:=1+3*m) (by omega) (by omega)
  obtain ⟨a2,hs2,hA2⟩:=slice_l9 (b:=b) (off:=off) (len:=n) (cap:=c) (lo:=1+3*m) (by omega) e2
  have hca:((1+3*m:Nat):Int)=1+3*(m:Int):=by omega
  rw [hca] at hs1 hs2
  rw [Nat.add_sub_cancel_left] at hs1 hI1
  have hs1':∀ W,(Instr.slice 36 (.slice (some ⟨b,off,none⟩) n c) (some (.int .i64 1)) (some (.int .i64 (1+3*(m:Int)))) none).run Tryz.prog W=.ok (.slice a1 (3*m) (c - 1)) W:=fun W=>hs1 W
  have kB:=fun W (hb:Below w.heap.size w W)=>bugsOf_is a1 (3*m) (c - 1) ((xs.drop 1).take (3*m)) m W (hI1.below hb) rfl (by omega)
  obtain ⟨fn9,hfn⟩:∃ k,k=n - (1+3*m):=⟨_,rfl⟩
  obtain ⟨fc9,hfc⟩:∃ k,k=c - (1+3*m):=⟨_,rfl⟩
  rw [← hfn,← hfc] at hs2
  rw [← hfc] at hA2
  obtain ⟨bn9,hbn⟩:∃ k,k=3*m:=⟨_,rfl⟩
  rw [← hbn] at hs1' kB
  have HF:Hid ((fn9,fc9)=(n - (1+3*m),c - (1+3*m))∧fc9=c - (1+3*m)∧bn9=3*m):=⟨by rw [hfn,hfc],hfc,hbn⟩
  clear hs1 hI1 hfn hfc hI hca
  generalize hys:(xs.drop 1).take bn9=ys at *
  have HY:Hid ((xs.drop 1).take bn9=ys):=hys
  clear hys hbn
  have bd:Below w.heap.size w (w.alloc (.cells #[.string ⟨#[]⟩,.slice none 0 0,.slice none 0 0] 45)).drew:=bel8 bw (by go_grown)
  go_enter Tryz.func84,Tryz.ntmps84
  go_wp2_with fail
  generalize (w.alloc (.cells #[.string ⟨#[]⟩,.slice none 0 0,.slice none 0 0] 45))=U at *
  refine wp_region_held_drew (S:=(fun _=>True)) (by kernel_rfl) trivial (fun hS0=>?_)
  refine tkx 0 21 (.string key) ?_ ?_
  ·(intro w' hSw;(try dsimp only at hSw);go_simp;first | done | rfl | omega | (intro h9;omega) | (rw [IntKind.wrap_i64];omega))
  simp only [Act.put,tka,tkb,tkc]
  refine tkx 1 22 (.slice (some ⟨b,off,none⟩) n c) ?_ ?_
  ·(intro w' hSw;(try dsimp only at hSw);go_simp;first | done | rfl | omega | (intro h9;omega) | (rw [IntKind.wrap_i64];omega))
  simp only [Act.put,tka,tkb,tkc]
  refine tkx 2 23 (.int .i64 (1+3*(m:Int))) ?_ ?_
  ·(intro w' hSw;(try dsimp only at hSw);go_simp;first | done | rfl | omega | (intro h9;omega) | (rw [IntKind.wrap_i64];omega))
  simp only [Act.put,tka,tkb,tkc]
  refine tkx 3 24 (.slice a1 bn9 (c - 1)) ?_ ?_
  ·(intro w' hSw;(try dsimp only at hSw);go_simp;first | done | rfl | omega | (intro h9;omega) | (rw [IntKind.wrap_i64];omega))
  simp only [Act.put,tka,tkb,tkc]
  refine tkx 5 26 (.slice (some ⟨b,off,none⟩) n c) ?_ ?_
  ·(intro w' hSw;(try dsimp only at hSw);go_simp;first | done | rfl | omega | (intro h9;omega) | (rw [IntKind.wrap_i64];omega))
  simp only [Act.put,tka,tkb,tkc]
  refine tkx 6 27 (.int .i64 (1+3*(m:Int))) ?_ ?_
  ·(intro w' hSw;(try dsimp only at hSw);go_simp;first | done | rfl | omega | (intro h9;omega) | (rw [IntKind.wrap_i64];omega))
  simp only [Act.put,tka,tkb,tkc]
  refine tkx 7 28 (.slice a2 fn9 fc9) ?_ ?_
  ·(intro w' hSw;(try dsimp only at hSw);go_simp;first | done | rfl | omega | (intro h9;omega) | (rw [IntKind.wrap_i64];omega))
  simp only [Act.put,tka,tkb,tkc]
  refine tkr 4 25 (fun K hK=>?_)
  go_simp
  refine (kB _ bd).mono ?_
  rintro e w5 ⟨⟨v,rfl,hO⟩,hb5⟩
  obtain ⟨va,vc,rfl⟩:=slice8 hO
  go_wp2_with fail
  refine hK.out _ _ ?_ (fun hS5=>?_)
  ·exact trivial
  clear hK
  replace hO:=lower8 hO (show w.heap.size+1≤U.drew.heap.size from by have:=pR.lt;exact this)
  generalize hlv:(triples ys).length=lv at *
  have hb6:=bel8 (show Below U.heap.size U U.drew by go_grown) hb5
  replace pR:=pR.below hb6
  replace bw:=bel8 bw hb6
  have r0:=pR.cell 0
  have r1:=pR.cell 1
  have r2:=pR.cell 2
  have fr0:=pR.frozen 0
  have fr1:=pR.frozen 1
  have fr2:=pR.frozen 2
  have pZ:=((pR.set 0 (.string key)).set 1 (.slice va lv vc)).set 2 (.slice a2 fn9 fc9)
  simp only [List.set_cons_zero,List.set_cons_succ] at pZ
  have z0:=pZ.cell 0
  have z1:=pZ.cell 1
  have z2:=pZ.cell 2
  simp only [List.getElem?_cons_zero,List.getElem?_cons_succ] at z0 z1 z2 r0 r1 r2
  have bz:=((bw.setCell (p:=⟨w.heap.size,0,none⟩) (Nat.le_refl _) (.string key)).setCell (p:=⟨w.heap.size,1,none⟩) (Nat.le_refl _) (.slice va lv vc)).setCell (p:=⟨w.heap.size,2,none⟩) (Nat.le_refl _) (.slice a2 fn9 fc9)
  refine tkx 8 29 (.agg #[.string key,.slice va lv vc,.slice a2 fn9 fc9]) ?_ ?_
  ·(intro w' hSw;(try dsimp only at hSw);go_simp;first | done | rfl | omega | (intro h9;omega) | (rw [IntKind.wrap_i64];omega))
  simp only [Act.put,tka,tkb,tkc]
  refine tkz 9 (fun K hK=>?_)
  go_simp
  refine hK.out _ _ ?_ (fun hS9=>?_)
  ·exact trivial
  clear hK
  try simp only [Act.put,tka,tkb,tkc]
  refine tkx 10 5 (.bool true) ?_ ?_
  ·(intro w' hSw;(try dsimp only at hSw);go_simp;first | done | rfl | omega | (intro h9;omega) | (rw [IntKind.wrap_i64];omega))
  simp only [Act.put,tka,tkb,tkc]
  refine wpAnyH_done (by kernel_rfl) ?_ _
  have hO9:=ownsRow_setCell_below (ownsRow_setCell_below (ownsRow_setCell_below hO (a:=⟨w.heap.size,0,none⟩) (Nat.lt_succ_self _) (.string key)) (a:=⟨w.heap.size,1,none⟩) (Nat.lt_succ_self _) (.slice va lv vc)) (a:=⟨w.heap.size,2,none⟩) (Nat.lt_succ_self _) (.slice a2 fn9 fc9)
  replace hO9:=lower8 hO9 (Nat.le_succ w.heap.size)
  have HE:Hid (EnG (.returned (.tuple #[entV key ((va,lv,vc),(a2,fn9,fc9)),.bool true])) _ w.heap.size key (some ⟨b,off,none⟩) n c xs m):=.inr ⟨⟨by omega,h1⟩,((va,lv,vc),(a2,fn9,fc9)),b,off,rfl,rfl,by
   have e9:=HF.out.2.2
   have e8:=HY.out
   rw [e9] at e8
   rw [e8,hlv]
   exact hO9,HF.out.1,by rw [← HF.out.2.1];exact hA2⟩
  clear hO hO9 pZ pR hS5 hS9 kB hb5 hb6
  go_wp2
  refine bodyPost_ret (by simp [results,Tryz.results84,go_sem,z0,z1,z2];try rfl) rfl ?_
  first | exact ⟨HE.out,bz⟩ | exact ⟨HE.out,by go_grown⟩
 ·have hgt:(n:Int)<1+3*(m:Int):=by omega
  have HN:Hid (∀ W,EnG (.returned (.tuple #[.agg #[.string ⟨#[]⟩,.slice none 0 0,.slice none 0 0],.bool false])) W w.heap.size key (some ⟨b,off,none⟩) n c xs m):=fun W=>.inl ⟨by omega,rfl⟩
  clear hI
  go_enter Tryz.func84,Tryz.ntmps84
  have r0:=pR.cell 0
  have r1:=pR.cell 1
  have r2:=pR.cell 2
  have fr0:=pR.frozen 0
  have fr1:=pR.frozen 1
  have fr2:=pR.frozen 2
  have pZ:=((pR.set 0 (.string ⟨#[]⟩)).set 1 (.slice none 0 0)).set 2 (.slice none 0 0)
  simp only [List.set_cons_zero,List.set_cons_succ] at pZ
  have z0:=pZ.cell 0
  have z1:=pZ.cell 1
  have z2:=pZ.cell 2
  simp only [List.getElem?_cons_zero,List.getElem?_cons_succ] at z0 z1 z2 r0 r1 r2
  have bz:=((bw.setCell (p:=⟨w.heap.size,0,none⟩) (Nat.le_refl _) (.string ⟨#[]⟩)).setCell (p:=⟨w.heap.size,1,none⟩) (Nat.le_refl _) (.slice none 0 0)).setCell (p:=⟨w.heap.size,2,none⟩) (Nat.le_refl _) (.slice none 0 0)
  clear pZ pR
  go_wp2
  refine bodyPost_ret (by simp [results,Tryz.results84,go_sem,z0,z1,z2];try rfl) rfl ?_
  first | exact ⟨HN.out _,bz⟩ | exact ⟨HN.out _,by go_grown⟩


theorem isDigit_yes (r:Int) (w:World) (h1:48≤r) (h2:r≤57):Calls Tryz.prog 151 #[.int .i32 r] w fun e w'=>e=.returned (.bool true)∧w=w':=by
 go_enter Tryz.func151,Tryz.ntmps151
 go_wp2
 go_ret
 exact ⟨rfl,rfl⟩
theorem isDigit_no (r:Int) (w:World) (h:¬ (48≤r∧r≤57)):Calls Tryz.prog 151 #[.int .i32 r] w fun e w'=>e=.returned (.bool false)∧w=w':=by
 by_cases h1:48≤r
 ·have h2:¬ r≤57:=fun h'=>h ⟨h1,h'⟩
  clear h
  go_enter Tryz.func151,Tryz.ntmps151
  go_wp2
  go_ret
  exact ⟨rfl,rfl⟩
 ·clear h
  go_enter Tryz.func151,Tryz.ntmps151
  go_wp2
  go_ret
  exact ⟨rfl,rfl⟩


def CutK (t:ByteArray) (e:Ending):Prop:=((15<t.size∧allDig t 15∧e=.returned (.tuple #[.string (t.extract 0 15),.string (t.extract 15 t.size)]))∨(¬ (15<t.size∧allDig t 15)∧e=.returned (.tuple #[.string ⟨#[]⟩,.string ⟨#[]⟩])))
theorem iter_below (w:World) (t:ByteArray) (pos:Nat):Below w.heap.size w (w.iter t pos):=(Below.refl _ _).alloc (Nat.le_refl _) _
theorem iterB {w w5:World} {t:ByteArray} {pos:Nat} (h:Below (w.iter t pos).drew.heap.size (w.iter t pos).drew w5):Below w.heap.size w w5:=bel_trans (bel_trans (iter_below w t pos) (show Below (w.iter t pos).heap.size (w.iter t pos) (w.iter t pos).drew from ⟨rfl,rfl,rfl,Nat.le_refl _,fun _ _=>rfl⟩)) h

theorem cutKey_is (t:ByteArray) (w:World) (hs:t.size≤65536) :
  Calls Tryz.prog 82 #[.string t] w fun e w'=>CutK t e∧Below w.heap.size w w':=by
 have hcl:(t.extract 0 15).size≤281474976710656:=by simp;omega
 obtain ⟨m,hm⟩:∃ m:Nat,m=t.size:=⟨_,rfl⟩
 have HXS:Hid (t.size=m):=hm.symm
 have hmb:m≤65536:=by omega
 clear hm
 go_enter Tryz.func82,Tryz.ntmps82
 go_wp2
 go_loopw [4] (fun _ wr=>∃ pos:Nat,pos≤m∧pos≤15∧wr=w.iter t pos∧Hid (allDig t pos)) (fun _ wr=>m - wr.iterPos w.heap.size)
 case atStart=>exact ⟨0,by omega,by omega,rfl,allDig_zero t⟩
 case round =>
  obtain ⟨pos,hpl,hp15,rfl,hA⟩:=hrel
  by_cases hp:pos<m
  ·have hp':pos<t.size:=by rw [HXS.out];exact hp
   have hg:=bt_get t pos hp'
   by_cases h15:pos=15
   ·by_cases ha:(t[pos]'hp').toNat<128
    ·clear hg
     obtain rfl:pos=15:=by omega
     have hY:Hid (CutK t (.returned (.tuple #[.string (t.extract 0 15),.string (t.extract 15 t.size)]))):=.inl ⟨hp',hA.out,rfl⟩
     have hnx:∀ ty,(Instr.next (.pointer (some ⟨w.heap.size,0,none⟩)) true ty).run Tryz.prog (w.iter t 15)=_:=fun ty=>run_next_ascii w t 15 ty hp' ha
     have hz15:(15:Int)≤(t.size:Int):=by omega
     clear hA
     go_wp2_with fail
     refine wp_region_held_drew (S:=(fun _=>True)) (by kernel_rfl) trivial (fun hS0=>?_)
     refine tkx 0 14 (.string t) ?_ ?_
     ·(intro w' hSw;(try dsimp only at hSw);go_simp;first | done | rfl | omega | (intro h9;omega) | (rw [IntKind.wrap_i64];omega))
     simp only [Act.put,tka,tkb,tkc]
     refine tkx 1 15 (.int .i64 15) ?_ ?_
     ·(intro w' hSw;(try dsimp only at hSw);go_simp;first | done | rfl | omega | (intro h9;omega) | (rw [IntKind.wrap_i64];omega))
     simp only [Act.put,tka,tkb,tkc]
     refine tkx 2 16 (.string (t.extract 0 15)) ?_ ?_
     ·(intro w' hSw;(try dsimp only at hSw);go_simp;first | done | rfl | omega | (intro h9;omega) | (rw [IntKind.wrap_i64];omega))
     simp only [Act.put,tka,tkb,tkc]
     refine tkx 4 18 (.string t) ?_ ?_
     ·(intro w' hSw;(try dsimp only at hSw);go_simp;first | done | rfl | omega | (intro h9;omega) | (rw [IntKind.wrap_i64];omega))
     simp only [Act.put,tka,tkb,tkc]
     refine tkx 5 19 (.int .i64 15) ?_ ?_
     ·(intro w' hSw;(try dsimp only at hSw);go_simp;first | done | rfl | omega | (intro h9;omega) | (rw [IntKind.wrap_i64];omega))
     simp only [Act.put,tka,tkb,tkc]
     refine tkx 6 20 (.string (t.extract 15 t.size)) ?_ ?_
     ·(intro w' hSw;(try dsimp only at hSw);go_simp;first | done | rfl | omega | (intro h9;omega) | (rw [IntKind.wrap_i64];omega))
     simp only [Act.put,tka,tkb,tkc]
     refine tkr 3 17 (fun K hK=>?_)
     go_simp
     refine (strings_Clone (t.extract 0 15) _ hcl).mono ?_
     rintro e w5 ⟨rfl,hb5⟩
     go_wp2_with fail
     refine hK.out _ _ ?_ (fun hS5=>?_)
     ·exact trivial
     clear hK
     refine tkx 7 2 (.string (t.extract 0 15)) ?_ ?_
     ·(intro w' hSw;(try dsimp only at hSw);go_simp;first | done | rfl | omega | (intro h9;omega) | (rw [IntKind.wrap_i64];omega))
     simp only [Act.put,tka,tkb,tkc]
     refine tkx 8 3 (.string (t.extract 15 t.size)) ?_ ?_
     ·(intro w' hSw;(try dsimp only at hSw);go_simp;first | done | rfl | omega | (intro h9;omega) | (rw [IntKind.wrap_i64];omega))
     simp only [Act.put,tka,tkb,tkc]
     refine wpAnyH_done (by kernel_rfl) ?_ _
     clear hnx
     go_wp2
     go_ret2
     exact ⟨hY.out,iterB hb5⟩
    ·clear hg ha
     obtain rfl:pos=15:=by omega
     have hY:Hid (CutK t (.returned (.tuple #[.string (t.extract 0 15),.string (t.extract 15 t.size)]))):=.inl ⟨hp',hA.out,rfl⟩
     have hnx:∀ ty,(Instr.next (.pointer (some ⟨w.heap.size,0,none⟩)) true ty).run Tryz.prog (w.iter t 15)=_:=fun ty=>run_next_any w t 15 ty hp'
     have hz15:(15:Int)≤(t.size:Int):=by omega
     clear hA
     go_wp2_with fail
     refine wp_region_held_drew (S:=(fun _=>True)) (by kernel_rfl) trivial (fun hS0=>?_)
     refine tkx 0 14 (.string t) ?_ ?_
     ·(intro w' hSw;(try dsimp only at hSw);go_simp;first | done | rfl | omega | (intro h9;omega) | (rw [IntKind.wrap_i64];omega))
     simp only [Act.put,tka,tkb,tkc]
     refine tkx 1 15 (.int .i64 15) ?_ ?_
     ·(intro w' hSw;(try dsimp only at hSw);go_simp;first | done | rfl | omega | (intro h9;omega) | (rw [IntKind.wrap_i64];omega))
     simp only [Act.put,tka,tkb,tkc]
     refine tkx 2 16 (.string (t.extract 0 15)) ?_ ?_
     ·(intro w' hSw;(try dsimp only at hSw);go_simp;first | done | rfl | omega | (intro h9;omega) | (rw [IntKind.wrap_i64];omega))
     simp only [Act.put,tka,tkb,tkc]
     refine tkx 4 18 (.string t) ?_ ?_
     ·(intro w' hSw;(try dsimp only at hSw);go_simp;first | done | rfl | omega | (intro h9;omega) | (rw [IntKind.wrap_i64];omega))
     simp only [Act.put,tka,tkb,tkc]
     refine tkx 5 19 (.int .i64 15) ?_ ?_
     ·(intro w' hSw;(try dsimp only at hSw);go_simp;first | done | rfl | omega | (intro h9;omega) | (rw [IntKind.wrap_i64];omega))
     simp only [Act.put,tka,tkb,tkc]
     refine tkx 6 20 (.string (t.extract 15 t.size)) ?_ ?_
     ·(intro w' hSw;(try dsimp only at hSw);go_simp;first | done | rfl | omega | (intro h9;omega) | (rw [IntKind.wrap_i64];omega))
     simp only [Act.put,tka,tkb,tkc]
     refine tkr 3 17 (fun K hK=>?_)
     go_simp
     refine (strings_Clone (t.extract 0 15) _ hcl).mono ?_
     rintro e w5 ⟨rfl,hb5⟩
     go_wp2_with fail
     refine hK.out _ _ ?_ (fun hS5=>?_)
     ·exact trivial
     clear hK
     refine tkx 7 2 (.string (t.extract 0 15)) ?_ ?_
     ·(intro w' hSw;(try dsimp only at hSw);go_simp;first | done | rfl | omega | (intro h9;omega) | (rw [IntKind.wrap_i64];omega))
     simp only [Act.put,tka,tkb,tkc]
     refine tkx 8 3 (.string (t.extract 15 t.size)) ?_ ?_
     ·(intro w' hSw;(try dsimp only at hSw);go_simp;first | done | rfl | omega | (intro h9;omega) | (rw [IntKind.wrap_i64];omega))
     simp only [Act.put,tka,tkb,tkc]
     refine wpAnyH_done (by kernel_rfl) ?_ _
     clear hnx
     go_wp2
     go_ret2
     exact ⟨hY.out,iterB hb5⟩
   have hne15:((pos:Int) == 15)=false:=by simp;omega
   by_cases ha:(t[pos]'hp').toNat<128
   ·have hnx:∀ ty,(Instr.next (.pointer (some ⟨w.heap.size,0,none⟩)) true ty).run Tryz.prog (w.iter t pos)=_:=fun ty=>run_next_ascii w t pos ty hp' ha
    by_cases hd:48≤bt t pos∧bt t pos≤57
    ·have hA2:Hid (allDig t (pos+1)):=allDig_succ hA.out hd.1 hd.2
     have hb1:48≤(t[pos]'hp').toNat:=by rw [hg];exact hd.1
     have hb2:(t[pos]'hp').toNat≤57:=by rw [hg];exact hd.2
     clear hg hd hA
     go_wp2_with fail
     refine (isDigit_yes _ _ (by omega) (by omega)).mono ?_
     rintro e w' ⟨rfl,rfl⟩
     clear hnx
     generalize (t[pos]'hp').toNat=b at hb1 hb2
     go_wp2
     go_roundw
     case rel=>exact ⟨pos+1,by omega,by omega,rfl,hA2⟩
     case measure=>simp;omega
    ·have hN:Hid (CutK t (.returned (.tuple #[.string ⟨#[]⟩,.string ⟨#[]⟩]))):=.inr ⟨fun h9=>hd (h9.2 pos (by omega)),rfl⟩
     rw [← hg] at hd
     clear hg hA
     go_wp2_with fail
     refine (isDigit_no _ _ (by omega)).mono ?_
     rintro e w' ⟨rfl,rfl⟩
     go_wp2
     go_ret2
     exact ⟨hN.out,iter_below _ _ _⟩
   ·have hnx:∀ ty,(Instr.next (.pointer (some ⟨w.heap.size,0,none⟩)) true ty).run Tryz.prog (w.iter t pos)=_:=fun ty=>run_next_any w t pos ty hp'
    have hd:=(decode_high t pos hp' (by omega)).1
    have hN:Hid (CutK t (.returned (.tuple #[.string ⟨#[]⟩,.string ⟨#[]⟩]))):=.inr ⟨fun h9=>by have:=h9.2 pos (by omega);omega,rfl⟩
    clear hg hA
    go_wp2_with fail
    refine (isDigit_no _ _ (by omega)).mono ?_
    rintro e w' ⟨rfl,rfl⟩
    go_wp2
    go_ret2
    exact ⟨hN.out,iter_below _ _ _⟩
  ·have hp':¬ pos<t.size:=by rw [HXS.out];exact hp
   have hnx:∀ ty,(Instr.next (.pointer (some ⟨w.heap.size,0,none⟩)) true ty).run Tryz.prog (w.iter t pos)=_:=fun ty=>run_next_end w t pos ty hp'
   have hN:Hid (CutK t (.returned (.tuple #[.string ⟨#[]⟩,.string ⟨#[]⟩]))):=.inr ⟨fun h9=>by have:=HXS.out;omega,rfl⟩
   clear hA
   go_wp2
   go_ret2
   exact ⟨hN.out,iter_below _ _ _⟩


def RdGF (t:ByteArray) (x:Ending) (w':World) (B:Nat):Prop:=(∃ (e:E3) (s:Sl2),RdOk t e∧x=.returned (.tuple #[entV e.1 s,.int .i64 0])∧OwnF w' B w'.heap.size s e)∨((∀ e,¬ RdOk t e)∧x=(.returned (.tuple #[.agg #[.string ⟨#[]⟩,.slice none 0 0,.slice none 0 0],.int .i64 (rdC t)])))
theorem getD_9 {α:Type} {zs:List α} {t:Nat} {d:α} (h:t<zs.length):zs.getD t d=zs[t]:=by rw [List.getD,List.getElem?_eq_getElem h];rfl
theorem Own.blk9 {base:Nat} {w:World} {a:Option Addr} {n cap:Nat} {xs:List Int} (h:Own base w a n cap xs) (hn:1≤n):∃ g cs,a=some ⟨g,0,none⟩∧base≤g∧Blk w g 3 cs∧∀ t,t<n→cs[t]?=some (.int .i64 (xs.getD t 0)):=by
 obtain ⟨h1,h2,h3,h4⟩:=h
 rcases h4 with h4 | ⟨g,rfl,q⟩
 ·omega
 ·rcases q.2 with ⟨hv,_⟩ | ⟨g',cap',cur,hv,hg,hh,hn',hc,hs,ht⟩
  ·cases hv
  ·cases hv
   refine ⟨g,cur.toList,rfl,hg,by simpa [Blk] using hh,fun t ht'=>?_⟩
   have e:=congrArg (fun l=>l[t]?) ht
   simp only [Nat.mul_one] at e
   rw [List.getElem?_take_of_lt ht'] at e
   rw [e,List.getElem?_map,List.getElem?_eq_getElem (by omega),getD_9 (by omega)]
   rfl

theorem OwnF.low3 {w:World} {B T:Nat} {s:Sl2} {e:E3} (h:OwnF w B T s e) {p:Addr} (hp:p.block<B) (u:Value):OwnF (w.setCell p u) B T s e:=by
 obtain ⟨q1,t1,y1,y2,y3,y4,y5⟩:=h
 refine ⟨ownsRow_setCell_below q1 hp u,t1,y1,y2,y3,y4,?_⟩
 rcases y5 with y5 | ⟨g,off,cs,e,hg,ht,hB,hc⟩
 ·exact .inl y5
 ·exact .inr ⟨g,off,cs,e,hg,ht,hB.off p u (by omega),hc⟩
theorem OwnF.wide {w:World} {B B' T T':Nat} {s:Sl2} {e:E3} (h:OwnF w B T s e) (hB:B'≤B) (hT:T≤T'):OwnF w B' T' s e:=by
 obtain ⟨q1,t1,y1,y2,y3,y4,y5⟩:=h
 refine ⟨lower8 q1 hB,fun x hx=>Nat.lt_of_lt_of_le (t1 x hx) hT,y1,y2,y3,y4,?_⟩
 rcases y5 with y5 | ⟨g,off,cs,e,hg,ht,hB',hc⟩
 ·exact .inl y5
 ·exact .inr ⟨g,off,cs,e,by omega,by omega,hB',hc⟩

theorem implReadEntry_is (t:ByteArray) (w:World) (ht:t.size≤1048576) (hV:VmShape w) (hE:ErrType w) :
  Calls Tryz.prog 25 #[.string t] w fun x w'=>RdGF t x w' w.heap.size∧Below w.heap.size w w':=by
 have bw:Below w.heap.size w (w.alloc (.cells #[.string ⟨#[]⟩,.slice none 0 0,.slice none 0 0] 45)):=by go_grown
 have pR:Blk (w.alloc (.cells #[.string ⟨#[]⟩,.slice none 0 0,.slice none 0 0] 45)) w.heap.size 45 [.string ⟨#[]⟩,.slice none 0 0,.slice none 0 0]:=blkAt _ _ _ rfl
 by_cases hs:65536<t.size
 ·have HN:Hid (∀ W,RdGF t (.returned (.tuple #[.agg #[.string ⟨#[]⟩,.slice none 0 0,.slice none 0 0],.int .i64 (rdC t)])) W w.heap.size):=fun W=>.inr ⟨fun e he=>by have:=he.1;omega,rfl⟩
  have e2:rdC t=2:=by unfold rdC;rw [if_pos hs]
  rw [e2] at HN
  have hs2:(65536:Int)<(t.size:Int):=by omega
  go_enter Tryz.func25,Tryz.ntmps25
  have r0:=pR.cell 0
  have r1:=pR.cell 1
  have r2:=pR.cell 2
  have fr0:=pR.frozen 0
  have fr1:=pR.frozen 1
  have fr2:=pR.frozen 2
  have pZ:=((pR.set 0 (.string ⟨#[]⟩)).set 1 (.slice none 0 0)).set 2 (.slice none 0 0)
  simp only [List.set_cons_zero,List.set_cons_succ] at pZ
  have z0:=pZ.cell 0
  have z1:=pZ.cell 1
  have z2:=pZ.cell 2
  simp only [List.getElem?_cons_zero,List.getElem?_cons_succ] at z0 z1 z2 r0 r1 r2
  have bz:=((bw.setCell (p:=⟨w.heap.size,0,none⟩) (Nat.le_refl _) (.string ⟨#[]⟩)).setCell (p:=⟨w.heap.size,1,none⟩) (Nat.le_refl _) (.slice none 0 0)).setCell (p:=⟨w.heap.size,2,none⟩) (Nat.le_refl _) (.slice none 0 0)
  clear pZ pR
  go_wp2
  refine bodyPost_ret (by simp [results,Tryz.results25,go_sem,z0,z1,z2];try rfl) rfl ?_
  first | exact ⟨HN.out _,bz⟩ | exact ⟨HN.out _,by go_grown⟩
 have hs2:¬ (65536:Int)<(t.size:Int):=by omega
 have e3:rdC t=3:=by unfold rdC;rw [if_neg hs]
 have HN:Hid ((∀ e,¬ RdOk t e)→∀ W,RdGF t (.returned (.tuple #[.agg #[.string ⟨#[]⟩,.slice none 0 0,.slice none 0 0],.int .i64 (3)])) W w.heap.size):=fun h W=>.inr ⟨h,by rw [e3]⟩
 clear e3
 have kC:=fun W=>cutKey_is t W (by omega)
 have kU:=fun (s:ByteArray) W (hb:Below w.heap.size w W) (h:s.size≤65536)=>implUnpackList_any s W h (hE.below hb)
 go_enter Tryz.func25,Tryz.ntmps25
 go_wp2_with fail
 generalize (w.alloc (.cells #[.string ⟨#[]⟩,.slice none 0 0,.slice none 0 0] 45))=U at *
 refine (kC _).mono ?_
 rintro x w1 ⟨hK,hb⟩
 replace bw:=bel8 bw hb
 replace pR:=pR.below hb
 have hlo1:w.heap.size<w1.heap.size:=pR.lt
 clear hb kC
 rcases hK with ⟨h15,hdg,rfl⟩ | ⟨hno,rfl⟩
 ·have hps:(t.extract 15 t.size).size≤65536:=by simp;omega
  have hks:(t.extract 0 15).size≤maxLen:=by unfold maxLen;simp;omega
  have kU1:=kU (t.extract 15 t.size)
  clear kU
  obtain ⟨kk,hkk⟩:∃ k,k=t.extract 0 15:=⟨_,rfl⟩
  obtain ⟨pp,hpp⟩:∃ k,k=t.extract 15 t.size:=⟨_,rfl⟩
  rw [← hkk] at hks ⊢
  rw [← hpp] at hps kU1 ⊢
  have HK:Hid (kk=t.extract 0 15∧pp=t.extract 15 t.size):=⟨hkk,hpp⟩
  clear hkk hpp
  go_wp2_with fail
  refine (kU1 _ bw hps).mono ?_
  rintro x w2 ⟨⟨ua,uc,zs,cd,hun,rfl,hOw⟩,hb⟩
  have hlen:=hun.len
  replace bw:=bel8 bw hb
  replace pR:=pR.below hb
  have hb12:w1.heap.size≤w2.heap.size:=hb.size
  clear hb kU1
  rcases hun with ⟨rfl,hL⟩ | ⟨rfl,hNL,rfl⟩
  ·have hIn:=hOw.ints
   obtain ⟨m,hm⟩:∃ m,m=zs.getD 0 0:=⟨_,rfl⟩
   have hmb:m≤999999999:=by
    rw [hm]
    rcases Nat.lt_or_ge 0 zs.length with h9 | h9
    ·have:=listed_small9 hL (zs.getD 0 0:Nat) (List.mem_map.2 ⟨_,by rw [getD_9 h9];exact List.getElem_mem _,rfl⟩)
     omega
    ·rw [List.getD,List.getElem?_eq_none (by omega)];simp
   have kO:=fun W (hb:Below w2.heap.size w2 W)=>entryOf_is kk ua zs.length uc (ofNats zs) m W (hIn.below hb) hlen (fun h9=>by rw [ofNats_head h9,hm]) hmb
   have hcz:((0:Int) != 0)=false:=by rfl
   obtain ⟨zl,hzl⟩:∃ k,k=zs.length:=⟨_,rfl⟩
   have hfz:(entZ kk zs).fits:=entZ_fits hL hks
   have HR:Hid (1≤zl→1+3*m≤zl→entOk (entZ kk zs)=true→RdOk t (entZ kk zs)):=fun g1 g2 g3=>⟨by omega,by omega,zs,by rw [← HK.out.2];exact hL,by omega,by rw [← hm];omega,by rw [← HK.out.1],g3⟩
   have HQ:Hid (∀ e,RdOk t e→(1≤zl∧1+3*m≤zl)∧entOk (entZ kk zs)=true):=fun e he=>by
    have h9:=he.ok
    obtain ⟨_,_,ys,g1,g2,g3,g4,_⟩:=he
    rw [← HK.out.2] at g1
    have ey:=hL.only g1
    subst ey
    rw [g4,← HK.out.1] at h9
    exact ⟨⟨by omega,by rw [hm];omega⟩,h9⟩
   rw [← hzl] at kO hOw ⊢
   have HZ:Hid (zl=zs.length∧m=zs.getD 0 0):=⟨hzl,hm⟩
   have hzb:zl≤4096:=by omega
   clear hzl hm hlen
   go_wp2_with fail
   refine (kO _ (Below.refl _ _)).mono ?_
   rintro x w3 ⟨hG,hb⟩
   replace bw:=bel8 bw hb
   replace pR:=pR.below hb
   clear kO
   rcases hG with ⟨hno,rfl⟩ | ⟨⟨g1,g2⟩,s,b,off,hua,rfl,hOB,hf2,hf1⟩
   ·have HN9:=HN.out (fun e he=>hno (HQ.out e he).1)
    replace HN:Hid (∀ W,RdGF t (.returned (.tuple #[.agg #[.string ⟨#[]⟩,.slice none 0 0,.slice none 0 0],.int .i64 (3)])) W w.heap.size):=HN9
    clear HN9 hb HQ HR hOw hIn
    have hba:Below w3.heap.size w3 (w3.alloc (.cells #[.string ⟨#[]⟩,.slice none 0 0,.slice none 0 0] 45)):=by go_grown
    replace bw:=bel8 bw hba
    replace pR:=pR.below hba
    clear hba
    have r0:=pR.cell 0
    have r1:=pR.cell 1
    have r2:=pR.cell 2
    have fr0:=pR.frozen 0
    have fr1:=pR.frozen 1
    have fr2:=pR.frozen 2
    have pZ:=((pR.set 0 (.string ⟨#[]⟩)).set 1 (.slice none 0 0)).set 2 (.slice none 0 0)
    simp only [List.set_cons_zero,List.set_cons_succ] at pZ
    have z0:=pZ.cell 0
    have z1:=pZ.cell 1
    have z2:=pZ.cell 2
    simp only [List.getElem?_cons_zero,List.getElem?_cons_succ] at z0 z1 z2 r0 r1 r2
    have bz:=((bw.setCell (p:=⟨w.heap.size,0,none⟩) (Nat.le_refl _) (.string ⟨#[]⟩)).setCell (p:=⟨w.heap.size,1,none⟩) (Nat.le_refl _) (.slice none 0 0)).setCell (p:=⟨w.heap.size,2,none⟩) (Nat.le_refl _) (.slice none 0 0)
    clear pZ pR
    go_wp2
    refine bodyPost_ret (by simp [results,Tryz.results25,go_sem,z0,z1,z2];try rfl) rfl ?_
    first | exact ⟨HN.out _,bz⟩ | exact ⟨HN.out _,by go_grown⟩
   ·-- the entry is there
    have hOw3:=hOw.kept hb
    obtain ⟨g,cs,hua2,hgB,hBk,hcs⟩:=hOw3.blk9 g1
    subst hua2
    cases hua
    obtain ⟨⟨sa,sn,sc⟩,⟨fa,fn,fc⟩⟩:=s
    simp only at hOB hf1 hf2
    injection hf2 with hf2a hf2b
    have hFl:(entZ kk zs).2.2.length=fn:=by show ((ofNats zs).drop (1+3*zs.getD 0 0)).length=fn;rw [List.length_drop,ofNats_len,← HZ.out.2,hf2a,HZ.out.1]
    have hOF:OwnF w3 w1.heap.size w3.heap.size ((sa,sn,sc),(fa,fn,fc)) (entZ kk zs):=by
     refine ⟨?_,fun x hx=>(hOB.lt x hx).2,hFl,?_,?_,?_,?_⟩
     ·show w3.ownsRow w1.heap.size 158 3 (.slice sa sn sc) (triples (((ofNats zs).drop 1).take (3*zs.getD 0 0))).length (flat (triples (((ofNats zs).drop 1).take (3*zs.getD 0 0))))
      rw [← HZ.out.2]
      exact lower8 hOB hb12
     ·show fn≤fc
      have:=hOw.2.1
      omega
     ·show fc≤maxLen
      have:=hOw.2.2.1
      omega
     ·intro h9
      rcases hf1 with ⟨_,h8⟩ | h8
      ·rw [h8] at h9;cases h9
      ·rw [h8] at h9;cases h9
     ·rcases Nat.eq_zero_or_pos fn with h9 | h9
      ·exact .inl h9
      ·right
       have h2c:=hOw.2.1
       rcases hf1 with ⟨h8,_⟩ | h8
       ·omega
       ·refine ⟨_,0+(1+3*m),cs,h8,hgB,hBk.lt,hBk,fun t ht'=>?_⟩
        have ht9:t<fn:=ht'
        rw [Nat.zero_add]
        rw [hcs (1+3*m+t) (by omega)]
        show some (Value.int .i64 _)=some (.int .i64 (((ofNats zs).drop (1+3*zs.getD 0 0)).getD t 0))
        rw [← HZ.out.2]
        simp [List.getD]
    have hFle:(entZ kk zs).2.2.length≤4096:=by rw [hFl];omega
    clear hOB hf1 hf2a hf2b hOw hOw3 hBk hcs hIn hFl
    replace HR:Hid (entOk (entZ kk zs)=true→RdOk t (entZ kk zs)):=HR.out g1 g2
    have hba:Below w3.heap.size w3 (w3.alloc (.cells #[.string kk,.slice sa sn sc,.slice fa fn fc] 45)):=by go_grown
    have pE:Blk (w3.alloc (.cells #[.string kk,.slice sa sn sc,.slice fa fn fc] 45)) w3.heap.size 45 [.string kk,.slice sa sn sc,.slice fa fn fc]:=blkAt _ _ _ rfl
    have kK:=fun W (hb:Below w.heap.size w W) (hm:Emem W ((sa,sn,sc),(fa,fn,fc)) (entZ kk zs))=>implEntryOK_is (entZ kk zs) ((sa,sn,sc),(fa,fn,fc)) W hm (hV.below hb)
    have ekk:(entZ kk zs).1=kk:=rfl
    rw [ekk] at kK
    unfold entV at kK ⊢
    simp only at kK ⊢
    replace bw:=bel8 bw hba
    replace pR:=pR.below hba
    replace hOF:=hOF.below hba
    have x0:=pE.cell 0
    have x1:=pE.cell 1
    have x2:=pE.cell 2
    simp only [List.getElem?_cons_zero,List.getElem?_cons_succ] at x0 x1 x2
    go_wp2_with fail
    generalize (w3.alloc (.cells #[.string kk,.slice sa sn sc,.slice fa fn fc] 45))=W3 at *
    clear x0 x1 x2
    refine (kK _ bw (hOF.mem hfz)).mono ?_
    rintro x w4 ⟨rfl,hb4⟩
    replace bw:=bel8 bw hb4
    replace pR:=pR.below hb4
    replace pE:=pE.below hb4
    replace hOF:=hOF.below hb4
    have hlo:=hlo1
    have hT4:w3.heap.size≤w4.heap.size:=Nat.le_trans hba.size hb4.size
    clear hb4 kK hba
    cases hok:entOk (entZ kk zs)
    ·have HN9:=HN.out (fun e he=>by have:=(HQ.out e he).2;rw [hok] at this;cases this)
     replace HN:Hid (∀ W,RdGF t (.returned (.tuple #[.agg #[.string ⟨#[]⟩,.slice none 0 0,.slice none 0 0],.int .i64 (3)])) W w.heap.size):=HN9
     clear HN9 hb HQ HR hOF hok
     have r0:=pR.cell 0
     have r1:=pR.cell 1
     have r2:=pR.cell 2
     have fr0:=pR.frozen 0
     have fr1:=pR.frozen 1
     have fr2:=pR.frozen 2
     have pZ:=((pR.set 0 (.string ⟨#[]⟩)).set 1 (.slice none 0 0)).set 2 (.slice none 0 0)
     simp only [List.set_cons_zero,List.set_cons_succ] at pZ
     have z0:=pZ.cell 0
     have z1:=pZ.cell 1
     have z2:=pZ.cell 2
     simp only [List.getElem?_cons_zero,List.getElem?_cons_succ] at z0 z1 z2 r0 r1 r2
     have bz:=((bw.setCell (p:=⟨w.heap.size,0,none⟩) (Nat.le_refl _) (.string ⟨#[]⟩)).setCell (p:=⟨w.heap.size,1,none⟩) (Nat.le_refl _) (.slice none 0 0)).setCell (p:=⟨w.heap.size,2,none⟩) (Nat.le_refl _) (.slice none 0 0)
     clear pZ pR pE
     go_wp2
     refine bodyPost_ret (by simp [results,Tryz.results25,go_sem,z0,z1,z2];try rfl) rfl ?_
     first | exact ⟨HN.out _,bz⟩ | exact ⟨HN.out _,by go_grown⟩
    ·have hRd:=HR.out hok
     have x0:=pE.cell 0
     have x1:=pE.cell 1
     have x2:=pE.cell 2
     simp only [List.getElem?_cons_zero,List.getElem?_cons_succ] at x0 x1 x2
     have r0:=pR.cell 0
     have r1:=pR.cell 1
     have r2:=pR.cell 2
     have fr0:=pR.frozen 0
     have fr1:=pR.frozen 1
     have fr2:=pR.frozen 2
     have pZ:=((pR.set 0 (.string kk)).set 1 (.slice sa sn sc)).set 2 (.slice fa fn fc)
     simp only [List.set_cons_zero,List.set_cons_succ] at pZ
     have z0:=pZ.cell 0
     have z1:=pZ.cell 1
     have z2:=pZ.cell 2
     simp only [List.getElem?_cons_zero,List.getElem?_cons_succ] at z0 z1 z2 r0 r1 r2
     have bz:=((bw.setCell (p:=⟨w.heap.size,0,none⟩) (Nat.le_refl _) (.string kk)).setCell (p:=⟨w.heap.size,1,none⟩) (Nat.le_refl _) (.slice sa sn sc)).setCell (p:=⟨w.heap.size,2,none⟩) (Nat.le_refl _) (.slice fa fn fc)
     have hOF9:=(((hOF.low3 (p:=⟨w.heap.size,0,none⟩) hlo (.string kk)).low3 (p:=⟨w.heap.size,1,none⟩) hlo (.slice sa sn sc)).low3 (p:=⟨w.heap.size,2,none⟩) hlo (.slice fa fn fc)).wide (B':=w.heap.size) (T':=((w4.setCell ⟨w.heap.size,0,none⟩ (.string kk)).setCell ⟨w.heap.size,1,none⟩ (.slice sa sn sc)).setCell ⟨w.heap.size,2,none⟩ (.slice fa fn fc) |>.heap.size) (Nat.le_of_lt hlo) (by simp;exact hT4)
     have HE:Hid (RdGF t (.returned (.tuple #[entV (entZ kk zs).1 ((sa,sn,sc),(fa,fn,fc)),.int .i64 0])) (((w4.setCell ⟨w.heap.size,0,none⟩ (.string kk)).setCell ⟨w.heap.size,1,none⟩ (.slice sa sn sc)).setCell ⟨w.heap.size,2,none⟩ (.slice fa fn fc)) w.heap.size):=.inl ⟨_,_,hRd,rfl,hOF9⟩
     clear hOF hOF9 pZ pR pE hRd HR HQ hok
     go_wp2
     refine bodyPost_ret (by simp [results,Tryz.results25,go_sem,z0,z1,z2];try rfl) rfl ?_
     exact ⟨HE.out,bz⟩
  ·have HN9:=HN.out (fun e he=>by
    obtain ⟨_,_,ys,g1,_⟩:=he
    rw [← HK.out.2] at g1
    exact hNL ys g1)
   replace HN:Hid (∀ W,RdGF t (.returned (.tuple #[.agg #[.string ⟨#[]⟩,.slice none 0 0,.slice none 0 0],.int .i64 (3)])) W w.heap.size):=HN9
   clear HN9 hOw
   have r0:=pR.cell 0
   have r1:=pR.cell 1
   have r2:=pR.cell 2
   have fr0:=pR.frozen 0
   have fr1:=pR.frozen 1
   have fr2:=pR.frozen 2
   have pZ:=((pR.set 0 (.string ⟨#[]⟩)).set 1 (.slice none 0 0)).set 2 (.slice none 0 0)
   simp only [List.set_cons_zero,List.set_cons_succ] at pZ
   have z0:=pZ.cell 0
   have z1:=pZ.cell 1
   have z2:=pZ.cell 2
   simp only [List.getElem?_cons_zero,List.getElem?_cons_succ] at z0 z1 z2 r0 r1 r2
   have bz:=((bw.setCell (p:=⟨w.heap.size,0,none⟩) (Nat.le_refl _) (.string ⟨#[]⟩)).setCell (p:=⟨w.heap.size,1,none⟩) (Nat.le_refl _) (.slice none 0 0)).setCell (p:=⟨w.heap.size,2,none⟩) (Nat.le_refl _) (.slice none 0 0)
   clear pZ pR
   go_wp2
   refine bodyPost_ret (by simp [results,Tryz.results25,go_sem,z0,z1,z2];try rfl) rfl ?_
   first | exact ⟨HN.out _,bz⟩ | exact ⟨HN.out _,by go_grown⟩
 ·have HN9:=HN.out (fun e he=>hno ⟨he.more,he.dig⟩)
  replace HN:Hid (∀ W,RdGF t (.returned (.tuple #[.agg #[.string ⟨#[]⟩,.slice none 0 0,.slice none 0 0],.int .i64 (3)])) W w.heap.size):=HN9
  clear HN9
  have kU1:=fun W (hb:Below w.heap.size w W)=>kU ⟨#[]⟩ W hb (show (0:Nat)≤65536 by omega)
  clear kU
  go_wp2_with fail
  refine (kU1 _ bw).mono ?_
  rintro x w2 ⟨⟨ua,uc,zs,cd,hun,rfl,hOw⟩,hb⟩
  replace bw:=bel8 bw hb
  replace pR:=pR.below hb
  clear hb kU1
  rcases hun with ⟨rfl,hL⟩ | ⟨rfl,hNL,rfl⟩
  ·exact absurd hL (noList_nil (by rfl) zs)
  clear hOw
  have r0:=pR.cell 0
  have r1:=pR.cell 1
  have r2:=pR.cell 2
  have fr0:=pR.frozen 0
  have fr1:=pR.frozen 1
  have fr2:=pR.frozen 2
  have pZ:=((pR.set 0 (.string ⟨#[]⟩)).set 1 (.slice none 0 0)).set 2 (.slice none 0 0)
  simp only [List.set_cons_zero,List.set_cons_succ] at pZ
  have z0:=pZ.cell 0
  have z1:=pZ.cell 1
  have z2:=pZ.cell 2
  simp only [List.getElem?_cons_zero,List.getElem?_cons_succ] at z0 z1 z2 r0 r1 r2
  have bz:=((bw.setCell (p:=⟨w.heap.size,0,none⟩) (Nat.le_refl _) (.string ⟨#[]⟩)).setCell (p:=⟨w.heap.size,1,none⟩) (Nat.le_refl _) (.slice none 0 0)).setCell (p:=⟨w.heap.size,2,none⟩) (Nat.le_refl _) (.slice none 0 0)
  clear pZ pR
  go_wp2
  refine bodyPost_ret (by simp [results,Tryz.results25,go_sem,z0,z1,z2];try rfl) rfl ?_
  first | exact ⟨HN.out _,bz⟩ | exact ⟨HN.out _,by go_grown⟩


theorem et_global:Tryz.prog.globalNamed "errors.errorType"=some 2:=by kernel_rfl
theorem et_rt:(Tryz.prog.cutTypes.find? (·.1 == "internal/reflectlite.rtype")).map (·.2)=some 340:=by kernel_rfl
theorem et_size:Tryz.prog.types.size=415:=by kernel_rfl
theorem et_oneRow:((List.range 415).filter fun t=>Tryz.prog.rowNamed t [101,114,114,111,114])=[212]:=by kernel_rfl
theorem et_handle:typeHandle Tryz.prog 212=.pointer (some ⟨3,212,none⟩):=by kernel_rfl

theorem errType_of_laid {W:World} {l:List (String × DataW Unit)} (hl:l=[("errors.errorType",Rows.laid_errors_errorType)]) (h:laidMetH Tryz.prog l W):ErrType W:=by
 subst hl
 have h':laidMet Tryz.prog [] W∧handlesMet Tryz.prog [("errors.errorType",Rows.laid_errors_errorType)] W:=h
 obtain ⟨name,u,ty,e1,e2,e3,e4,e5⟩:=h'.2 _ (List.mem_singleton.2 rfl)
 have en:name=[101,114,114,111,114]:=(Option.some.inj e1).symm
 subst en
 obtain rfl:=Option.some.inj (et_rt.symm.trans e2)
 have hm:ty ∈ (List.range 415).filter fun t=>Tryz.prog.rowNamed t [101,114,114,111,114]:=List.mem_filter.2 ⟨List.mem_range.2 (by rw [← et_size];exact e3),e4⟩
 rw [et_oneRow] at hm
 obtain rfl:=List.mem_singleton.1 hm
 rw [et_handle] at e5
 unfold ErrType
 simpa using World.var?_cell et_global e5 0

end Go.Proofs.YtbdfbdbpjijcdaaGreatDoor
