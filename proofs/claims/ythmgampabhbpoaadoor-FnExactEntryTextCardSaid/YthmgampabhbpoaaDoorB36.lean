/-
  Joined: EtxW, Num.
-/
import Derived.Test.YthmgampabhbpoaaDoorB14
import Derived.Test.YthmgampabhbpoaaDoorB28
import Derived.Test.YthmgampabhbpoaaDoorB30
import Derived.Test.YthmgampabhbpoaaDoorB35

namespace Go.Proofs.YthmgampabhbpoaaDoor
set_option maxRecDepth 100000
set_option maxHeartbeats 16000000
open Go.RowKit
set_option linter.unusedVariables false
set_option linter.unusedSimpArgs false

theorem fnExactEntryText_of (e0:E3) (s0:Sl2) (x0:ByteArray) (x1:Int) (w:World) (h0:Emem w s0 e0) (hG0:VmShape w)
  (kS:∀ (s0:Sl2) (w:World),Emem w s0 e0→Calls Tryd.prog 28 #[entV e0.1 s0] w fun e w'=>e=.returned (.tuple #[.string x0,.int .i64 x1])∧Below w.heap.size w w')
  (kI:∀ (s0:Sl2) (w:World),Emem w s0 e0→VmShape w→Calls Tryd.prog 29 #[entV e0.1 s0] w fun e w'=>e=.returned (.tuple #[.string x0,.int .i64 x1])∧Below w.heap.size w w') :
  Calls Tryd.prog 7 #[entV e0.1 s0] w fun e w'=>e=.returned (.bool true)∧Below w.heap.size w w':=by
 have f0:=h0.fits
 have kZ0:=fun left w h=>szEntry_any e0 s0 left w h
 have kT0:=fun w h l1 l2=>toEntry_own e0 s0 w h l1 l2
 have kE0:=fun s s' w h h'=>eqEntry_same e0 s s' w h h'
 have hc0:e0.2.1.length≤costE e0∧e0.2.2.length≤costE e0:=by unfold costE;omega
 generalize hK0:e0.1=k0 at *
 clear hK0
 obtain ⟨⟨a0,n0,c0⟩,⟨b0,m0,d0⟩⟩:=s0
 unfold entV at kZ0 kT0 kE0 kS kI ⊢
 simp only at kZ0 kT0 ⊢
 have bw:Below w.heap.size w (w.alloc (.cells #[.string k0,.slice a0 n0 c0,.slice b0 m0 d0] 25)):=by go_grown
 have p0:Blk (w.alloc (.cells #[.string k0,.slice a0 n0 c0,.slice b0 m0 d0] 25)) (w.heap.size) 25 [.string k0,.slice a0 n0 c0,.slice b0 m0 d0]:=blkAt _ _ _ rfl
 go_enter Tryd.func7,Tryd.ntmps7
 go_wp2_with fail
 generalize (w.alloc (.cells #[.string k0,.slice a0 n0 c0,.slice b0 m0 d0] 25))=W0 at *
 refine (kZ0 1048576 _ (h0.below bw) (by omega) (by omega)).mono ?_
 rintro e wz0 ⟨⟨r0,rfl,hz⟩,hb⟩
 replace bw:=bel8 bw hb
 replace p0:=p0.below hb
 clear hb kZ0
 rcases hz with rfl | ⟨hr0,hr1⟩
 ·go_wp2
  go_ret
  exact ⟨rfl,bw⟩
 have hn0:decide (r0<0)=false:=by simp;omega
 have hle0:r0≤1048576:=by omega
 replace kT0:=fun w h=>kT0 w h (by omega) (by omega)
 clear hr1 hc0
 have cc0:=p0.cell 0
 have cc1:=p0.cell 1
 have cc2:=p0.cell 2
 simp only [List.getElem?_cons_zero,List.getElem?_cons_succ] at cc0 cc1 cc2
 go_wp2_with fail
 clear cc0 cc1 cc2
 refine (kT0 _ (h0.below bw)).mono ?_
 rintro e wq ⟨⟨⟨⟨u0a,u0n,u0c⟩,⟨v0a,v0n,v0c⟩⟩,rfl,hO⟩,hb⟩
 simp only at hO ⊢
 have hM:=OwnE.mem (s:=((u0a,u0n,u0c),(v0a,v0n,v0c))) hO f0
 replace bw:=bel8 bw hb
 replace p0:=p0.below hb
 clear hb hO
 go_wp2_with fail
 refine (kS ((u0a,u0n,u0c),(v0a,v0n,v0c)) _ hM).mono ?_
 rintro e wr ⟨rfl,hb⟩
 replace bw:=bel8 bw hb
 replace p0:=p0.below hb
 clear hb hM kS
 have cc0:=p0.cell 0
 have cc1:=p0.cell 1
 have cc2:=p0.cell 2
 simp only [List.getElem?_cons_zero,List.getElem?_cons_succ] at cc0 cc1 cc2
 go_wp2_with fail
 clear cc0 cc1 cc2
 refine (kT0 _ (h0.below bw)).mono ?_
 rintro e wx0 ⟨⟨⟨⟨x0a,x0n,x0c⟩,⟨y0a,y0n,y0c⟩⟩,rfl,hO⟩,hb⟩
 simp only at hO ⊢
 have hX0:=OwnE.mem (s:=((x0a,x0n,x0c),(y0a,y0n,y0c))) hO f0
 clear hO
 skip
 have hbx:Below wx0.heap.size wx0 (wx0.alloc (.cells #[.string k0,.slice x0a x0n x0c,.slice y0a y0n y0c] 30)):=by go_grown
 have pX0:Blk (wx0.alloc (.cells #[.string k0,.slice x0a x0n x0c,.slice y0a y0n y0c] 30)) wx0.heap.size 30 [.string k0,.slice x0a x0n x0c,.slice y0a y0n y0c]:=blkAt _ _ _ rfl
 replace hX0:=hX0.below hbx
 have hbb:=bel8 hb hbx
 replace bw:=bel8 bw hbb
 replace p0:=p0.below hbb
 clear hb hbx hbb
 have cx0_0:=pX0.cell 0
 have cx0_1:=pX0.cell 1
 have cx0_2:=pX0.cell 2
 simp only [List.getElem?_cons_zero,List.getElem?_cons_succ] at cx0_0 cx0_1 cx0_2
 go_wp2_with fail
 clear cx0_0 cx0_1 cx0_2
 generalize (wx0.alloc (.cells #[.string k0,.slice x0a x0n x0c,.slice y0a y0n y0c] 30))=wi at *
 generalize wx0.heap.size=GX0 at *
 have hne1:(x1 != x1)=false:=by simp
 have hne0:(x0.toList == x0.toList)=true:=by simp
 refine (kI ((x0a,x0n,x0c),(y0a,y0n,y0c)) _ hX0 (hG0.below bw)).mono ?_
 rintro e wj ⟨rfl,hb⟩
 replace bw:=bel8 bw hb
 replace hX0:=hX0.below hb
 replace p0:=p0.below hb
 replace pX0:=pX0.below hb
 clear hb kI
 have cV0:=pX0.cell 0
 have cV1:=pX0.cell 1
 have cV2:=pX0.cell 2
 simp only [List.getElem?_cons_zero,List.getElem?_cons_succ] at cV0 cV1 cV2
 have cC0:=p0.cell 0
 have cC1:=p0.cell 1
 have cC2:=p0.cell 2
 simp only [List.getElem?_cons_zero,List.getElem?_cons_succ] at cC0 cC1 cC2
 go_wp2_with fail
 have hP:Emem wj.drew ((a0,n0,c0),(b0,m0,d0)) e0:=h0.below (bel8 bw (by go_grown))
 have hV:Emem wj.drew ((x0a,x0n,x0c),(y0a,y0n,y0c)) e0:=hX0.below (by go_grown)
 have c8:(fun w':World=>w'.cell? ⟨GX0,0,none⟩=some (.string k0)∧w'.cell? ⟨GX0,1,none⟩=some (.slice x0a x0n x0c)∧w'.cell? ⟨GX0,2,none⟩=some (.slice y0a y0n y0c)∧w'.cell? ⟨w.heap.size,0,none⟩=some (.string k0)∧w'.cell? ⟨w.heap.size,1,none⟩=some (.slice a0 n0 c0)∧w'.cell? ⟨w.heap.size,2,none⟩=some (.slice b0 m0 d0)) wj:=⟨cV0,cV1,cV2,cC0,cC1,cC2⟩
 clear cV0 cV1 cV2 cC0 cC1 cC2
 go_region_held3 (fun w'=>w'.cell? ⟨GX0,0,none⟩=some (.string k0)∧w'.cell? ⟨GX0,1,none⟩=some (.slice x0a x0n x0c)∧w'.cell? ⟨GX0,2,none⟩=some (.slice y0a y0n y0c)∧w'.cell? ⟨w.heap.size,0,none⟩=some (.string k0)∧w'.cell? ⟨w.heap.size,1,none⟩=some (.slice a0 n0 c0)∧w'.cell? ⟨w.heap.size,2,none⟩=some (.slice b0 m0 d0)) (first | (exact c8) | (exact c9) | (exact ⟨cells_kept hl _ _ c9.1,cells_kept hl _ _ c9.2.1,cells_kept hl _ _ c9.2.2.1,cells_kept hl _ _ c9.2.2.2.1,cells_kept hl _ _ c9.2.2.2.2.1,cells_kept hl _ _ c9.2.2.2.2.2⟩))
  (first | (go_at_call 12;refine (kT0 _ hP).mono ?_;rintro e wk0 ⟨⟨sk0,rfl,hOk⟩,hk⟩;have hD:=hV.below hk;have c9:=(show (fun w':World=>w'.cell? ⟨GX0,0,none⟩=some (.string k0)∧w'.cell? ⟨GX0,1,none⟩=some (.slice x0a x0n x0c)∧w'.cell? ⟨GX0,2,none⟩=some (.slice y0a y0n y0c)∧w'.cell? ⟨w.heap.size,0,none⟩=some (.string k0)∧w'.cell? ⟨w.heap.size,1,none⟩=some (.slice a0 n0 c0)∧w'.cell? ⟨w.heap.size,2,none⟩=some (.slice b0 m0 d0)) wk0 from ⟨cells_kept hk _ _ c8.1,cells_kept hk _ _ c8.2.1,cells_kept hk _ _ c8.2.2.1,cells_kept hk _ _ c8.2.2.2.1,cells_kept hk _ _ c8.2.2.2.2.1,cells_kept hk _ _ c8.2.2.2.2.2⟩)) | (go_at_call 14;refine (kE0 ((x0a,x0n,x0c),(y0a,y0n,y0c)) sk0 _ hD (hOk.mem f0)).mono ?_;rintro e wl0 ⟨rfl,hl⟩))
 have hbw:Below wj.heap.size wj wl0:=bel8 (by go_grown) (bel8 hk hl)
 replace bw:=bel8 bw hbw
 clear hbw hk hl hD hOk c8 c9 hP hV hX0 pX0 p0
 go_wp2
 go_ret
 exact ⟨rfl,bw⟩


theorem appendNumber_any (base m:Nat) (v:Value) (xs:List Int) (n:Nat) (w:World) (hn:n≤999999999) (hown:w.ownsRow base 5 1 v m (u8s xs)) (hb:base≤w.heap.size) (hm:m≤1099511627776) :
  Calls Tryd.prog 101 #[v,.int .i64 n] w fun e w'=>∃ v',e=.returned v'∧w'.ownsRow base 5 1 v' (m+(pack n).length) (u8s (xs++pack n))∧Below base w w':=by
 obtain ⟨i0,hi,hz0,hz1,hz2⟩:=info_parts info_u8
 go_enter Tryd.func101,Tryd.ntmps101
 go_wp2
 go_loopw [0,1] (fun sv si wr=>∃ (k:Nat) (ys:List Int),k≤999999999∧si=.int .i64 k∧wr.ownsRow base 5 1 sv (m+ys.length) (u8s (xs++ys))∧Hid (ys++pack k=pack n)∧Below base w wr) (fun _ si _=>(intOf si).toNat)
 case atStart=>exact ⟨n,[],hn,rfl,by simpa using hown,by simp [Hid],Below.refl _ _⟩
 case round =>
  obtain ⟨k,ys,hk,rfl,ho,HY,hbel⟩:=hrel
  have hlen:ys.length≤4:=by
   have h1:=congrArg List.length HY.out
   have h2:=pack_len k
   have h3:=pack_len n
   simp at h1;omega
  have hbw:base≤wr.heap.size:=by have:=hbel.size;omega
  by_cases hlt:128≤k
  ·go_wp2_with (at_builtin;refine wpList_append_own _ rfl _ _ 128 rfl base 5 i0 (.int .u8 0) 1 1 Tryd.underlying128 hi hz0 hz1 hz2 rfl (by decide) _ _ _ rfl (ho.alloc _) ⟨wr.heap.size,0,none⟩ 1 1 [.int .u8 ((k:Int) % 128+128)] rfl rfl (cell_one_new _ _ _) (one_u8 _) ?c3 ?c4 ?c5 ?_)
   case c3=>unfold maxLen;omega
   case c4=>omega
   case c5=>simp;omega
   intro v' w1 hown' hgrow _
   have R:w1.ownsRow base 5 1 v' (m+(ys++[(k:Int) % 128+128]).length) (u8s (xs++(ys++[(k:Int) % 128+128]))):=by simpa [Nat.add_assoc] using hown'
   have hb1:Below base w w1:=(hbel.alloc hbw _).grown hgrow (by simp;omega) (fun j hj=>(ho.lt _ hj).1)
   clear hown' hgrow ho
   go_wp2
   go_roundw
   case rel=>exact ⟨k / 128,ys++[(k:Int) % 128+128],by omega,by go_num,R,by rw [Hid,List.append_assoc,List.singleton_append,← pack_step hlt (by omega)];exact HY.out,hb1⟩
   case measure=>simp [intOf];omega
  ·go_wp2_with (at_builtin;refine wpList_append_own _ rfl _ _ 128 rfl base 5 i0 (.int .u8 0) 1 1 Tryd.underlying128 hi hz0 hz1 hz2 rfl (by decide) _ _ _ rfl (ho.alloc _) ⟨wr.heap.size,0,none⟩ 1 1 [.int .u8 (k:Int)] rfl rfl (cell_one_new _ _ _) (one_u8 _) ?d3 ?d4 ?d5 ?_)
   case d3=>unfold maxLen;omega
   case d4=>omega
   case d5=>simp;omega
   intro v' w1 hown' hgrow _
   have hb1:Below base w w1:=(hbel.alloc hbw _).grown hgrow (by simp;omega) (fun j hj=>(ho.lt _ hj).1)
   have hp:pack n=ys++[(k:Int)]:=by rw [← HY.out,pack_small (by omega)]
   have R:w1.ownsRow base 5 1 v' (m+(pack n).length) (u8s (xs++pack n)):=by rw [hp];simpa [Nat.add_assoc] using hown'
   clear hown' hgrow ho hp HY
   go_wp2
   go_ret
   exact ⟨v',rfl,R,hb1⟩
end Go.Proofs.YthmgampabhbpoaaDoor
