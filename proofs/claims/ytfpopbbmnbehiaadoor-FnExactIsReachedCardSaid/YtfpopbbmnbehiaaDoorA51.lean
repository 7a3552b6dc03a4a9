/-
  Joined: IsrW, IsrI.
-/
import Derived.Test.YtfpopbbmnbehiaaDoorA42
import Derived.Test.YtfpopbbmnbehiaaDoorA47

namespace Go.Proofs.YtfpopbbmnbehiaaDoor
set_option maxRecDepth 100000
set_option maxHeartbeats 16000000
open Go.RowKit
set_option linter.unusedVariables false
set_option linter.unusedSimpArgs false

theorem fnExactIsReached_of (a0:Option Addr) (n0 c0:Nat) (r0:List (List I3)) (s9:ByteArray) (x0:Bool) (x1:Int) (w:World) (h0:Codes w a0 n0 c0 r0) (hG:VmShape w)
  (kS:s9.size≤1048576→∀ (a0:Option Addr) (n0 c0:Nat) (w:World),Codes w a0 n0 c0 r0→Calls Tryd.prog 24 #[.agg #[.slice a0 n0 c0],.string s9] w fun e w'=>e=.returned (.tuple #[.bool x0,.int .i64 x1])∧Below w.heap.size w w')
  (kI:s9.size≤1048576→∀ (a0:Option Addr) (n0 c0:Nat) (w:World),Codes w a0 n0 c0 r0→VmShape w→Calls Tryd.prog 25 #[.agg #[.slice a0 n0 c0],.string s9] w fun e w'=>e=.returned (.tuple #[.bool x0,.int .i64 x1])∧Below w.heap.size w w') :
  Calls Tryd.prog 6 #[.agg #[.slice a0 n0 c0],.string s9] w fun e w'=>e=.returned (.bool true)∧Below w.heap.size w w':=by
 have kT:=fun W h=>toProgram_copy a0 n0 c0 r0 W h
 have bw:Below w.heap.size w (w.alloc (.cells #[.slice a0 n0 c0] 24)):=by go_grown
 have p0:Blk (w.alloc (.cells #[.slice a0 n0 c0] 24)) w.heap.size 24 [.slice a0 n0 c0]:=blkAt _ _ _ rfl
 by_cases gs:1048576<s9.size
 ·have g9:(1048576:Int)<(s9.size:Int):=by omega
  clear gs kS kI kT p0
  go_enter Tryd.func6,Tryd.ntmps6
  go_wp2
  go_ret
  exact ⟨rfl,bw⟩
 have g9:¬ (1048576:Int)<(s9.size:Int):=by omega
 replace kS:=kS (by omega)
 replace kI:=kI (by omega)
 clear gs
 go_enter Tryd.func6,Tryd.ntmps6
 go_wp2_with fail
 generalize (w.alloc (.cells #[.slice a0 n0 c0] 24))=W0 at *
 go_wp2_with (first | refine wpList_load_blk rfl 24 _ rfl w.heap.size rfl p0 _ Tryd.underlying24 rfl (by kernel_rfl) ?_)
 have hz:=sizeLeft_or r0 1048576 (by omega)
 have hbd:=size_bounds (rows:=r0) (left:=1048576) (by omega)
 refine (szProgram_less a0 n0 c0 r0 1048576 _ (h0.below bw) (by omega) (by omega)).mono ?_
 rintro e wz ⟨rfl,hb⟩
 generalize sizeLeft 1048576 r0=zl at hz hbd
 replace bw:=bel_trans bw hb
 replace p0:=p0.below hb
 clear hb
 rcases hz with rfl | ⟨yl,xl⟩
 ·clear hbd
  go_wp2
  go_ret
  exact ⟨rfl,bw⟩
 obtain ⟨hr,hr'⟩:=hbd yl (by omega)
 have hlen:n0≤1048576:=by rw [← h0.1];exact hr
 replace kT:=fun W h=>kT W h hlen (fun t _=>hr' t)
 clear hbd hr hr' hlen
 have hn0:decide (zl<0)=false:=by simp;omega
 go_wp2_with (first | refine wpList_load_blk rfl 24 _ rfl w.heap.size rfl p0 _ Tryd.underlying24 rfl (by kernel_rfl) ?_)
 refine (kT _ (h0.below bw)).mono ?_
 rintro e wa ⟨rfl,hO,hb⟩
 have hA:=hO.codes
 clear hO
 generalize wz.heap.size+3=ga at hA ⊢
 replace bw:=bel_trans bw hb
 replace p0:=p0.below hb
 clear hb
 go_wp2_with fail
 refine (kS _ _ _ _ hA).mono ?_
 rintro e wr ⟨rfl,hb⟩
 replace bw:=bel_trans bw hb
 replace p0:=p0.below hb
 clear hb hA kS
 go_wp2_with (first | refine wpList_load_blk rfl 24 _ rfl w.heap.size rfl p0 _ Tryd.underlying24 rfl (by kernel_rfl) ?_)
 refine (kT _ (h0.below bw)).mono ?_
 rintro e wx ⟨rfl,hO,hb⟩
 have hX:=hO.codes
 clear hO
 generalize wr.heap.size+3=gx at hX ⊢
 replace bw:=bel_trans bw hb
 replace p0:=p0.below hb
 clear hb
 have ha:Below wx.heap.size wx (wx.alloc (.cells #[.slice (some ⟨gx,0,none⟩) n0 n0] 31)):=by go_grown
 have pX:Blk (wx.alloc (.cells #[.slice (some ⟨gx,0,none⟩) n0 n0] 31)) wx.heap.size 31 [.slice (some ⟨gx,0,none⟩) n0 n0]:=blkAt _ _ _ rfl
 replace bw:=bel_trans bw ha
 replace p0:=p0.below ha
 replace hX:=hX.below ha
 clear ha
 have hne0:(x0 != x0)=false:=by simp
 have hne1:(x1 != x1)=false:=by simp
 go_wp2_with (first | refine wpList_load_blk rfl 31 _ rfl wx.heap.size rfl pX _ Tryd.underlying31 rfl (by kernel_rfl) ?_)
 generalize (wx.alloc (.cells #[.slice (some ⟨gx,0,none⟩) n0 n0] 31))=wp at *
 generalize wx.heap.size=GX at *
 refine (kI _ _ _ _ hX (hG.below bw)).mono ?_
 rintro e wj ⟨rfl,hb⟩
 replace bw:=bel_trans bw hb
 replace p0:=p0.below hb
 replace hX:=hX.below hb
 replace pX:=pX.below hb
 clear hb kI
 have c9:=pX.cell 0
 have c8:=p0.cell 0
 simp only [List.getElem?_cons_zero,List.getElem?_cons_succ] at c9 c8
 go_wp2_with fail
 have hdr:Below wj.heap.size wj wj.drew:=by go_grown
 have bd:=bel_trans bw hdr
 refine wp_region_held_drew (S:=(fun w'=>w'.cell? ⟨GX,0,none⟩=some (.slice (some ⟨gx,0,none⟩) n0 n0)∧w'.cell? ⟨w.heap.size,0,none⟩=some (.slice a0 n0 c0))) (by kernel_rfl) ⟨c9,c8⟩ (fun hS0=>?_)
 refine tkm 0 42 (.agg #[.slice (some ⟨gx,0,none⟩) n0 n0]) ?_
 refine tkm 1 43 (.agg #[.slice a0 n0 c0]) ?_
 refine tkr 2 44 (fun K hK=>?_)
 go_simp
 refine (kT _ (h0.below bd)).mono ?_
 rintro e wk ⟨rfl,hO,hb1⟩
 go_wp2_with fail
 refine hK.out _ _ ?_ (fun hS1=>?_)
 ·exact ⟨cells_kept hb1 _ _ hS0.1,cells_kept hb1 _ _ hS0.2⟩
 clear hK
 have hK9:=hO.codes
 clear hO
 refine tkr 3 45 (fun K hK=>?_)
 go_simp
 refine (eqProgram_same _ _ _ _ _ r0 _ (hX.below (bel_trans hdr hb1)) hK9).mono ?_
 rintro e wl ⟨rfl,hb2⟩
 go_wp2_with fail
 refine hK.out _ _ ?_ (fun hS2=>?_)
 ·exact ⟨cells_kept hb2 _ _ hS1.1,cells_kept hb2 _ _ hS1.2⟩
 clear hK
 refine tkm 4 46 (.bool false) ?_
 refine wpAnyH_done (by kernel_rfl) ?_ _
 have hb9:Below wj.heap.size wj wl:=bel_trans hdr (bel_trans hb1 hb2)
 replace bw:=bel_trans bw hb9
 clear hb9 hb1 hb2 hdr bd hS0 hS1 hS2 c9 c8 hX pX p0 kT hK9
 go_wp2
 go_ret
 exact ⟨rfl,bw⟩


def inK (rows:List (List I3)) (s:ByteArray):Bool:=decide (0≤findT (keysL (fullS rows)) s (keysL (fullS rows)).length)
theorem inK_iff (rows:List (List I3)) (s:ByteArray):inK rows s=true↔s ∈ keysL (fullS rows):=by
 unfold inK
 rw [decide_eq_true_iff,findT_iff _ (Nat.le_refl _),List.take_length]
def reachV (rows:List (List I3)) (s:ByteArray):Bool:=if 65536<s.size then false else if codeF rows=0 then inK rows s else false
def reachC (rows:List (List I3)) (s:ByteArray):Int:=if 65536<s.size then 2 else codeF rows

theorem implIsReached_long (a:Option Addr) (len cap:Nat) (s:ByteArray) (w:World) (hs:65536<s.size) :
  Calls Tryd.prog 25 #[.agg #[.slice a len cap],.string s] w fun e w'=>e=.returned (.tuple #[.bool false,.int .i64 2])∧Below w.heap.size w w':=by
 have bw:Below w.heap.size w (w.alloc (.cells #[.slice a len cap] 31)):=by go_grown
 have h9:(65536:Int)<(s.size:Int):=by omega
 go_enter Tryd.func25,Tryd.ntmps25
 go_wp2
 refine bodyPost_ret (by simp [results,Tryd.results25,go_sem];try rfl) rfl ?_
 exact ⟨rfl,bw⟩

theorem implIsReached_not (a:Option Addr) (len cap:Nat) (rows:List (List I3)) (s:ByteArray) (w:World) (hC:Codes w a len cap rows) (hV:VmShape w) (hs:¬ 65536<s.size) (hc:codeF rows≠0) :
  Calls Tryd.prog 25 #[.agg #[.slice a len cap],.string s] w fun e w'=>e=.returned (.tuple #[.bool false,.int .i64 (codeF rows)])∧Below w.heap.size w w':=by
 have kS:=fun (W:World) (b:Below w.heap.size w W) (t:S4) (h:Vmem W t zeroV)=>spaceOf_not a len cap rows t W (hC.below b) h (hV.below b) hc
 generalize codeF rows=c at *
 have hcn:(c != 0)=true:=by simpa using hc
 have h9:¬ (65536:Int)<(s.size:Int):=by omega
 have fz:=(shape_fits9 zero_shape).1
 have kN:=implNewVm_is
 have bw:Below w.heap.size w (w.alloc (.cells #[.slice a len cap] 31)):=by go_grown
 have pP:Blk (w.alloc (.cells #[.slice a len cap] 31)) w.heap.size 31 [.slice a len cap]:=blkAt _ _ _ rfl
 go_enter Tryd.func25,Tryd.ntmps25
 go_wp2_with fail
 generalize (w.alloc (.cells #[.slice a len cap] 31))=U at *
 go_cut [6,7] from 13 (fun s4 s5 W=>CutF w W c s4 s5)
 case first =>
  have hdr:Below U.heap.size U U.drew:=by go_grown
  refine wp_region_held_drew (S:=(fun w'=>w'.cell? ⟨w.heap.size,0,none⟩=some (.slice a len cap))) (by kernel_rfl) (by simpa using pP.cell 0) (fun hS0=>?_)
  refine tkm 0 14 (.agg #[.slice a len cap]) ?_
  have pP9:=pP.below hdr
  replace bw:=bel_trans bw hdr
  clear hdr
  generalize U.drew=V at *
  have bt:Below V.heap.size V V:=Below.refl _ _
  refine wpAnyH_ready (rs:=[1,6]) (by kernel_rfl) (by simp) ?_
  refine AllReadyH.cons (o:=⟨some 15,_,_,_,_,_⟩) rfl (fun K hK=>?_) (AllReadyH.cons (o:=⟨some 6,_,_,_,_,_⟩) rfl (fun K hK=>?_) AllReadyH.nil)
  ·go_simp
   refine (kN V).mono ?_
   rintro e V1 ⟨⟨⟨⟨t0a,t0n,t0c⟩,⟨t1a,t1n,t1c⟩,⟨t2a,t2n,t2c⟩,⟨t3a,t3n,t3c⟩⟩,rfl,hO⟩,hb1⟩
   have ut:S4.val ((t0a,t0n,t0c),(t1a,t1n,t1c),(t2a,t2n,t2c),(t3a,t3n,t3c))=.agg #[.slice t0a t0n t0c,.slice t1a t1n t1c,.slice t2a t2n t2c,.slice t3a t3n t3c]:=rfl
   rw [ut]
   have bt:=bel_trans bt hb1
   go_wp2_with fail
   refine hK.out _ _ (cells_kept bt _ _ hS0) (fun hS1=>?_)
   clear hK
   try simp only [Act.put,tka,tkb,tkc]
   refine wpAnyH_ready (rs:=[2,6]) (by kernel_rfl) (by simp) ?_
   refine AllReadyH.cons (o:=⟨some 16,_,_,_,_,_⟩) rfl (fun K hK=>?_) (AllReadyH.cons (o:=⟨some 6,_,_,_,_,_⟩) rfl (fun K hK=>?_) AllReadyH.nil)
   ·have kx:=kS V1 (bel_trans bw bt) ((t0a,t0n,t0c),(t1a,t1n,t1c),(t2a,t2n,t2c),(t3a,t3n,t3c)) (hO.mem fz)
    rw [ut] at kx
    go_simp
    refine kx.mono ?_
    rintro e V2 ⟨rfl,hb2⟩
    have bt:=bel_trans bt hb2
    go_wp2_with fail
    refine hK.out _ _ (cells_kept bt _ _ hS0) (fun hS2=>?_)
    clear hK kx
    try simp only [Act.put,tka,tkb,tkc]
    refine tkm 3 13 (.tuple #[.agg #[.slice none 0 0,.map none],.int .i64 c]) ?_
    refine tkm 4 17 (.agg #[.slice none 0 0,.map none]) ?_
    refine tkm 5 18 (.int .i64 c) ?_
    refine tkr 6 6 (fun K hK=>?_)
    have hb3:Below V2.heap.size V2 (V2.alloc (.cells #[.slice none 0 0,.map none] 61)):=by go_grown
    have pX:Blk (V2.alloc (.cells #[.slice none 0 0,.map none] 61)) V2.heap.size 61 [.slice none 0 0,.map none]:=blkAt _ _ _ rfl
    have hXB:w.heap.size≤V2.heap.size:=Nat.le_trans bw.size bt.size
    have bt:=bel_trans bt hb3
    go_simp
    refine hK.out _ _ (cells_kept bt _ _ hS0) (fun hS3=>?_)
    clear hK
    generalize (V2.alloc (.cells #[.slice none 0 0,.map none] 61))=V3 at *
    obtain ⟨X,hX⟩:∃ X,X=V2.heap.size:=⟨_,rfl⟩
    rw [← hX] at pX hXB ⊢
    clear hX
    try simp only [Act.put,tka,tkb,tkc]
    refine tkz 7 (fun K hK=>?_)
    refine step_store_blkD rfl 61 _ _ rfl X [.slice none 0 0,.map none] rfl rfl pX (by kernel_rfl) rfl rfl ?_
    intro V9 pX9 g9
    have bz:=(bel_trans bw bt).grown g9 (bel_trans bw bt).size (fun q e=>by cases e;exact hXB)
    have hXP:X≠w.heap.size:=blk_ne pX (pP9.below bt) (by decide)
    have c9:=cells_kept bt _ _ hS0
    refine hK.out _ _ (cell_grownB g9 c9 (by simp;omega)) (fun hS4=>?_)
    clear hK
    try simp only [Act.put,tka,tkb,tkc]
    refine tkm 8 7 (.int .i64 c) ?_
    refine wpAnyH_done (by kernel_rfl) ?_ _
    go_wp2_with fail
    go_meet
    case rel=>exact ⟨X,rfl,rfl,bz⟩
   ·have hb3:Below V1.heap.size V1 (V1.alloc (.cells #[.slice none 0 0,.map none] 61)):=by go_grown
    have pX:Blk (V1.alloc (.cells #[.slice none 0 0,.map none] 61)) V1.heap.size 61 [.slice none 0 0,.map none]:=blkAt _ _ _ rfl
    have hXB:w.heap.size≤V1.heap.size:=Nat.le_trans bw.size bt.size
    replace hO:=hO.below hb3
    have bt:=bel_trans bt hb3
    go_simp
    refine hK.out _ _ (cells_kept bt _ _ hS0) (fun hS3=>?_)
    clear hK
    generalize (V1.alloc (.cells #[.slice none 0 0,.map none] 61))=V2 at *
    obtain ⟨X,hX⟩:∃ X,X=V1.heap.size:=⟨_,rfl⟩
    rw [← hX] at pX hXB ⊢
    clear hX
    try simp only [Act.put,tka,tkb,tkc]
    refine tkr 2 16 (fun K hK=>?_)
    have kx:=kS V2 (bel_trans bw bt) ((t0a,t0n,t0c),(t1a,t1n,t1c),(t2a,t2n,t2c),(t3a,t3n,t3c)) (hO.mem fz)
    rw [ut] at kx
    go_simp
    refine kx.mono ?_
    rintro e V3 ⟨rfl,hb2⟩
    replace pX:=pX.below hb2
    have bt:=bel_trans bt hb2
    go_wp2_with fail
    refine hK.out _ _ (cells_kept bt _ _ hS0) (fun hS2=>?_)
    clear hK kx
    try simp only [Act.put,tka,tkb,tkc]
    refine tkm 3 13 (.tuple #[.agg #[.slice none 0 0,.map none],.int .i64 c]) ?_
    refine tkm 4 17 (.agg #[.slice none 0 0,.map none]) ?_
    refine tkm 5 18 (.int .i64 c) ?_
    refine tkz 7 (fun K hK=>?_)
    refine step_store_blkD rfl 61 _ _ rfl X [.slice none 0 0,.map none] rfl rfl pX (by kernel_rfl) rfl rfl ?_
    intro V9 pX9 g9
    have bz:=(bel_trans bw bt).grown g9 (bel_trans bw bt).size (fun q e=>by cases e;exact hXB)
    have hXP:X≠w.heap.size:=blk_ne pX (pP9.below bt) (by decide)
    have c9:=cells_kept bt _ _ hS0
    refine hK.out _ _ (cell_grownB g9 c9 (by simp;omega)) (fun hS4=>?_)
    clear hK
    try simp only [Act.put,tka,tkb,tkc]
    refine tkm 8 7 (.int .i64 c) ?_
    refine wpAnyH_done (by kernel_rfl) ?_ _
    go_wp2_with fail
    go_meet
    case rel=>exact ⟨X,rfl,rfl,bz⟩
  ·have hb3:Below V.heap.size V (V.alloc (.cells #[.slice none 0 0,.map none] 61)):=by go_grown
   have pX:Blk (V.alloc (.cells #[.slice none 0 0,.map none] 61)) V.heap.size 61 [.slice none 0 0,.map none]:=blkAt _ _ _ rfl
   have hXB:w.heap.size≤V.heap.size:=Nat.le_trans bw.size bt.size
   have bt:=bel_trans bt hb3
   go_simp
   refine hK.out _ _ (cells_kept bt _ _ hS0) (fun hS3=>?_)
   clear hK
   generalize (V.alloc (.cells #[.slice none 0 0,.map none] 61))=V1 at *
   obtain ⟨X,hX⟩:∃ X,X=V.heap.size:=⟨_,rfl⟩
   rw [← hX] at pX hXB ⊢
   clear hX
   try simp only [Act.put,tka,tkb,tkc]
   refine tkr 1 15 (fun K hK=>?_)
   go_simp
   refine (kN V1).mono ?_
   rintro e V2 ⟨⟨⟨⟨t0a,t0n,t0c⟩,⟨t1a,t1n,t1c⟩,⟨t2a,t2n,t2c⟩,⟨t3a,t3n,t3c⟩⟩,rfl,hO⟩,hb1⟩
   have ut:S4.val ((t0a,t0n,t0c),(t1a,t1n,t1c),(t2a,t2n,t2c),(t3a,t3n,t3c))=.agg #[.slice t0a t0n t0c,.slice t1a t1n t1c,.slice t2a t2n t2c,.slice t3a t3n t3c]:=rfl
   rw [ut]
   have bt:=bel_trans bt hb1
   go_wp2_with fail
   refine hK.out _ _ (cells_kept bt _ _ hS0) (fun hS1=>?_)
   clear hK
   try simp only [Act.put,tka,tkb,tkc]
   replace pX:=pX.below hb1
   refine tkr 2 16 (fun K hK=>?_)
   have kx:=kS V2 (bel_trans bw bt) ((t0a,t0n,t0c),(t1a,t1n,t1c),(t2a,t2n,t2c),(t3a,t3n,t3c)) (hO.mem fz)
   rw [ut] at kx
   go_simp
   refine kx.mono ?_
   rintro e V3 ⟨rfl,hb2⟩
   replace pX:=pX.below hb2
   have bt:=bel_trans bt hb2
   go_wp2_with fail
   refine hK.out _ _ (cells_kept bt _ _ hS0) (fun hS2=>?_)
   clear hK kx
   try simp only [Act.put,tka,tkb,tkc]
   refine tkm 3 13 (.tuple #[.agg #[.slice none 0 0,.map none],.int .i64 c]) ?_
   refine tkm 4 17 (.agg #[.slice none 0 0,.map none]) ?_
   refine tkm 5 18 (.int .i64 c) ?_
   refine tkz 7 (fun K hK=>?_)
   refine step_store_blkD rfl 61 _ _ rfl X [.slice none 0 0,.map none] rfl rfl pX (by kernel_rfl) rfl rfl ?_
   intro V9 pX9 g9
   have bz:=(bel_trans bw bt).grown g9 (bel_trans bw bt).size (fun q e=>by cases e;exact hXB)
   have hXP:X≠w.heap.size:=blk_ne pX (pP9.below bt) (by decide)
   have c9:=cells_kept bt _ _ hS0
   refine hK.out _ _ (cell_grownB g9 c9 (by simp;omega)) (fun hS4=>?_)
   clear hK
   try simp only [Act.put,tka,tkb,tkc]
   refine tkm 8 7 (.int .i64 c) ?_
   refine wpAnyH_done (by kernel_rfl) ?_ _
   go_wp2_with fail
   go_meet
   case rel=>exact ⟨X,rfl,rfl,bz⟩
 obtain ⟨X,rfl,rfl,bz⟩:=hcut
 clear kS kN bw pP fz
 go_wp2
 refine bodyPost_ret (by simp [results,Tryd.results25,go_sem];try rfl) rfl ?_
 exact ⟨rfl,bz⟩

theorem implIsReached_ok (a:Option Addr) (len cap:Nat) (rows:List (List I3)) (s:ByteArray) (w:World) (hC:Codes w a len cap rows) (hV:VmShape w) (hs:¬ 65536<s.size) (hc:codeF rows=0) :
  Calls Tryd.prog 25 #[.agg #[.slice a len cap],.string s] w fun e w'=>e=.returned (.tuple #[.bool (inK rows s),.int .i64 0])∧Below w.heap.size w w':=by
 obtain ⟨hp,hf⟩:=code_parts hc
 obtain ⟨cs,hR⟩:=rows_of_codes6 hC hp
 have kS:=fun (W:World) (b:Below w.heap.size w W) (t:S4) (h:Vmem W t zeroV)=>spaceOf_yes a len cap rows t W (hC.below b) h (hV.below b) hp hf
 have h9:¬ (65536:Int)<(s.size:Int):=by omega
 have hkey:keyOf Tryd.prog 9 (.string s)=some (.string s.data.toList):=WideMaps.keyOf_string_mk Tryd.underlying9 (by unfold maxLen;omega)
 have hik:=inK_iff rows s
 have fz:=(shape_fits9 zero_shape).1
 have kN:=implNewVm_is
 have bw:Below w.heap.size w (w.alloc (.cells #[.slice a len cap] 31)):=by go_grown
 have pP:Blk (w.alloc (.cells #[.slice a len cap] 31)) w.heap.size 31 [.slice a len cap]:=blkAt _ _ _ rfl
 clear hc
 go_enter Tryd.func25,Tryd.ntmps25
 go_wp2_with fail
 generalize (w.alloc (.cells #[.slice a len cap] 31))=U at *
 go_cut [6,7] from 13 (fun s4 s5 W=>CutK w W cs rows (fullS rows) s4 s5)
 case first =>
  have hdr:Below U.heap.size U U.drew:=by go_grown
  refine wp_region_held_drew (S:=(fun w'=>w'.cell? ⟨w.heap.size,0,none⟩=some (.slice a len cap))) (by kernel_rfl) (by simpa using pP.cell 0) (fun hS0=>?_)
  refine tkm 0 14 (.agg #[.slice a len cap]) ?_
  have pP9:=pP.below hdr
  replace bw:=bel_trans bw hdr
  clear hdr
  generalize U.drew=V at *
  have bt:Below V.heap.size V V:=Below.refl _ _
  refine wpAnyH_ready (rs:=[1,6]) (by kernel_rfl) (by simp) ?_
  refine AllReadyH.cons (o:=⟨some 15,_,_,_,_,_⟩) rfl (fun K hK=>?_) (AllReadyH.cons (o:=⟨some 6,_,_,_,_,_⟩) rfl (fun K hK=>?_) AllReadyH.nil)
  ·go_simp
   refine (kN V).mono ?_
   rintro e V1 ⟨⟨⟨⟨t0a,t0n,t0c⟩,⟨t1a,t1n,t1c⟩,⟨t2a,t2n,t2c⟩,⟨t3a,t3n,t3c⟩⟩,rfl,hO⟩,hb1⟩
   have ut:S4.val ((t0a,t0n,t0c),(t1a,t1n,t1c),(t2a,t2n,t2c),(t3a,t3n,t3c))=.agg #[.slice t0a t0n t0c,.slice t1a t1n t1c,.slice t2a t2n t2c,.slice t3a t3n t3c]:=rfl
   rw [ut]
   have bt:=bel_trans bt hb1
   go_wp2_with fail
   refine hK.out _ _ (cells_kept bt _ _ hS0) (fun hS1=>?_)
   clear hK
   try simp only [Act.put,tka,tkb,tkc]
   refine wpAnyH_ready (rs:=[2,6]) (by kernel_rfl) (by simp) ?_
   refine AllReadyH.cons (o:=⟨some 16,_,_,_,_,_⟩) rfl (fun K hK=>?_) (AllReadyH.cons (o:=⟨some 6,_,_,_,_,_⟩) rfl (fun K hK=>?_) AllReadyH.nil)
   ·have kx:=kS V1 (bel_trans bw bt) ((t0a,t0n,t0c),(t1a,t1n,t1c),(t2a,t2n,t2c),(t3a,t3n,t3c)) (hO.mem fz)
    rw [ut] at kx
    go_simp
    refine kx.mono ?_
    rintro e V2 ⟨va9,nb,cs',L,rfl,sp,hLF,hR',hb2⟩
    obtain rfl:=(hR.below (bel_trans bw bt)).uniq hR'
    have hBv:w.heap.size≤V1.heap.size:=Nat.le_trans bw.size bt.size
    obtain ⟨va8,vn8,vc8,hva⟩:=own_slice6 sp.row
    have bt:=bel_trans bt hb2
    go_wp2_with fail
    refine hK.out _ _ (cells_kept bt _ _ hS0) (fun hS2=>?_)
    clear hK kx
    try simp only [Act.put,tka,tkb,tkc]
    refine tkm 3 13 (.tuple #[.agg #[va9,.map (some nb)],.int .i64 0]) ?_
    refine tkm 4 17 (.agg #[va9,.map (some nb)]) ?_
    refine tkm 5 18 (.int .i64 0) ?_
    refine tkr 6 6 (fun K hK=>?_)
    have hb3:Below V2.heap.size V2 (V2.alloc (.cells #[.slice none 0 0,.map none] 61)):=by go_grown
    have pX:Blk (V2.alloc (.cells #[.slice none 0 0,.map none] 61)) V2.heap.size 61 [.slice none 0 0,.map none]:=blkAt _ _ _ rfl
    have hXB:w.heap.size≤V2.heap.size:=Nat.le_trans bw.size bt.size
    replace sp:=sp.below hb3
    have bt:=bel_trans bt hb3
    go_simp
    refine hK.out _ _ (cells_kept bt _ _ hS0) (fun hS3=>?_)
    clear hK
    generalize (V2.alloc (.cells #[.slice none 0 0,.map none] 61))=V3 at *
    obtain ⟨X,hX⟩:∃ X,X=V2.heap.size:=⟨_,rfl⟩
    rw [← hX] at pX hXB ⊢
    clear hX
    try simp only [Act.put,tka,tkb,tkc]
    subst hva
    refine tkz 7 (fun K hK=>?_)
    refine step_store_blkD rfl 61 _ _ rfl X [.slice va8 vn8 vc8,.map (some nb)] rfl rfl pX (by kernel_rfl) rfl rfl ?_
    intro V9 pX9 g9
    have bz:=(bel_trans bw bt).grown g9 (bel_trans bw bt).size (fun q e=>by cases e;exact hXB)
    replace sp:=sp.grown g9 pX (by decide) (by decide)
    have hXP:X≠w.heap.size:=blk_ne pX (pP9.below bt) (by decide)
    have c9:=cells_kept bt _ _ hS0
    refine hK.out _ _ (cell_grownB g9 c9 (by simp;omega)) (fun hS4=>?_)
    clear hK
    try simp only [Act.put,tka,tkb,tkc]
    refine tkm 8 7 (.int .i64 0) ?_
    refine wpAnyH_done (by kernel_rfl) ?_ _
    go_wp2_with fail
    go_meet
    case rel=>exact CutK.mk9 (va:=.slice none 0 0) rfl rfl pX9.out sp hLF hXB hBv bz
   ·have hb3:Below V1.heap.size V1 (V1.alloc (.cells #[.slice none 0 0,.map none] 61)):=by go_grown
    have pX:Blk (V1.alloc (.cells #[.slice none 0 0,.map none] 61)) V1.heap.size 61 [.slice none 0 0,.map none]:=blkAt _ _ _ rfl
    have hXB:w.heap.size≤V1.heap.size:=Nat.le_trans bw.size bt.size
    replace hO:=hO.below hb3
    have bt:=bel_trans bt hb3
    go_simp
    refine hK.out _ _ (cells_kept bt _ _ hS0) (fun hS3=>?_)
    clear hK
    generalize (V1.alloc (.cells #[.slice none 0 0,.map none] 61))=V2 at *
    obtain ⟨X,hX⟩:∃ X,X=V1.heap.size:=⟨_,rfl⟩
    rw [← hX] at pX hXB ⊢
    clear hX
    try simp only [Act.put,tka,tkb,tkc]
    refine tkr 2 16 (fun K hK=>?_)
    have kx:=kS V2 (bel_trans bw bt) ((t0a,t0n,t0c),(t1a,t1n,t1c),(t2a,t2n,t2c),(t3a,t3n,t3c)) (hO.mem fz)
    rw [ut] at kx
    go_simp
    refine kx.mono ?_
    rintro e V3 ⟨va9,nb,cs',L,rfl,sp,hLF,hR',hb2⟩
    obtain rfl:=(hR.below (bel_trans bw bt)).uniq hR'
    have hBv:w.heap.size≤V2.heap.size:=Nat.le_trans bw.size bt.size
    obtain ⟨va8,vn8,vc8,hva⟩:=own_slice6 sp.row
    replace pX:=pX.below hb2
    have bt:=bel_trans bt hb2
    go_wp2_with fail
    refine hK.out _ _ (cells_kept bt _ _ hS0) (fun hS2=>?_)
    clear hK kx
    try simp only [Act.put,tka,tkb,tkc]
    refine tkm 3 13 (.tuple #[.agg #[va9,.map (some nb)],.int .i64 0]) ?_
    refine tkm 4 17 (.agg #[va9,.map (some nb)]) ?_
    refine tkm 5 18 (.int .i64 0) ?_
    subst hva
    refine tkz 7 (fun K hK=>?_)
    refine step_store_blkD rfl 61 _ _ rfl X [.slice va8 vn8 vc8,.map (some nb)] rfl rfl pX (by kernel_rfl) rfl rfl ?_
    intro V9 pX9 g9
    have bz:=(bel_trans bw bt).grown g9 (bel_trans bw bt).size (fun q e=>by cases e;exact hXB)
    replace sp:=sp.grown g9 pX (by decide) (by decide)
    have hXP:X≠w.heap.size:=blk_ne pX (pP9.below bt) (by decide)
    have c9:=cells_kept bt _ _ hS0
    refine hK.out _ _ (cell_grownB g9 c9 (by simp;omega)) (fun hS4=>?_)
    clear hK
    try simp only [Act.put,tka,tkb,tkc]
    refine tkm 8 7 (.int .i64 0) ?_
    refine wpAnyH_done (by kernel_rfl) ?_ _
    go_wp2_with fail
    go_meet
    case rel=>exact CutK.mk9 (va:=.slice none 0 0) rfl rfl pX9.out sp hLF hXB hBv bz
  ·have hb3:Below V.heap.size V (V.alloc (.cells #[.slice none 0 0,.map none] 61)):=by go_grown
   have pX:Blk (V.alloc (.cells #[.slice none 0 0,.map none] 61)) V.heap.size 61 [.slice none 0 0,.map none]:=blkAt _ _ _ rfl
   have hXB:w.heap.size≤V.heap.size:=Nat.le_trans bw.size bt.size
   have bt:=bel_trans bt hb3
   go_simp
   refine hK.out _ _ (cells_kept bt _ _ hS0) (fun hS3=>?_)
   clear hK
   generalize (V.alloc (.cells #[.slice none 0 0,.map none] 61))=V1 at *
   obtain ⟨X,hX⟩:∃ X,X=V.heap.size:=⟨_,rfl⟩
   rw [← hX] at pX hXB ⊢
   clear hX
   try simp only [Act.put,tka,tkb,tkc]
   refine tkr 1 15 (fun K hK=>?_)
   go_simp
   refine (kN V1).mono ?_
   rintro e V2 ⟨⟨⟨⟨t0a,t0n,t0c⟩,⟨t1a,t1n,t1c⟩,⟨t2a,t2n,t2c⟩,⟨t3a,t3n,t3c⟩⟩,rfl,hO⟩,hb1⟩
   have ut:S4.val ((t0a,t0n,t0c),(t1a,t1n,t1c),(t2a,t2n,t2c),(t3a,t3n,t3c))=.agg #[.slice t0a t0n t0c,.slice t1a t1n t1c,.slice t2a t2n t2c,.slice t3a t3n t3c]:=rfl
   rw [ut]
   have bt:=bel_trans bt hb1
   go_wp2_with fail
   refine hK.out _ _ (cells_kept bt _ _ hS0) (fun hS1=>?_)
   clear hK
   try simp only [Act.put,tka,tkb,tkc]
   replace pX:=pX.below hb1
   refine tkr 2 16 (fun K hK=>?_)
   have kx:=kS V2 (bel_trans bw bt) ((t0a,t0n,t0c),(t1a,t1n,t1c),(t2a,t2n,t2c),(t3a,t3n,t3c)) (hO.mem fz)
   rw [ut] at kx
   go_simp
   refine kx.mono ?_
   rintro e V3 ⟨va9,nb,cs',L,rfl,sp,hLF,hR',hb2⟩
   obtain rfl:=(hR.below (bel_trans bw bt)).uniq hR'
   have hBv:w.heap.size≤V2.heap.size:=Nat.le_trans bw.size bt.size
   obtain ⟨va8,vn8,vc8,hva⟩:=own_slice6 sp.row
   replace pX:=pX.below hb2
   have bt:=bel_trans bt hb2
   go_wp2_with fail
   refine hK.out _ _ (cells_kept bt _ _ hS0) (fun hS2=>?_)
   clear hK kx
   try simp only [Act.put,tka,tkb,tkc]
   refine tkm 3 13 (.tuple #[.agg #[va9,.map (some nb)],.int .i64 0]) ?_
   refine tkm 4 17 (.agg #[va9,.map (some nb)]) ?_
   refine tkm 5 18 (.int .i64 0) ?_
   subst hva
   refine tkz 7 (fun K hK=>?_)
   refine step_store_blkD rfl 61 _ _ rfl X [.slice va8 vn8 vc8,.map (some nb)] rfl rfl pX (by kernel_rfl) rfl rfl ?_
   intro V9 pX9 g9
   have bz:=(bel_trans bw bt).grown g9 (bel_trans bw bt).size (fun q e=>by cases e;exact hXB)
   replace sp:=sp.grown g9 pX (by decide) (by decide)
   have hXP:X≠w.heap.size:=blk_ne pX (pP9.below bt) (by decide)
   have c9:=cells_kept bt _ _ hS0
   refine hK.out _ _ (cell_grownB g9 c9 (by simp;omega)) (fun hS4=>?_)
   clear hK
   try simp only [Act.put,tka,tkb,tkc]
   refine tkm 8 7 (.int .i64 0) ?_
   refine wpAnyH_done (by kernel_rfl) ?_ _
   go_wp2_with fail
   go_meet
   case rel=>exact CutK.mk9 (va:=.slice none 0 0) rfl rfl pX9.out sp hLF hXB hBv bz
 obtain ⟨X,va,vc,nb,L,rfl,rfl,pX,sp,hLF,hXB,bz⟩:=hcut
 clear kS kN bw pP fz
 have cX1:wc.cell? ⟨X,1,none⟩=some (.map (some nb)):=by simpa using pX.cell 1
 obtain ⟨D,hm,hN⟩:=sp.map
 have hhas:Maps.has D (.string s.data.toList)=inK rows s:=by
  rw [Bool.eq_iff_iff,hN.has s,hLF,hik]
 clear hN hik hLF sp pX hXB
 obtain ⟨b,hb9⟩:∃ b,b=inK rows s:=⟨_,rfl⟩
 rw [← hb9] at hhas
 have HB:Hid (b=inK rows s):=hb9
 clear hb9
 go_wp2_with (at_lookup;refine wpList_lookup_own_ok_int _ rfl _ _ 59 rfl 9 3 .i64 law_str6 Tryd.underlying59 Tryd.underlying3 (zero_int6 _) nb L.length D rfl hm _ _ rfl hkey ?_;intro c hat hwc)
 clear hat hwc
 refine bodyPost_ret (by simp [results,Tryd.results25,go_sem];try rfl) rfl ?_
 exact ⟨by rw [HB.out],bz⟩

theorem specIsReached_is (a:Option Addr) (len cap:Nat) (rows:List (List I3)) (s:ByteArray) (w:World) (hC:Codes w a len cap rows) :
  Calls Tryd.prog 24 #[.agg #[.slice a len cap],.string s] w fun e w'=>e=.returned (.tuple #[.bool (reachV rows s),.int .i64 (reachC rows s)])∧Below w.heap.size w w':=by
 have kO:=fun (W:World) (b:Below w.heap.size w W)=>specProgramOK_is a len cap rows W (hC.below b)
 have bw:Below w.heap.size w (w.alloc (.cells #[.slice a len cap] 31)):=by go_grown
 have pP:Blk (w.alloc (.cells #[.slice a len cap] 31)) w.heap.size 31 [.slice a len cap]:=blkAt _ _ _ rfl
 unfold reachV reachC
 by_cases hs:65536<s.size
 ·rw [if_pos hs,if_pos hs]
  have h9:(65536:Int)<(s.size:Int):=by omega
  clear hs kO
  go_enter Tryd.func24,Tryd.ntmps24
  go_wp2
  refine bodyPost_ret (by simp [results,Tryd.results24,go_sem];try rfl) rfl ?_
  exact ⟨rfl,bw⟩
 rw [if_neg hs,if_neg hs]
 have h9:¬ (65536:Int)<(s.size:Int):=by omega
 obtain ⟨rv,hrv⟩:∃ rv,rv=(if codeF rows=0 then inK rows s else false):=⟨_,rfl⟩
 obtain ⟨rc,hrc⟩:∃ rc,rc=codeF rows:=⟨_,rfl⟩
 rw [← hrv,← hrc]
 have HV:Hid (rv=(if codeF rows=0 then inK rows s else false)):=hrv
 have HC:Hid (rc=codeF rows):=hrc
 clear hrv hrc hs
 go_enter Tryd.func24,Tryd.ntmps24
 go_wp2_with fail
 generalize (w.alloc (.cells #[.slice a len cap] 31))=U at *
 have kOx:=kO U bw
 clear kO
 go_wp2_with (refine wpList_load_blk rfl 31 _ rfl w.heap.size rfl pP _ Tryd.underlying31 rfl (by kernel_rfl) ?_)
 refine kOx.mono ?_
 rintro e w1 ⟨rfl,hb⟩
 replace bw:=bel_trans bw hb
 replace pP:=pP.below hb
 clear hb kOx
 cases hp:progOk rows
 ·have e1:codeF rows=1:=by unfold codeF;rw [hp];rfl
  have HE:Hid (rv=false∧rc=1):=⟨by rw [HV.out,e1];rfl,by rw [HC.out,e1]⟩
  clear e1 HV HC
  go_wp2
  refine bodyPost_ret (by simp [results,Tryd.results24,go_sem];try rfl) rfl ?_
  exact ⟨by rw [HE.out.1,HE.out.2],bw⟩
 ·obtain ⟨hl3,cs,hR⟩:=hC.rowsAt hp
  subst hl3
  have kS:=l06States_is (cap:=cap) (hR.below bw) hp
  go_wp2_with (refine wpList_load_blk rfl 31 _ rfl w.heap.size rfl pP _ Tryd.underlying31 rfl (by kernel_rfl) ?_)
  refine kS.mono ?_
  rintro e w2 ⟨⟨v1,v2,v3,ts,fs,bs,rfl,hT,hF⟩,hb⟩
  replace bw:=bel_trans bw hb
  clear hb kS
  by_cases hf:(fullS rows).length≤2000
  ·obtain ⟨rfl,_,_⟩:=hF hf
   have hd:decide ((fullS rows).length≤2000)=true:=decide_eq_true hf
   have e1:codeF rows=0:=by unfold codeF;rw [hp,if_pos rfl,if_pos hf]
   have hpos:0<(keysL (fullS rows)).length:=by
    rw [keysL_len]
    have:=fullS_head rows
    exact (List.getElem?_eq_some_iff.1 this).1
   obtain ⟨g,c,rfl,hgc,_⟩:=own_some6 hT.ks hpos
   have kF:=l06Find_is (some ⟨g,0,none⟩) (keysL (fullS rows)).length c (keysL (fullS rows)) s w2 (strs6 hT.ks) (by rw [keysL_len];omega)
   have HE:Hid (rv=decide (0≤findT (keysL (fullS rows)) s (keysL (fullS rows)).length)∧rc=0):=⟨by rw [HV.out,if_pos e1];rfl,by rw [HC.out,e1]⟩
   generalize findT (keysL (fullS rows)) s (keysL (fullS rows)).length=fd at *
   clear hF hf e1 HV HC hT hpos hgc
   go_wp2_with fail
   refine kF.mono ?_
   rintro e w3 ⟨rfl,rfl⟩
   clear kF
   by_cases h0:0≤fd
   ·have HE2:Hid (rv=true∧rc=0):=⟨by rw [HE.out.1];exact decide_eq_true h0,HE.out.2⟩
    clear HE
    go_wp2
    refine bodyPost_ret (by simp [results,Tryd.results24,go_sem];try rfl) rfl ?_
    exact ⟨by rw [HE2.out.1,HE2.out.2],bw⟩
   ·have HE2:Hid (rv=false∧rc=0):=⟨by rw [HE.out.1];exact decide_eq_false h0,HE.out.2⟩
    clear HE
    go_wp2
    refine bodyPost_ret (by simp [results,Tryd.results24,go_sem];try rfl) rfl ?_
    exact ⟨by rw [HE2.out.1,HE2.out.2,decide_eq_false (show ¬ 0≤fd by omega)],bw⟩
  ·have hd:decide ((fullS rows).length≤2000)=false:=decide_eq_false hf
   have e1:codeF rows=15:=by unfold codeF;rw [hp,if_pos rfl,if_neg hf]
   have HE:Hid (rv=false∧rc=15):=⟨by rw [HV.out,e1];rfl,by rw [HC.out,e1]⟩
   clear e1 HV HC hT hF hf
   go_wp2
   refine bodyPost_ret (by simp [results,Tryd.results24,go_sem];try rfl) rfl ?_
   exact ⟨by rw [HE.out.1,HE.out.2],bw⟩
theorem implIsReached_is (a:Option Addr) (len cap:Nat) (rows:List (List I3)) (s:ByteArray) (w:World) (hC:Codes w a len cap rows) (hV:VmShape w) :
  Calls Tryd.prog 25 #[.agg #[.slice a len cap],.string s] w fun e w'=>e=.returned (.tuple #[.bool (reachV rows s),.int .i64 (reachC rows s)])∧Below w.heap.size w w':=by
 unfold reachV reachC
 by_cases hs:65536<s.size
 ·rw [if_pos hs,if_pos hs]
  exact implIsReached_long a len cap s w hs
 ·rw [if_neg hs,if_neg hs]
  by_cases h:codeF rows=0
  ·rw [if_pos h,h]
   exact implIsReached_ok a len cap rows s w hC hV hs h
  ·rw [if_neg h]
   exact implIsReached_not a len cap rows s w hC hV hs h
theorem fnExactIsReached_walk (a0:Option Addr) (n0 c0:Nat) (r0:List (List I3)) (a1:ByteArray) (w1:a1.size≤maxLen) (w:World) (h0:Codes w a0 n0 c0 r0) (hG:VmShape w) :
  Calls Tryd.prog 6 #[.agg #[.slice a0 n0 c0],.string a1] w fun e w'=>e=.returned (.bool true)∧Below w.heap.size w w':=
 fnExactIsReached_of a0 n0 c0 r0 a1 (reachV r0 a1) (reachC r0 a1) w h0 hG (fun _ a n c w hC=>specIsReached_is a n c r0 a1 w hC) (fun _ a n c w hC hV=>implIsReached_is a n c r0 a1 w hC hV)
theorem fnExactIsReached_laid {W:World} (h:laidMetH Tryd.prog Rows.fnExactIsReachedRow.laid W):VmShape W:=vmShape_of_laid rfl h
theorem fnExactIsReached_door_met (os:Os) (args:Array Value):laidMetH Tryd.prog Rows.fnExactIsReachedRow.laid ((World.doorLaid Tryd.prog 400 os).forCall (fun _ _=>0) ⟨#[],args,[]⟩).memory:=
 laidMetH_of_parts3 (fuel:=8) (laidMet_of_run' 8 (by kernel_rfl) (by kernel_rfl)) (by kernel_rfl) (by kernel_rfl)
end Go.Proofs.YtfpopbbmnbehiaaDoor
