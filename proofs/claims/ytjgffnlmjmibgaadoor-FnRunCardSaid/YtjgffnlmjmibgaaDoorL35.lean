/-
  Joined: MrgB, FndS, Schd, SchD.
-/
import Derived.Test.YtjgffnlmjmibgaaDoorL15
import Derived.Test.YtjgffnlmjmibgaaDoorL17
import Derived.Test.YtjgffnlmjmibgaaDoorL32
import Derived.Test.YtjgffnlmjmibgaaDoorL34

namespace Go.Proofs.YtjgffnlmjmibgaaDoor
set_option maxRecDepth 100000
set_option maxHeartbeats 16000000
open Go.RowKit
set_option linter.unusedVariables false
set_option linter.unusedSimpArgs false

def BugsOne (e:Ending) (w:World) (B:Nat) (zs:List I3):Prop:=∃ v,e=.returned v∧w.ownsRow B 40 3 v zs.length (flat zs)
theorem fits_put {zs:List I3} {x:I3} (h:∀ z ∈ zs,I3.fits z) (hx:I3.fits x):∀ z ∈ putB zs x,I3.fits z:=fun z hz=>by
 rcases mem_putB.1 hz with e | e
 ·exact h z e
 ·rw [e];exact hx
theorem fits_putAll {xs ys:List I3} (h:∀ z ∈ xs,I3.fits z) (k:∀ z ∈ ys,I3.fits z):∀ z ∈ putAll xs ys,I3.fits z:=fun z hz=>by
 rcases mem_putAll.1 hz with e | e
 ·exact h z e
 ·exact k z e
theorem putAll_snoc (out xs:List I3) {k:Nat} (hk:k<xs.length):putAll out (xs.take (k+1))=putB (putAll out (xs.take k)) (xs.getD k (0,0,0)):=by
 unfold putAll
 rw [List.take_add_one,List.foldl_append,List.getElem?_eq_getElem hk]
 simp [List.getD,List.getElem?_eq_getElem hk]
theorem getD_memB {xs:List I3} {k:Nat} (hk:k<xs.length):xs.getD k (0,0,0) ∈ xs:=by
 rw [List.getD,List.getElem?_eq_getElem hk,Option.getD_some]
 exact List.getElem_mem hk
def Under (w wr:World) (v:Value) (zs:List I3):Prop:=(∃ g c,v=.slice (some ⟨g,0,none⟩) zs.length c)∧wr.ownsRow w.heap.size 40 3 v zs.length (flat zs)∧(∀ z ∈ zs,I3.fits z)∧zs.length≤1000000

theorem l04Merge_is (a0:Option Addr) (n0 c0:Nat) (xs:List I3) (a1:Option Addr) (n1 c1:Nat) (ys:List I3) (w:World) (h0:Instrs w a0 n0 c0 xs) (h1:Instrs w a1 n1 c1 ys) (m0:n0≤400000) (m1:n1≤400000) :
  Calls Tryd.prog 72 #[.slice a0 n0 c0,.slice a1 n1 c1] w fun e w'=>BugsOne e w' w.heap.size (mergeB xs ys)∧Below w.heap.size w w':=by
 have l0:=h0.1
 have l1:=h1.1
 have f0:=h0.2.2.2.1
 have f1:=h1.2.2.2.1
 have q0:Under w (w.alloc (.cells #[] 40)) (.slice (some ⟨w.heap.size,0,none⟩) 0 0) []:=⟨⟨_,_,rfl⟩,own_emptyB w 40 3 w.heap.size (Nat.le_refl _),by simp,by simp⟩
 have bw0:Below w.heap.size w (w.alloc (.cells #[] 40)):=by go_grown
 go_enter Tryd.func72,Tryd.ntmps72
 go_wp2_with fail
 generalize w.alloc (.cells #[] 40)=W0 at *
 go_loopw [5,6] (fun so si wr=>∃ (k:Nat) (v:Value),v=so∧k≤n0∧si=.int .i64 k∧Under w wr v (putAll [] (xs.take k))∧Below w.heap.size w wr) (fun _ si _=>n0 - (intOf si).toNat)
 case atStart=>exact ⟨0,_,rfl,by omega,rfl,q0,bw0⟩
 case round =>
  clear q0 bw0
  obtain ⟨k,so,rfl,hk,rfl,⟨⟨g,c,rfl⟩,hq,hf,hz⟩,bw⟩:=hrel
  by_cases hlt:k<n0
  ·obtain ⟨zs,hzs⟩:∃ zs,zs=putAll [] (xs.take k):=⟨_,rfl⟩
   rw [← hzs] at hq hf hz
   try rw [← hzs]
   have hZ:=Instrs.of_owns hq rfl hf rfl
   obtain ⟨_,_,_,_,hcase⟩:=h0.below bw
   rcases hcase with e0 | ⟨b,off,rfl,hb,hc⟩
   ·omega
   obtain ⟨d0,d1,d2⟩:=hc k hlt
   clear hc hb
   obtain ⟨x,hx⟩:∃ x,x=xs.getD k (0,0,0):=⟨_,rfl⟩
   have hfx:I3.fits x:=by rw [hx];exact f0 _ (getD_memB (by omega))
   have hnew:putB zs x=putAll [] (xs.take (k+1)):=by rw [hzs,hx];exact (putAll_snoc [] xs (by omega)).symm
   rw [← hx] at d0 d1 d2
   have HN:Hid (putB zs x=putAll [] (xs.take (k+1))):=hnew
   have hzl:zs.length≤k:=by rw [hzs];have:=putAll_len (xs.take k) [];simp at this;omega
   clear hx hnew hzs
   have kP:=l04Put_is g 0 zs.length c zs x wr hZ (by omega)
   have hpl:=putB_len zs x
   have hpf:=fits_put hf hfx
   have hp0:0<(putB zs x).length:=List.length_pos_of_mem (mem_putB.2 (.inr rfl))
   generalize zs.length=m at *
   obtain ⟨x0,x1,x2⟩:=x
   unfold I3.val at kP
   simp only at d0 d1 d2 kP
   clear hZ hq
   have hlt':(k:Int)<(n0:Int):=by omega
   have hk0:(0:Int)≤(k:Int):=by omega
   go_wp2_with fail
   refine kP.mono ?_
   rintro e w1 ⟨⟨v1,rfl,hq1⟩,hb1⟩
   clear kP d0 d1 d2
   have bw1:=bel_trans bw hb1
   obtain ⟨g1,e1,rfl⟩:=own_someB hq1 hp0
   have hU:Under w w1 (.slice (some ⟨g1,0,none⟩) (putB zs (x0,x1,x2)).length e1) (putAll [] (xs.take (k+1))):=by
    rw [← HN.out]
    exact ⟨⟨_,_,rfl⟩,own_lowerB hq1 bw.size,hpf,by omega⟩
   generalize (putB zs (x0,x1,x2)).length=m1 at *
   clear hq1 hpf
   go_wp2
   go_roundw
   case rel=>exact ⟨k+1,_,rfl,by omega,by go_num,hU,bw1⟩
   case measure=>simp [intOf];omega
  ·obtain rfl:k=n0:=by omega
   have hU:Under w wr (.slice (some ⟨g,0,none⟩) (putAll [] (xs.take k)).length c) (putAll (putAll [] xs) (ys.take 0)):=by
    have e:xs.take k=xs:=List.take_of_length_le (by omega)
    rw [e] at hq hf hz ⊢
    exact ⟨⟨_,_,rfl⟩,hq,hf,hz⟩
   have hal:(putAll [] xs).length≤k:=by have:=putAll_len xs [];simp at this;omega
   have haf:∀ z ∈ putAll [] xs,I3.fits z:=fits_putAll (by simp) f0
   generalize (putAll [] (xs.take k)).length=m at *
   clear hq hf hz h0
   go_wp2_with fail
   go_loopw [5,7] (fun so si wr=>∃ (j:Nat) (v:Value),v=so∧j≤n1∧si=.int .i64 j∧Under w wr v (putAll (putAll [] xs) (ys.take j))∧Below w.heap.size w wr) (fun _ si _=>n1 - (intOf si).toNat)
   case atStart=>exact ⟨0,_,rfl,by omega,rfl,hU,bw⟩
   case round =>
    clear hU bw
    obtain ⟨j,so,rfl,hj,rfl,⟨⟨g,c,rfl⟩,hq,hf,hz⟩,bw⟩:=hrel
    by_cases hltj:j<n1
    ·obtain ⟨zs,hzs⟩:∃ zs,zs=putAll (putAll [] xs) (ys.take j):=⟨_,rfl⟩
     rw [← hzs] at hq hf hz
     try rw [← hzs]
     have hZ:=Instrs.of_owns hq rfl hf rfl
     obtain ⟨_,_,_,_,hcase⟩:=h1.below bw
     rcases hcase with e0 | ⟨b,off,rfl,hb,hc⟩
     ·omega
     obtain ⟨d0,d1,d2⟩:=hc j hltj
     clear hc hb
     obtain ⟨x,hx⟩:∃ x,x=ys.getD j (0,0,0):=⟨_,rfl⟩
     have hfx:I3.fits x:=by rw [hx];exact f1 _ (getD_memB (by omega))
     have hnew:putB zs x=putAll (putAll [] xs) (ys.take (j+1)):=by rw [hzs,hx];exact (putAll_snoc _ ys (by omega)).symm
     rw [← hx] at d0 d1 d2
     have HN:Hid (putB zs x=putAll (putAll [] xs) (ys.take (j+1))):=hnew
     have hzl:zs.length≤k+j:=by rw [hzs];have:=putAll_len (ys.take j) (putAll [] xs);simp at this;omega
     clear hx hnew hzs
     have kP:=l04Put_is g 0 zs.length c zs x _ hZ (by omega)
     have hpl:=putB_len zs x
     have hpf:=fits_put hf hfx
     have hp0:0<(putB zs x).length:=List.length_pos_of_mem (mem_putB.2 (.inr rfl))
     generalize zs.length=mm at *
     obtain ⟨x0,x1,x2⟩:=x
     unfold I3.val at kP
     simp only at d0 d1 d2 kP
     clear hZ hq
     have hlt':(j:Int)<(n1:Int):=by omega
     have hk0:(0:Int)≤(j:Int):=by omega
     go_wp2_with fail
     refine kP.mono ?_
     rintro e w1 ⟨⟨v1,rfl,hq1⟩,hb1⟩
     clear kP d0 d1 d2
     have bw1:=bel_trans bw hb1
     obtain ⟨g1,e1,rfl⟩:=own_someB hq1 hp0
     have hU:Under w w1 (.slice (some ⟨g1,0,none⟩) (putB zs (x0,x1,x2)).length e1) (putAll (putAll [] xs) (ys.take (j+1))):=by
      rw [← HN.out]
      exact ⟨⟨_,_,rfl⟩,own_lowerB hq1 bw.size,hpf,by omega⟩
     generalize (putB zs (x0,x1,x2)).length=m1 at *
     clear hq1 hpf
     go_wp2
     go_roundw
     case rel=>exact ⟨j+1,_,rfl,by omega,by go_num,hU,bw1⟩
     case measure=>simp [intOf];omega
    ·obtain rfl:j=n1:=by omega
     have e:ys.take j=ys:=List.take_of_length_le (by omega)
     rw [e] at hq hf hz
     try rw [e]
     obtain ⟨mm,hmm⟩:∃ mm,mm=(putAll (putAll [] xs) ys).length:=⟨_,rfl⟩
     rw [← hmm]
     have HQ:Hid (∀ e,e=.returned (.slice (some ⟨g,0,none⟩) mm c)→BugsOne e wr w.heap.size (mergeB xs ys)):=fun e he=>⟨_,he,by rw [hmm];exact hq⟩
     clear hq hmm hz
     go_wp2
     go_ret
     exact ⟨HQ.out _ rfl,bw⟩


def FoundGot (e:Ending) (w:World) (B:Nat) (z:V4) (fs:List I3):Prop:=∃ (t:S4) (v:Value),e=.returned (.tuple #[t.val,v])∧OwnV w B t z∧w.ownsRow B 40 3 v fs.length (flat fs)
theorem own_apart_blk {w:World} {B e s n g t:Nat} {v:Value} {xs cs:List Value} (h:w.ownsRow B e s v n xs) (hB:Blk w g t cs) (he:e≠t):v.ownBlock=none∨v.ownBlock≠some g:=.inr (own_ne_blk h hB he)
theorem owns_low {B e s n:Nat} {v:Value} {xs:List Value} {w w':World} (h:w.ownsRow B e s v n xs) (hb:Below w.heap.size w w'):w'.ownsRow B e s v n xs:=by
 refine h.kept (w':=w') (row:=none) ⟨hb.os,hb.tape,hb.output,hb.size,fun k hk _=>hb.block k hk⟩ ?_
 cases v.ownBlock with
 | none=>exact .inl rfl
 | some x=>exact .inr (by simp)
theorem goM_nat (rows:List (List I3)) (m:V4) (k:Nat):goM rows m (k:Int)=stepM m (insM rows m k) k:=by unfold goM;rw [Int.toNat_natCast]
theorem step_code (m:V4) (x:I3) (k:Nat):(stepM m x k).2=0∨(stepM m x k).2=12∨(stepM m x k).2=13:=by
 unfold stepM
 repeat' split
 all_goals simp
theorem instrs_own {w:World} {B g n c:Nat} {xs:List I3} (h:w.ownsRow B 40 3 (.slice (some ⟨g,0,none⟩) n c) n (flat xs)) (hl:xs.length=n) (hf:∀ x ∈ xs,I3.fits x):Instrs w (some ⟨g,0,none⟩) n c xs:=Instrs.of_owns h hl hf rfl

theorem l04Found_is {w:World} {a9:Option Addr} {cap:Nat} {cs:Sl × Sl × Sl} {rows:List (List I3)} {s:S4} {m:V4} (hR:RowsAt w a9 cs rows) (h:Vmem w s m) (hp:progOk rows=true) (hs:shapeOk m=true) {k:Nat} (hk:k<3) (hd:doneM rows m k=false) :
  Calls Tryd.prog 71 #[.agg #[.slice a9 3 cap],s.val,.int .i64 k] w fun e w'=>FoundGot e w' w.heap.size (goM rows m k).1 (foundM rows m k)∧Below w.heap.size w w':=by
 obtain ⟨i0,hi,hz0,hz1,hz2⟩:=info_parts info_bug
 have kP:=fun (W:World) (hR:RowsAt W a9 cs rows) (h:Vmem W s m)=>l03Step_is (cap:=cap) rfl hR h hp hs hk hd
 have hsz:=shape_step hp hs hk hd
 obtain ⟨fin,hfin⟩:∃ fin,fin=foundM rows m k:=⟨_,rfl⟩
 rw [← hfin,goM_nat]
 unfold foundM ownM at hfin
 rw [goM_nat,Int.toNat_natCast] at hfin
 have hf9:=step_code m (insM rows m k) k
 generalize stepM m (insM rows m k) k=zf at *
 obtain ⟨z,f⟩:=zf
 simp only at kP hsz hfin hf9 ⊢
 have fz:=(shape_fits9 hsz).1
 have kU:=fun (W:World) (hR:RowsAt W a9 cs rows) (t:S4) (h:Vmem W t z)=>l03Stuck_is a9 3 cap rows t z cs W rfl hR h hp hsz
 obtain ⟨own,hown⟩:∃ own:List I3,own=if f=0 then [] else [(f,(k:Int),m.1.getD k 0)]:=⟨_,rfl⟩
 rw [← hown] at hfin
 have HFin:Hid (fin=if stuckM rows z then putB own (14,0,0) else own):=hfin
 have HOwn:Hid (own=if f=0 then [] else [(f,(k:Int),m.1.getD k 0)]):=hown
 clear hfin hown
 obtain ⟨b,off,rfl,hbl,hrow⟩:=id hR
 clear hbl hrow
 have hM:=h
 obtain ⟨⟨j0,_⟩,_⟩:=h
 obtain ⟨l0,_⟩:=shape_parts hs
 have hpc9:=getD_in (shape_bounds hs).1 (by decide) k
 obtain ⟨⟨a0,n0,c0⟩,⟨a1,n1,c1⟩,⟨a2,n2,c2⟩,⟨a3,n3,c3⟩⟩:=s
 simp only at j0
 obtain ⟨rfl,b0,o0,rfl⟩:=some_of_ints j0 l0 (by decide)
 have r1:=ints_at9 j0 (t:=k) hk
 have uA:S4.val ((some ⟨b0,o0,none⟩,3,c0),(a1,n1,c1),(a2,n2,c2),(a3,n3,c3))=.agg #[.slice (some ⟨b0,o0,none⟩) 3 c0,.slice a1 n1 c1,.slice a2 n2 c2,.slice a3 n3 c3]:=rfl
 rw [uA] at kP ⊢
 clear uA j0 l0 hp hs hd
 generalize m.1.getD k 0=pc at *
 have hk3:(k:Int)<3:=by omega
 have bw:Below w.heap.size w (((w.alloc (.cells #[.slice (some ⟨b,off,none⟩) 3 cap] 25)).alloc (.cells #[.slice (some ⟨b0,o0,none⟩) 3 c0,.slice a1 n1 c1,.slice a2 n2 c2,.slice a3 n3 c3] 30)).alloc (.cells #[.slice none 0 0,.slice none 0 0,.slice none 0 0,.slice none 0 0] 30)):=by go_grown
 have pP:Blk (((w.alloc (.cells #[.slice (some ⟨b,off,none⟩) 3 cap] 25)).alloc (.cells #[.slice (some ⟨b0,o0,none⟩) 3 c0,.slice a1 n1 c1,.slice a2 n2 c2,.slice a3 n3 c3] 30)).alloc (.cells #[.slice none 0 0,.slice none 0 0,.slice none 0 0,.slice none 0 0] 30)) w.heap.size 25 [.slice (some ⟨b,off,none⟩) 3 cap]:=blkOld _ (blkOld _ (blkAt _ _ _ rfl))
 have pS:Blk (((w.alloc (.cells #[.slice (some ⟨b,off,none⟩) 3 cap] 25)).alloc (.cells #[.slice (some ⟨b0,o0,none⟩) 3 c0,.slice a1 n1 c1,.slice a2 n2 c2,.slice a3 n3 c3] 30)).alloc (.cells #[.slice none 0 0,.slice none 0 0,.slice none 0 0,.slice none 0 0] 30)) (w.heap.size+1) 30 [.slice (some ⟨b0,o0,none⟩) 3 c0,.slice a1 n1 c1,.slice a2 n2 c2,.slice a3 n3 c3]:=blkOld _ (blkAt _ _ _ (by simp))
 have pR:Blk (((w.alloc (.cells #[.slice (some ⟨b,off,none⟩) 3 cap] 25)).alloc (.cells #[.slice (some ⟨b0,o0,none⟩) 3 c0,.slice a1 n1 c1,.slice a2 n2 c2,.slice a3 n3 c3] 30)).alloc (.cells #[.slice none 0 0,.slice none 0 0,.slice none 0 0,.slice none 0 0] 30)) (w.heap.size+2) 30 [.slice none 0 0,.slice none 0 0,.slice none 0 0,.slice none 0 0]:=blkAt _ _ _ (by simp)
 have hW1:w.heap.size+3≤(((w.alloc (.cells #[.slice (some ⟨b,off,none⟩) 3 cap] 25)).alloc (.cells #[.slice (some ⟨b0,o0,none⟩) 3 c0,.slice a1 n1 c1,.slice a2 n2 c2,.slice a3 n3 c3] 30)).alloc (.cells #[.slice none 0 0,.slice none 0 0,.slice none 0 0,.slice none 0 0] 30)).heap.size:=by simp
 go_enter Tryd.func71,Tryd.ntmps71
 go_wp2_with fail
 generalize (((w.alloc (.cells #[.slice (some ⟨b,off,none⟩) 3 cap] 25)).alloc (.cells #[.slice (some ⟨b0,o0,none⟩) 3 c0,.slice a1 n1 c1,.slice a2 n2 c2,.slice a3 n3 c3] 30)).alloc (.cells #[.slice none 0 0,.slice none 0 0,.slice none 0 0,.slice none 0 0] 30))=W1 at *
 have kPx:=kP W1 (hR.below bw) (hM.below bw)
 go_wp2_with (first | refine wpList_load_blk rfl 25 _ rfl w.heap.size rfl pP _ Tryd.underlying25 rfl (by kernel_rfl) ?_ | refine wpList_load_blk rfl 30 _ rfl (w.heap.size+1) rfl pS _ Tryd.underlying30 rfl (by kernel_rfl) ?_)
 refine kPx.mono ?_
 rintro e w2 ⟨⟨⟨⟨t0a,t0n,t0c⟩,⟨t1a,t1n,t1c⟩,⟨t2a,t2n,t2c⟩,⟨t3a,t3n,t3c⟩⟩,rfl,hO⟩,hb⟩
 replace hO:=hO.lowerB (B':=w.heap.size+3) hW1
 replace bw:=bel_trans bw hb
 replace pP:=pP.below hb
 replace pS:=pS.below hb
 replace pR:=pR.below hb
 have hsz2:w.heap.size+3≤w2.heap.size:=Nat.le_trans hW1 hb.size
 clear hb kPx kP hW1
 have ha:Below w2.heap.size w2 ((w2.alloc (.cells #[.slice t0a t0n t0c,.slice t1a t1n t1c,.slice t2a t2n t2c,.slice t3a t3n t3c] 30)).alloc (.cells #[] 40)):=by go_grown
 have pX:Blk ((w2.alloc (.cells #[.slice t0a t0n t0c,.slice t1a t1n t1c,.slice t2a t2n t2c,.slice t3a t3n t3c] 30)).alloc (.cells #[] 40)) w2.heap.size 30 [.slice t0a t0n t0c,.slice t1a t1n t1c,.slice t2a t2n t2c,.slice t3a t3n t3c]:=blkOld _ (blkAt _ _ _ rfl)
 have oO:((w2.alloc (.cells #[.slice t0a t0n t0c,.slice t1a t1n t1c,.slice t2a t2n t2c,.slice t3a t3n t3c] 30)).alloc (.cells #[] 40)).ownsRow w.heap.size 40 3 (.slice (some ⟨w2.heap.size+1,0,none⟩) 0 0) 0 []:=by
  have h9:=own_emptyB (w2.alloc (.cells #[.slice t0a t0n t0c,.slice t1a t1n t1c,.slice t2a t2n t2c,.slice t3a t3n t3c] 30)) 40 3 w.heap.size (by simp;omega)
  simpa using h9
 replace bw:=bel_trans bw ha
 replace hO:=hO.below ha
 replace pP:=pP.below ha
 replace pS:=pS.below ha
 replace pR:=pR.below ha
 replace r1:=cells_kept bw _ _ r1
 have uX:S4.val ((t0a,t0n,t0c),(t1a,t1n,t1c),(t2a,t2n,t2c),(t3a,t3n,t3c))=.agg #[.slice t0a t0n t0c,.slice t1a t1n t1c,.slice t2a t2n t2c,.slice t3a t3n t3c]:=rfl
 rw [uX]
 clear ha hsz
 by_cases hf:f=0
 ·subst hf
  have HO2:Hid (own=[]):=by rw [Hid,HOwn.out];rfl
  have hfit:∀ x ∈ ([]:List I3),I3.fits x:=by simp
  have kUx:=kU _ (hR.below bw) _ (hO.mem fz)
  rw [uX] at kUx
  clear HOwn hf9 pS r1 hM hR kU uX
  cases hst:stuckM rows z
  ·rw [hst] at kUx
   have HF:Hid (fin=[]):=by rw [Hid,HFin.out,hst,HO2.out];rfl
   clear hst HFin HO2
   go_wp2_with (first | refine wpList_load_blk rfl 25 _ rfl w.heap.size rfl pP _ Tryd.underlying25 rfl (by kernel_rfl) ?_ | refine wpList_load_blk rfl 30 _ rfl w2.heap.size rfl pX _ Tryd.underlying30 rfl (by kernel_rfl) ?_)
   refine kUx.mono ?_
   rintro e u1 ⟨rfl,hb⟩
   replace bw:=bel_trans bw hb
   replace hO:=hO.below hb
   replace oO:=owns_low oO hb
   replace pP:=pP.below hb
   replace pR:=pR.below hb
   replace pX:=pX.below hb
   clear hb
   clear kUx
   have q3:u1.ownsRow w.heap.size 40 3 (.slice (some ⟨(w2.heap.size+1),0,none⟩) 0 0) fin.length (flat fin):=by rw [HF.out];exact oO
   clear oO HF
   go_wp2_with (first | refine wpList_load_blk rfl 30 _ rfl w2.heap.size rfl pX _ Tryd.underlying30 rfl (by kernel_rfl) ?_ | refine wpList_store_blk rfl 30 _ _ rfl (w.heap.size+2) [.slice t0a t0n t0c,.slice t1a t1n t1c,.slice t2a t2n t2c,.slice t3a t3n t3c] rfl rfl pR (by kernel_rfl) rfl rfl ?_)
   intro u2 pR2 g2
   have q2:=q3.kept g2 (own_apart_blk q3 pR (by decide))
   clear q3
   have hO2:=(hO.kept9 g2 pR (by decide)).lowerB (B':=w.heap.size) (by omega)
   have bw2:=bw.grown g2 bw.size (fun k e=>by cases e;omega)
   clear g2 hO bw
   go_wp2_with fail
   refine bodyPost_ret (results_blk2 Tryd.results71 _ _ _ _ _ _ rfl pR2.out Tryd.underlying30 rfl (by kernel_rfl)) rfl ?_
   exact ⟨⟨((t0a,t0n,t0c),(t1a,t1n,t1c),(t2a,t2n,t2c),(t3a,t3n,t3c)),_,rfl,hO2,q2⟩,bw2⟩
  ·rw [hst] at kUx
   have HF:Hid (fin=putB [] (14,0,0)):=by rw [Hid,HFin.out,hst,HO2.out];rfl
   clear hst HFin HO2
   go_wp2_with (first | refine wpList_load_blk rfl 25 _ rfl w.heap.size rfl pP _ Tryd.underlying25 rfl (by kernel_rfl) ?_ | refine wpList_load_blk rfl 30 _ rfl w2.heap.size rfl pX _ Tryd.underlying30 rfl (by kernel_rfl) ?_)
   refine kUx.mono ?_
   rintro e u1 ⟨rfl,hb⟩
   replace bw:=bel_trans bw hb
   replace hO:=hO.below hb
   replace oO:=owns_low oO hb
   replace pP:=pP.below hb
   replace pR:=pR.below hb
   replace pX:=pX.below hb
   clear hb
   clear kUx
   have kPut:=l04Put_is (w2.heap.size+1) 0 0 0 [] (14,0,0) u1 (instrs_own oO rfl hfit) (by decide)
   unfold I3.val at kPut
   simp only at kPut
   go_wp2_with fail
   refine kPut.mono ?_
   rintro e u3 ⟨⟨v3,rfl,q3⟩,hb⟩
   replace q3:=own_lowerB (B':=w.heap.size) q3 bw.size
   rw [← HF.out] at q3
   replace bw:=bel_trans bw hb
   replace hO:=hO.below hb
   replace pP:=pP.below hb
   replace pR:=pR.below hb
   replace pX:=pX.below hb
   clear hb
   clear kPut oO HF
   go_wp2_with (first | refine wpList_load_blk rfl 30 _ rfl w2.heap.size rfl pX _ Tryd.underlying30 rfl (by kernel_rfl) ?_ | refine wpList_store_blk rfl 30 _ _ rfl (w.heap.size+2) [.slice t0a t0n t0c,.slice t1a t1n t1c,.slice t2a t2n t2c,.slice t3a t3n t3c] rfl rfl pR (by kernel_rfl) rfl rfl ?_)
   intro u2 pR2 g2
   have q2:=q3.kept g2 (own_apart_blk q3 pR (by decide))
   clear q3
   have hO2:=(hO.kept9 g2 pR (by decide)).lowerB (B':=w.heap.size) (by omega)
   have bw2:=bw.grown g2 bw.size (fun k e=>by cases e;omega)
   clear g2 hO bw
   go_wp2_with fail
   refine bodyPost_ret (results_blk2 Tryd.results71 _ _ _ _ _ _ rfl pR2.out Tryd.underlying30 rfl (by kernel_rfl)) rfl ?_
   exact ⟨⟨((t0a,t0n,t0c),(t1a,t1n,t1c),(t2a,t2n,t2c),(t3a,t3n,t3c)),_,rfl,hO2,q2⟩,bw2⟩
 ·have hfn:(f != 0)=true:=by simp [hf]
  have HO2:Hid (own=[(f,(k:Int),pc)]):=by rw [Hid,HOwn.out,if_neg hf]
  have hfit:∀ x ∈ [(f,(k:Int),pc)],I3.fits x:=fun x hx=>by
   simp only [List.mem_singleton] at hx
   subst hx
   simp only [I3.fits]
   exact ⟨fits_small (by omega) (by omega),fits_small (by omega) (by omega),fits_small (by omega) (by omega)⟩
  have cS0:((w2.alloc (.cells #[.slice t0a t0n t0c,.slice t1a t1n t1c,.slice t2a t2n t2c,.slice t3a t3n t3c] 30)).alloc (.cells #[] 40)).cell? ⟨w.heap.size+1,0,none⟩=some (.slice (some ⟨b0,o0,none⟩) 3 c0):=by simpa using pS.cell 0
  clear HOwn hf9 hM hf pS
  go_wp2_with (at_builtin;refine wpList_append_own _ rfl _ _ 31 rfl w.heap.size 40 i0 (.agg #[.int .i64 0,.int .i64 0,.int .i64 0]) 3 24 Tryd.underlying31 hi hz0 hz1 hz2 rfl (by decide) _ _ _ rfl (oO.alloc _) ⟨w2.heap.size+1+1,0,none⟩ 1 1 [.int .i64 f,.int .i64 (k:Int),.int .i64 pc] rfl rfl ?c1 (three_one _ _ _) ?c3 ?c4 ?c5 ?_)
  case c1=>simpa using cell_three_new ((w2.alloc (.cells #[.slice t0a t0n t0c,.slice t1a t1n t1c,.slice t2a t2n t2c,.slice t3a t3n t3c] 30)).alloc (.cells #[] 40)) (.int .i64 f) (.int .i64 (k:Int)) (.int .i64 pc) 40
  case c3=>unfold maxLen;omega
  case c4=>omega
  case c5=>simp;omega
  intro v9 U q9 g9 _
  have ha:Below ((w2.alloc (.cells #[.slice t0a t0n t0c,.slice t1a t1n t1c,.slice t2a t2n t2c,.slice t3a t3n t3c] 30)).alloc (.cells #[] 40)).heap.size ((w2.alloc (.cells #[.slice t0a t0n t0c,.slice t1a t1n t1c,.slice t2a t2n t2c,.slice t3a t3n t3c] 30)).alloc (.cells #[] 40)) (((w2.alloc (.cells #[.slice t0a t0n t0c,.slice t1a t1n t1c,.slice t2a t2n t2c,.slice t3a t3n t3c] 30)).alloc (.cells #[] 40)).alloc (.cells #[.int .i64 f,.int .i64 (k:Int),.int .i64 pc] 40)):=by go_grown
  have pE:Blk (((w2.alloc (.cells #[.slice t0a t0n t0c,.slice t1a t1n t1c,.slice t2a t2n t2c,.slice t3a t3n t3c] 30)).alloc (.cells #[] 40)).alloc (.cells #[.int .i64 f,.int .i64 (k:Int),.int .i64 pc] 40)) (w2.heap.size+1) 40 []:=blkOld _ (blkAt _ _ _ (by simp))
  have n0:(some (w2.heap.size+1):Option Nat)≠some w.heap.size:=by simp;omega
  have n1:(some (w2.heap.size+1):Option Nat)≠some (w.heap.size+2):=by simp;omega
  have n2:(some (w2.heap.size+1):Option Nat)≠some w2.heap.size:=by simp
  replace g9:(((w2.alloc (.cells #[.slice t0a t0n t0c,.slice t1a t1n t1c,.slice t2a t2n t2c,.slice t3a t3n t3c] 30)).alloc (.cells #[] 40)).alloc (.cells #[.int .i64 f,.int .i64 (k:Int),.int .i64 pc] 40)).grownBy U (some (w2.heap.size+1)):=g9
  replace pP:=(pP.below ha).kept g9 n0
  replace pR:=(pR.below ha).kept g9 n1
  replace pX:=(pX.below ha).kept g9 n2
  replace hO:=(hO.below ha).kept9 g9 pE (by decide)
  replace bw:=(bel_trans bw ha).grown g9 (bel_trans bw ha).size (fun j hj=>by cases hj;omega)
  obtain ⟨og,oc,rfl⟩:=own_someB q9 (by omega)
  have oO2:U.ownsRow w.heap.size 40 3 (.slice (some ⟨og,0,none⟩) 1 oc) 1 (flat [(f,(k:Int),pc)]):=q9
  clear oO q9 g9 ha pE n0 n1 n2 r1 cS0
  have oO:=oO2
  clear oO2
  have kUx:=kU _ (hR.below bw) _ (hO.mem fz)
  rw [uX] at kUx
  clear hR kU uX
  cases hst:stuckM rows z
  ·rw [hst] at kUx
   have HF:Hid (fin=[(f,(k:Int),pc)]):=by rw [Hid,HFin.out,hst,HO2.out];rfl
   clear hst HFin HO2
   go_wp2_with (first | refine wpList_load_blk rfl 25 _ rfl w.heap.size rfl pP _ Tryd.underlying25 rfl (by kernel_rfl) ?_ | refine wpList_load_blk rfl 30 _ rfl w2.heap.size rfl pX _ Tryd.underlying30 rfl (by kernel_rfl) ?_)
   refine kUx.mono ?_
   rintro e u1 ⟨rfl,hb⟩
   replace bw:=bel_trans bw hb
   replace hO:=hO.below hb
   replace oO:=owns_low oO hb
   replace pP:=pP.below hb
   replace pR:=pR.below hb
   replace pX:=pX.below hb
   clear hb
   clear kUx
   have q3:u1.ownsRow w.heap.size 40 3 (.slice (some ⟨og,0,none⟩) 1 oc) fin.length (flat fin):=by rw [HF.out];exact oO
   clear oO HF
   go_wp2_with (first | refine wpList_load_blk rfl 30 _ rfl w2.heap.size rfl pX _ Tryd.underlying30 rfl (by kernel_rfl) ?_ | refine wpList_store_blk rfl 30 _ _ rfl (w.heap.size+2) [.slice t0a t0n t0c,.slice t1a t1n t1c,.slice t2a t2n t2c,.slice t3a t3n t3c] rfl rfl pR (by kernel_rfl) rfl rfl ?_)
   intro u2 pR2 g2
   have q2:=q3.kept g2 (own_apart_blk q3 pR (by decide))
   clear q3
   have hO2:=(hO.kept9 g2 pR (by decide)).lowerB (B':=w.heap.size) (by omega)
   have bw2:=bw.grown g2 bw.size (fun k e=>by cases e;omega)
   clear g2 hO bw
   go_wp2_with fail
   refine bodyPost_ret (results_blk2 Tryd.results71 _ _ _ _ _ _ rfl pR2.out Tryd.underlying30 rfl (by kernel_rfl)) rfl ?_
   exact ⟨⟨((t0a,t0n,t0c),(t1a,t1n,t1c),(t2a,t2n,t2c),(t3a,t3n,t3c)),_,rfl,hO2,q2⟩,bw2⟩
  ·rw [hst] at kUx
   have HF:Hid (fin=putB [(f,(k:Int),pc)] (14,0,0)):=by rw [Hid,HFin.out,hst,HO2.out];rfl
   clear hst HFin HO2
   go_wp2_with (first | refine wpList_load_blk rfl 25 _ rfl w.heap.size rfl pP _ Tryd.underlying25 rfl (by kernel_rfl) ?_ | refine wpList_load_blk rfl 30 _ rfl w2.heap.size rfl pX _ Tryd.underlying30 rfl (by kernel_rfl) ?_)
   refine kUx.mono ?_
   rintro e u1 ⟨rfl,hb⟩
   replace bw:=bel_trans bw hb
   replace hO:=hO.below hb
   replace oO:=owns_low oO hb
   replace pP:=pP.below hb
   replace pR:=pR.below hb
   replace pX:=pX.below hb
   clear hb
   clear kUx
   have kPut:=l04Put_is og 0 1 oc [(f,(k:Int),pc)] (14,0,0) u1 (instrs_own oO rfl hfit) (by decide)
   unfold I3.val at kPut
   simp only at kPut
   go_wp2_with fail
   refine kPut.mono ?_
   rintro e u3 ⟨⟨v3,rfl,q3⟩,hb⟩
   replace q3:=own_lowerB (B':=w.heap.size) q3 bw.size
   rw [← HF.out] at q3
   replace bw:=bel_trans bw hb
   replace hO:=hO.below hb
   replace pP:=pP.below hb
   replace pR:=pR.below hb
   replace pX:=pX.below hb
   clear hb
   clear kPut oO HF
   go_wp2_with (first | refine wpList_load_blk rfl 30 _ rfl w2.heap.size rfl pX _ Tryd.underlying30 rfl (by kernel_rfl) ?_ | refine wpList_store_blk rfl 30 _ _ rfl (w.heap.size+2) [.slice t0a t0n t0c,.slice t1a t1n t1c,.slice t2a t2n t2c,.slice t3a t3n t3c] rfl rfl pR (by kernel_rfl) rfl rfl ?_)
   intro u2 pR2 g2
   have q2:=q3.kept g2 (own_apart_blk q3 pR (by decide))
   clear q3
   have hO2:=(hO.kept9 g2 pR (by decide)).lowerB (B':=w.heap.size) (by omega)
   have bw2:=bw.grown g2 bw.size (fun k e=>by cases e;omega)
   clear g2 hO bw
   go_wp2_with fail
   refine bodyPost_ret (results_blk2 Tryd.results71 _ _ _ _ _ _ rfl pR2.out Tryd.underlying30 rfl (by kernel_rfl)) rfl ?_
   exact ⟨⟨((t0a,t0n,t0c),(t1a,t1n,t1c),(t2a,t2n,t2c),(t3a,t3n,t3c)),_,rfl,hO2,q2⟩,bw2⟩


def goesTo (rows:List (List I3)) (ks:List Int) (m:V4):Prop:=(runI rows zeroV [] ks).2.2=0∧(runI rows zeroV [] ks).1=m
theorem runI_snoc (rows:List (List I3)) (k:Int):∀ (ks:List Int) (m:V4) (fs:List I3),(runI rows m fs ks).2.2=0→runI rows m fs (ks++[k])=runI rows (runI rows m fs ks).1 (runI rows m fs ks).2.1 [k]
 | [],m,fs,_=>rfl
 | j::ks,m,fs,h=>by
  by_cases hz:haltM rows m j=0
  ·have e1:∀ l,runI rows m fs (j::l)=runI rows (goM rows m j).1 (fs++ownM rows m j) l:=fun l=>by
    show (if haltM rows m j=0 then _ else _)=_
    rw [if_pos hz]
   rw [e1] at h
   rw [List.cons_append,e1,e1]
   exact runI_snoc rows k ks _ _ h
  ·have e1:runI rows m fs (j::ks)=(m,fs,haltM rows m j):=by
    show (if haltM rows m j=0 then _ else _)=_
    rw [if_neg hz]
   rw [e1] at h
   exact absurd h hz
theorem goesTo.snoc {rows:List (List I3)} {ks:List Int} {m:V4} {k:Nat} (h:goesTo rows ks m) (hk:k<3) (hc:canM rows m k=true):goesTo rows (ks++[(k:Int)]) (stepM m (insM rows m k) k).1:=by
 have hz:haltM rows m (k:Int)=0:=by
  have hd:=(can_parts hc).1
  unfold haltM
  rw [if_pos (by omega),Int.toNat_natCast]
  simp [hd,hc]
 have e:=runI_snoc rows (k:Int) ks zeroV [] h.1
 rw [h.2] at e
 have e2:runI rows m (runI rows zeroV [] ks).2.1 [(k:Int)]=((goM rows m k).1,(runI rows zeroV [] ks).2.1++ownM rows m k,0):=by
  show (if haltM rows m k=0 then _ else _)=_
  rw [if_pos hz]
  rfl
 rw [e2] at e
 unfold goesTo
 rw [e,goM_nat]
 exact ⟨rfl,rfl⟩
theorem own_apart_ne {w:World} {B e s n g t:Nat} {v:Value} {xs cs:List Value} (h:w.ownsRow B e s v n xs) (hB:Blk w g t cs) (he:e≠t):v.ownBlock≠some g:=own_ne_blk h hB he
theorem below_growS {p:Nat} {w w':World} {r:Option Nat} (h:w.grownBy w' r) (hr:∀ k,r=some k→p≤k) (hp:p≤w.heap.size):Below p w w':=⟨h.os,h.tape,h.output,h.size,fun k hk=>h.block k (by omega) (fun e=>by have:=hr k e.symm;omega)⟩
theorem own_kept_ltS {w w':World} {b N e s n:Nat} {v:Value} {xs:List Value} {r:Option Nat} (h:w.ownsRow b e s v n xs) (hg:w.grownBy w' r) (hr:∀ j,r=some j→j<N) (hN:N≤b):w'.ownsRow b e s v n xs:=by
 refine h.kept hg ?_
 cases hv:v.ownBlock with
 | none=>exact .inl rfl
 | some j=>exact .inr fun e=>by have h1:=(h.lt j hv).1;have h2:=hr j e.symm;omega
theorem OwnV.kept_ltS {w w':World} {B b N:Nat} {t:S4} {m:V4} {r:Option Nat} (h:OwnV w b t m) (hg:w.grownBy w' r) (hr:∀ j,r=some j→j<N) (hB:B≤b) (hN:N≤b):OwnV w' B t m:=
 ⟨⟨own_lowerB (own_kept_ltS h.1.1 hg hr hN) hB,own_lowerB (own_kept_ltS h.1.2.1 hg hr hN) hB,own_lowerB (own_kept_ltS h.1.2.2.1 hg hr hN) hB,own_lowerB (own_kept_ltS h.1.2.2.2 hg hr hN) hB⟩,h.2⟩
def OnSch (w wr:World) (p:Nat) (cd:Value) (a:Option Addr) (n cap T X5:Nat) (aP:Option Addr) (capP:Nat) (rows:List (List I3)) (t:S4) (m:V4) (v:Value) (ks:List Int):Prop:=
 Src wr p cd T∧Code wr p a n cap∧p<wr.heap.size∧Went p w wr∧Blk wr w.heap.size 25 [.slice aP 3 capP]∧Blk wr X5 30 (vmC t)∧OwnV wr (w.heap.size+1) t m∧Hid (shapeOk m=true)∧wr.ownsRow (w.heap.size+1) 3 1 v ks.length (ks.map (Value.int .i64))∧Hid (goesTo rows ks m)∧w.heap.size<X5∧∃ g c,v=.slice (some ⟨g,0,none⟩) ks.length c
def SchdGot (e:Ending) (w:World) (B:Nat) (rows:List (List I3)):Prop:=∃ (v:Value) (ks:List Int) (m:V4),(∃ g c,v=.slice (some ⟨g,0,none⟩) ks.length c)∧e=.returned v∧w.ownsRow B 3 1 v ks.length (ks.map (Value.int .i64))∧ks.length≤14∧goesTo rows ks m

theorem schedule_any (p T:Nat) (a:Option Addr) (n cap:Nat) (aP:Option Addr) (capP:Nat) (rows:List (List I3)) (w:World) (hS:Src w p (.slice a n cap) T) (hC:Code w p a n cap) (hT:T≤800000) (hok:progOk rows=true)
  (hPr:∀ W,Below p w W→Codes W aP 3 capP rows) :
  Calls Tryd.prog 26 #[.pointer (some ⟨p,0,none⟩),.agg #[.slice aP 3 capP]] w fun e w'=>SchdGot e w' w.heap.size rows∧Below p w w':=by
 obtain ⟨i0,hi9,hz0,hz1,hz2⟩:=info_parts info_int
 have hpw:p<w.heap.size:=hS.lt
 have HOK:Hid (progOk rows=true):=hok
 clear hok
 have hW1:Went p w (w.alloc (.cells #[.slice aP 3 capP] 25)):=(Went.refl p w).alloc _
 have pP:Blk (w.alloc (.cells #[.slice aP 3 capP] 25)) w.heap.size 25 [.slice aP 3 capP]:=blkAt _ _ _ rfl
 have hS1:=hS.alloc (.cells #[.slice aP 3 capP] 25)
 have hC1:=hC.below (hW1.below (Nat.le_of_lt hpw))
 have hsz:(w.alloc (.cells #[.slice aP 3 capP] 25)).heap.size=w.heap.size+1:=by simp
 go_enter Tryd.func26,Tryd.ntmps26
 go_wp2_with fail
 generalize (w.alloc (.cells #[.slice aP 3 capP] 25))=W1 at *
 refine (specNewVm_is W1).mono ?_
 rintro e w2 ⟨⟨t0,rfl,hO⟩,hb⟩
 obtain ⟨⟨a0,n0,k0⟩,⟨a1,n1,k1⟩,⟨a2,n2,k2⟩,⟨a3,n3,k3⟩⟩:=t0
 have uA:S4.val ((a0,n0,k0),(a1,n1,k1),(a2,n2,k2),(a3,n3,k3))=.agg #[.slice a0 n0 k0,.slice a1 n1 k1,.slice a2 n2 k2,.slice a3 n3 k3]:=rfl
 rw [uA]
 rw [hsz] at hO
 have hp1:p<W1.heap.size:=by omega
 have hW2:=hW1.trans (Went.of_below hb)
 have pP2:=pP.below hb
 have hS2:=hS1.belowD hb
 have hC2:=hC1.below (hb.mono (Nat.le_of_lt hp1))
 have hp2:p<w2.heap.size:=Nat.lt_of_lt_of_le hp1 hb.size
 have hw2:w.heap.size<w2.heap.size:=pP2.lt
 clear hb hW1 pP hS1 hC1 hp1 uA hsz
 have bA:Below w2.heap.size w2 ((w2.alloc (.cells #[.slice a0 n0 k0,.slice a1 n1 k1,.slice a2 n2 k2,.slice a3 n3 k3] 30)).alloc (.cells #[] 3)):=by go_grown
 have pX:Blk ((w2.alloc (.cells #[.slice a0 n0 k0,.slice a1 n1 k1,.slice a2 n2 k2,.slice a3 n3 k3] 30)).alloc (.cells #[] 3)) w2.heap.size 30 [.slice a0 n0 k0,.slice a1 n1 k1,.slice a2 n2 k2,.slice a3 n3 k3]:=blkOld _ (blkAt _ _ _ rfl)
 have q:((w2.alloc (.cells #[.slice a0 n0 k0,.slice a1 n1 k1,.slice a2 n2 k2,.slice a3 n3 k3] 30)).alloc (.cells #[] 3)).ownsRow (w.heap.size+1) 3 1 (.slice (some ⟨w2.heap.size+1,0,none⟩) 0 0) 0 []:=by
  have h9:=own_emptyB (w2.alloc (.cells #[.slice a0 n0 k0,.slice a1 n1 k1,.slice a2 n2 k2,.slice a3 n3 k3] 30)) 3 1 (w.heap.size+1) (by simp;omega)
  simpa using h9
 have hWay:OnSch w ((w2.alloc (.cells #[.slice a0 n0 k0,.slice a1 n1 k1,.slice a2 n2 k2,.slice a3 n3 k3] 30)).alloc (.cells #[] 3)) p (.slice a n cap) a n cap T w2.heap.size aP capP rows ((a0,n0,k0),(a1,n1,k1),(a2,n2,k2),(a3,n3,k3)) zeroV (.slice (some ⟨w2.heap.size+1,0,none⟩) 0 0) []:=⟨hS2.belowD bA,hC2.below (bA.mono (Nat.le_of_lt hp2)),by simp;omega,hW2.trans (Went.of_below bA),pP2.below bA,pX,hO.below bA,zero_shape,q,⟨rfl,rfl⟩,hw2,_,_,rfl⟩
 clear bA pX hS2 hC2 hW2 pP2 hO q
 go_wp2_with fail
 generalize ((w2.alloc (.cells #[.slice a0 n0 k0,.slice a1 n1 k1,.slice a2 n2 k2,.slice a3 n3 k3] 30)).alloc (.cells #[] 3))=W3 at *
 generalize w2.heap.size+1=g0 at *
 generalize w2.heap.size=X5 at *
 obtain ⟨hSr,hCd,hpU,hWn,pP,pX,hO,HS,q,HG,hX5,_⟩:=hWay
 refine (next_any p T a n cap 14 W3 hSr hCd (by omega) (by omega)).mono ?_
 rintro e w4 ⟨⟨v,hv,rfl⟩,hSr4,hst⟩
 have hWay:OnSch w w4 p (.slice a n cap) a n cap (T+3) X5 aP capP rows ((a0,n0,k0),(a1,n1,k1),(a2,n2,k2),(a3,n3,k3)) zeroV (.slice (some ⟨g0,0,none⟩) 0 0) []:=⟨hSr4,hCd.went hst (Nat.le_of_lt hpU),Nat.lt_of_lt_of_le hpU hst.size,hWn.trans hst,pP.went hst (by omega),pX.went hst (by omega),hO.went hst (by omega),HS,owns_wn q hst (by omega),HG,hX5,_,_,rfl⟩
 have hv14:v≤14:=by omega
 clear hSr hCd hpU hWn pP pX hO HS hSr4 hst hv q HG
 go_wp2_with fail
 go_loopw [6,7] (fun so si wr=>∃ (i TT:Nat) (t:S4) (m:V4) (ks:List Int) (vo:Value),vo=so∧si=.int .i64 i∧i≤14∧TT≤T+3+(14 - i)*3∧ks.length+i≤14∧OnSch w wr p (.slice a n cap) a n cap TT X5 aP capP rows t m vo ks) (fun _ si _=>(intOf si).toNat)
 case atStart=>exact ⟨v,T+3,_,_,[],_,rfl,rfl,hv14,by omega,by simpa using hv14,hWay⟩
 case round =>
  clear hWay hv14
  obtain ⟨i,TT,t,m,ks,so,rfl,rfl,hi,hTT,hki,hSr,hCd,hpU,hWn,pP,pX,hO,HS,q,HG,hX5,hsm⟩:=hrel
  have HSM:Hid (∃ g c,so=.slice (some ⟨g,0,none⟩) ks.length c):=hsm
  clear hsm
  have hpX:p≠X5:=by omega
  obtain ⟨⟨a0,n0,k0⟩,⟨a1,n1,k1⟩,⟨a2,n2,k2⟩,⟨a3,n3,k3⟩⟩:=t
  unfold vmC at pX
  simp only at pX
  have HE:Hid (∀ W,Below wr.heap.size wr W→∀ v9:Value,v9=so→SchdGot (.returned v9) W w.heap.size rows∧Below p w W):=fun W b v9 e9=>⟨⟨v9,ks,m,by rw [e9];exact HSM.out,rfl,by rw [e9];exact own_lowerB (owns_below q b) (by omega),by omega,HG.out⟩,(hWn.trans (Went.of_below b)).below (Nat.le_of_lt hpw)⟩
  by_cases hi0:i=0
  ·subst hi0
   have hE:=HE.out wr (Below.refl _ _) _ rfl
   clear hSr hCd hWn hO HS pP HE q HG pX
   go_wp2_with fail
   go_ret
   exact hE
  ·have hip:(0:Int)<(i:Int):=by omega
   obtain ⟨_,cs,hR⟩:=(hPr wr (hWn.below (Nat.le_of_lt hpw))).rowsAt HOK.out
   have hM:=hO.mem (shape_fits9 HS.out).1
   have kE:=l03Enabled_is aP 3 capP rows _ m cs wr rfl hR hM HOK.out HS.out
   have uA:S4.val ((a0,n0,k0),(a1,n1,k1),(a2,n2,k2),(a3,n3,k3))=.agg #[.slice a0 n0 k0,.slice a1 n1 k1,.slice a2 n2 k2,.slice a3 n3 k3]:=rfl
   rw [uA] at kE
   clear uA hM hR
   go_wp2_with (first | refine wpList_load_blk rfl 25 _ rfl w.heap.size rfl pP _ Tryd.underlying25 rfl (by kernel_rfl) ?_ | refine wpList_load_blk rfl 30 _ rfl X5 rfl pX _ Tryd.underlying30 rfl (by kernel_rfl) ?_)
   refine kE.mono ?_
   rintro e w5 ⟨⟨⟨la,ll,lc⟩,rfl,hLi⟩,hb⟩
   clear kE
   have hl:(enabM rows m 3).length=ll:=hLi.ints.1
   by_cases hL0:ll=0
   ·subst hL0
    have hE:=HE.out w5 hb _ rfl
    clear hSr hCd hWn hO HS pP HE q HG pX hLi hl hb
    go_wp2_with fail
    go_ret
    exact hE
   have hwr:w.heap.size+1≤wr.heap.size:=pP.lt
   replace hSr:=hSr.belowD hb
   replace hCd:=hCd.below (hb.mono (Nat.le_of_lt hpU))
   replace hWn:=hWn.trans (Went.of_below hb)
   replace pP:=pP.below hb
   replace pX:=pX.below hb
   replace hO:=hO.below hb
   replace q:=owns_below q hb
   have hLi2:OwnI w5 (w.heap.size+1) (la,ll,lc) (enabM rows m 3):=own_lower hLi hwr
   replace hpU:p<w5.heap.size:=Nat.lt_of_lt_of_le hpU hb.size
   clear hb hLi HE hwr
   have hLz:((ll:Int) == 0)=false:=by simp;omega
   have hL3:ll≤3:=by rw [← hl];exact enabM_len rows m 3
   obtain ⟨lg,lc2,hsl,_,_⟩:=hLi2.some9 hl (by omega)
   cases hsl
   have HAT:Hid (∀ j,j<ll→∃ k:Nat,(enabM rows m 3).getD j 0=k∧k<3∧canM rows m k=true):=fun j hj=>enab_at (by omega)
   clear hl
   obtain ⟨es,hes⟩:∃ es,es=enabM rows m 3:=⟨_,rfl⟩
   rw [← hes] at HAT hLi2
   clear hes
   go_wp2_with fail
   refine (next_any p TT a n cap (ll:Int) w5 hSr hCd (by omega) (by omega)).mono ?_
   rintro e w6 ⟨⟨v,hv,rfl⟩,hSn,hst⟩
   have hvl:v<ll:=by omega
   have hvi:(v:Int)<(ll:Int):=by omega
   have hv0:(0:Int)≤(v:Int):=by omega
   obtain ⟨kk,hkk,hk3,hcan⟩:=HAT.out v hvl
   have HCN:Hid (canM rows m kk=true):=hcan
   replace hSr:=hSn
   replace hCd:=hCd.went hst (Nat.le_of_lt hpU)
   replace hpU:p<w6.heap.size:=Nat.lt_of_lt_of_le hpU hst.size
   replace hWn:=hWn.trans hst
   replace pP:=pP.went hst (by omega)
   replace pX:=pX.went hst (by omega)
   replace hO:=hO.went hst (by omega)
   replace q:=owns_wn q hst (by omega)
   replace hLi2:=hLi2.went hst (by omega)
   have hcv:=hLi2.at9 hvl
   rw [hkk] at hcv
   clear hst hSn hv hcan HAT hkk hLi2 hLz
   obtain ⟨_,cs,hR⟩:=(hPr w6 (hWn.below (Nat.le_of_lt hpw))).rowsAt HOK.out
   have hM:=hO.mem (shape_fits9 HS.out).1
   have hsh:=shape_step HOK.out HS.out hk3 (can_parts HCN.out).1
   have kT:=l03Step_is (cap:=capP) rfl hR hM HOK.out HS.out hk3 (can_parts HCN.out).1
   have HG2:Hid (goesTo rows (ks++[(kk:Int)]) (stepM m (insM rows m kk) kk).1):=HG.out.snoc hk3 HCN.out
   have uA:S4.val ((a0,n0,k0),(a1,n1,k1),(a2,n2,k2),(a3,n3,k3))=.agg #[.slice a0 n0 k0,.slice a1 n1 k1,.slice a2 n2 k2,.slice a3 n3 k3]:=rfl
   rw [uA] at kT
   generalize (stepM m (insM rows m kk) kk).1=mm at *
   generalize (stepM m (insM rows m kk) kk).2=fd at *
   have HS2:Hid (shapeOk mm=true):=hsh
   clear hM hR uA hsh HCN HG HS
   go_wp2_with (first | refine wpList_load_blk rfl 25 _ rfl w.heap.size rfl pP _ Tryd.underlying25 rfl (by kernel_rfl) ?_ | refine wpList_load_blk rfl 30 _ rfl X5 rfl pX _ Tryd.underlying30 rfl (by kernel_rfl) ?_)
   refine kT.mono ?_
   rintro e w7 ⟨⟨⟨⟨b0,m0,q0⟩,⟨b1,m1,q1⟩,⟨b2,m2,q2⟩,⟨b3,m3,q3⟩⟩,rfl,hO2⟩,hb⟩
   have uC:S4.val ((b0,m0,q0),(b1,m1,q1),(b2,m2,q2),(b3,m3,q3))=.agg #[.slice b0 m0 q0,.slice b1 m1 q1,.slice b2 m2 q2,.slice b3 m3 q3]:=rfl
   rw [uC]
   clear uC kT hcv
   have hN6:w.heap.size+1≤w6.heap.size:=pP.lt
   have hqlt:∀ j,so.ownBlock=some j→j<w6.heap.size:=fun j hj=>(q.lt j hj).2
   have bA:Below w7.heap.size w7 (w7.alloc (.cells #[.slice b0 m0 q0,.slice b1 m1 q1,.slice b2 m2 q2,.slice b3 m3 q3] 30)):=by go_grown
   have pY:Blk (w7.alloc (.cells #[.slice b0 m0 q0,.slice b1 m1 q1,.slice b2 m2 q2,.slice b3 m3 q3] 30)) w7.heap.size 30 [.slice b0 m0 q0,.slice b1 m1 q1,.slice b2 m2 q2,.slice b3 m3 q3]:=blkAt _ _ _ rfl
   have b67:=bel_trans hb bA
   replace hSr:=hSr.belowD b67
   replace hCd:=hCd.below (b67.mono (Nat.le_of_lt hpU))
   replace hWn:=hWn.trans (Went.of_below b67)
   replace pP:=pP.below b67
   replace pX:=pX.below b67
   replace q:=owns_below q b67
   replace hO2:=hO2.below bA
   replace hpU:p<(w7.alloc (.cells #[.slice b0 m0 q0,.slice b1 m1 q1,.slice b2 m2 q2,.slice b3 m3 q3] 30)).heap.size:=Nat.lt_of_lt_of_le hpU b67.size
   clear b67 bA hb hO
   go_wp2_with (first | refine wpList_load_blk rfl 30 _ rfl w7.heap.size rfl pY _ Tryd.underlying30 rfl (by kernel_rfl) ?_ | refine wpList_store_blk rfl 30 _ _ rfl X5 [.slice b0 m0 q0,.slice b1 m1 q1,.slice b2 m2 q2,.slice b3 m3 q3] rfl rfl pX (by kernel_rfl) rfl rfl ?_)
   intro w9 pX9 g9
   have hne2:X5≠w.heap.size:=by omega
   replace hSr:=hSr.grown g9 (fun k e=>by cases e;omega)
   replace hCd:=hCd.below (grown_below g9 (show p≤X5 by omega) (Nat.le_of_lt hpU))
   replace hpU:p<w9.heap.size:=Nat.lt_of_lt_of_le hpU g9.size
   replace hWn:=hWn.grown g9 (fun k e=>by cases e;omega)
   replace pP:=pP.kept g9 (fun e=>hne2 (by cases e;rfl))
   replace hO2:=hO2.kept9 g9 pX (by decide)
   replace q:=q.kept g9 (own_apart_blk q pX (by decide))
   have pX:=pX9.out
   clear g9 pX9 pY
   have hln:ks.length≤14:=by omega
   have ha:Below w9.heap.size w9 (w9.alloc (.cells #[.int .i64 (kk:Int)] 3)):=by go_grown
   have hw9:w.heap.size+1≤w9.heap.size:=pP.lt
   go_wp2_with (at_builtin;refine wpList_append_own _ rfl _ _ 27 rfl (w.heap.size+1) 3 i0 (.int .i64 0) 1 8 Tryd.underlying27 hi9 hz0 hz1 hz2 rfl (by decide) _ _ _ rfl (q.alloc _) ⟨w9.heap.size,0,none⟩ 1 1 [.int .i64 (kk:Int)] rfl rfl (cell_one_new _ _ _) (by simp [Value.oneCell']) ?c3 ?c4 ?c5 ?_)
   case c3=>unfold maxLen;omega
   case c4=>omega
   case c5=>simp;omega
   intro v9 wn q9 g9 _
   have hne:∀ j,so.ownBlock=some j→w.heap.size+1≤j:=fun j hj=>(q.lt j hj).1
   have R:wn.ownsRow (w.heap.size+1) 3 1 v9 (ks++[(kk:Int)]).length ((ks++[(kk:Int)]).map (Value.int .i64)):=by
    rw [List.length_append,List.map_append]
    exact q9
   have hsm2:=own_someB R (by rw [List.length_append];simp)
   have hWay:OnSch w wn p (.slice a n cap) a n cap (TT+3) X5 aP capP rows ((b0,m0,q0),(b1,m1,q1),(b2,m2,q2),(b3,m3,q3)) mm v9 (ks++[(kk:Int)]):=⟨(hSr.belowD ha).grown g9 (fun k e=>by have:=hne k e;omega),(hCd.below (ha.mono (Nat.le_of_lt hpU))).below (below_growS g9 (fun k e=>by have:=hne k e;omega) (by have:=ha.size;omega)),Nat.lt_of_lt_of_le hpU (Nat.le_trans ha.size g9.size),(hWn.trans (Went.of_below ha)).grown g9 (fun k e=>by have:=hne k e;omega),(pP.below ha).kept g9 (fun e=>by have:=hne _ e;omega),(pX.below ha).kept g9 (fun e=>own_apart_ne q pX (by decide) e),OwnV.kept_ltS (hO2.below ha) g9 hqlt hN6 (Nat.le_refl _),HS2,R,HG2,hX5,hsm2⟩
   clear q9 g9 R hsm2 hSr hCd hpU hWn pP pX hO2 HS2 HG2 q ha hne hqlt
   go_wp2
   go_roundw
   case rel=>exact ⟨i - 1,TT+3,_,mm,ks++[(kk:Int)],_,rfl,by go_num,by omega,by omega,by rw [List.length_append];simp;omega,hWay⟩
   case measure=>simp [intOf];omega


theorem scheduleDrawn_any (a:Option Addr) (n cap:Nat) (zs:List Int) (aP:Option Addr) (capP:Nat) (rows:List (List I3)) (w:World) (hI:IsRow .u8 w a n cap zs) (hn:n≤1048576) (hP:Codes w aP 3 capP rows) (hok:progOk rows=true) :
  Calls Tryd.prog 7 #[.slice a n cap,.agg #[.slice aP 3 capP]] w fun e w'=>SchdGot e w' w.heap.size rows∧Below w.heap.size w w':=by
 have hCo:=code_of hI hn
 have bw:Below w.heap.size w (w.alloc (.cells #[.slice aP 3 capP] 25)):=by go_grown
 have pP:Blk (w.alloc (.cells #[.slice aP 3 capP] 25)) w.heap.size 25 [.slice aP 3 capP]:=blkAt _ _ _ rfl
 go_enter Tryd.func7,Tryd.ntmps7
 go_wp2_with fail
 have hX:w.heap.size<(w.alloc (.cells #[.slice aP 3 capP] 25)).heap.size:=pP.lt
 generalize (w.alloc (.cells #[.slice aP 3 capP] 25))=W1 at *
 have bw1:=bw
 have cP:W1.cell? ⟨w.heap.size,0,none⟩=some (.slice aP 3 capP):=pP.cell 0
 refine wp_region_held_drew (S:=(fun w'=>w'.cell? ⟨w.heap.size,0,none⟩=some (.slice aP 3 capP))) (by kernel_rfl) cP (fun hS0=>?_)
 refine tkm 0 5 (.slice a n cap) ?_
 refine tkm 2 7 (.agg #[.slice aP 3 capP]) ?_
 refine tkr 1 6 (fun K hK=>?_)
 go_simp
 refine (l00Source_any a n cap W1.drew hn).mono ?_
 rintro e w2 ⟨rfl,hS,hb⟩
 replace hS:Src w2 W1.heap.size (.slice a n cap) 0:=hS
 replace hb:Below W1.heap.size W1 w2:=⟨hb.os,hb.tape,hb.output,hb.size,hb.block⟩
 have hpl:W1.heap.size<w2.heap.size:=hS.lt
 have hCd:Code w2 W1.heap.size a n cap:=by
  obtain ⟨zs',q1,q2,q3,q4⟩:=hCo
  exact ⟨zs',q1.below (bel_trans bw hb),q2,q3,fun x hx h0=>by have:=q4 x hx h0;have:=bw.size;omega⟩
 replace bw:=bel_trans bw hb
 replace pP:=pP.below hb
 have hPr:∀ W,Below W1.heap.size w2 W→Codes W aP 3 capP rows:=fun W h=>(hP.below bw1).below (hb.trans h)
 have cP2:w2.cell? ⟨w.heap.size,0,none⟩=some (.slice aP 3 capP):=pP.cell 0
 go_wp2_with fail
 refine hK.out _ _ cP2 (fun hS1=>?_)
 clear hK
 try simp only [Act.put,tka,tkb,tkc]
 refine tkr 3 8 (fun K hK=>?_)
 go_simp
 refine (schedule_any W1.heap.size 0 a n cap aP capP rows w2 hS hCd (by omega) hok hPr).mono ?_
 rintro e w3 ⟨⟨v,ks,m,hsm,rfl,q,hl,hg⟩,hb3⟩
 have cP3:w3.cell? ⟨w.heap.size,0,none⟩=some (.slice aP 3 capP):=(pP.belowB hb3 (by omega)).cell 0
 have hw2:w.heap.size≤w2.heap.size:=bw.size
 replace bw:Below w.heap.size w w3:=bw.trans (hb3.mono (by omega))
 go_wp2_with fail
 refine hK.out _ _ cP3 (fun hS2=>?_)
 clear hK
 try simp only [Act.put,tka,tkb,tkc]
 refine tkm 4 4 v ?_
 refine wpAnyH_done (by kernel_rfl) ?_ _
 have hG:SchdGot (.returned v) w3 w.heap.size rows:=⟨v,ks,m,hsm,rfl,own_lowerB q hw2,hl,hg⟩
 clear hS hCd hPr pP hS0 hS1 hS2 cP2 cP3 q hsm
 go_wp2_with fail
 go_ret
 exact ⟨hG,bw⟩
end Go.Proofs.YtjgffnlmjmibgaaDoor
