/-
  Joined: FndS.
-/
import Derived.Test.YtgmhhegckcionaaGreatDoorF10
import Derived.Test.YtgmhhegckcionaaGreatDoorF18
import Derived.Test.YtgmhhegckcionaaGreatDoorF21

namespace Go.Proofs.YtgmhhegckcionaaGreatDoor
set_option maxRecDepth 100000
set_option maxHeartbeats 16000000
open Go.RowKit
set_option linter.unusedVariables false
set_option linter.unusedSimpArgs false

def GZ (e:Ending) (w:World) (B:Nat) (z:V4) (fs:List I3):Prop:=∃ (t:S4) (v:Value),e=.returned (.tuple #[t.val,v])∧Z3 w B t z∧w.ownsRow B 103 3 v fs.length (Zn fs)
theorem TU {w:World} {B e s n g t:Nat} {v:Value} {xs cs:List Value} (h:w.ownsRow B e s v n xs) (hB:Blk w g t cs) (he:e≠t):v.ownBlock=none∨v.ownBlock≠some g:=.inr (WE h hB he)
theorem SQ {B e s n:Nat} {v:Value} {xs:List Value} {w w':World} (h:w.ownsRow B e s v n xs) (hb:Below w.heap.size w w'):w'.ownsRow B e s v n xs:=by
 refine h.kept (w':=w') (row:=none) ⟨hb.os,hb.tape,hb.output,hb.size,fun k hk _=>hb.block k hk⟩ ?_
 cases v.ownBlock with
 | none=>exact .inl rfl
 | some x=>exact .inr (by simp)
theorem Sv (rows:List (List I3)) (m:V4) (k:Nat):goM rows m (k:Int)=ZQ m (Xa rows m k) k:=by unfold goM;rw [Int.toNat_natCast]
theorem GM (m:V4) (x:I3) (k:Nat):(ZQ m x k).2=0∨(ZQ m x k).2=12∨(ZQ m x k).2=13:=by
 unfold ZQ
 repeat' split
 all_goals simp
theorem QC {w:World} {B g n c:Nat} {xs:List I3} (h:w.ownsRow B 103 3 (.slice (some ⟨g,0,none⟩) n c) n (Zn xs)) (hl:xs.length=n) (hf:∀ x ∈ xs,I3.fits x):Zr w (some ⟨g,0,none⟩) n c xs:=Zr.of_owns h hl hf rfl

theorem M1 {w:World} {a9:Option Addr} {cap:Nat} {cs:Sl × Sl × Sl} {rows:List (List I3)} {s:S4} {m:V4} (hR:Yi w a9 cs rows) (h:Xd w s m) (hp:Zf rows=true) (hs:Zc m=true) {k:Nat} (hk:k<3) (hd:Ya rows m k=false) :
  Calls Tryz.prog 150 #[.agg #[.slice a9 3 cap],s.val,.int .i64 k] w fun e w'=>GZ e w' w.heap.size (goM rows m k).1 (Xx rows m k)∧Below w.heap.size w w':=by
 obtain ⟨i0,hi,hz0,hz1,hz2⟩:=info_parts Xp
 have kP:=fun (W:World) (hR:Yi W a9 cs rows) (h:Xd W s m)=>QF (cap:=cap) rfl hR h hp hs hk hd
 have hsz:=Q6 hp hs hk hd
 obtain ⟨fin,hfin⟩:∃ fin,fin=Xx rows m k:=⟨_,rfl⟩
 rw [← hfin,Sv]
 unfold Xx Xg at hfin
 rw [Sv,Int.toNat_natCast] at hfin
 have hf9:=GM m (Xa rows m k) k
 generalize ZQ m (Xa rows m k) k=zf at *
 obtain ⟨z,f⟩:=zf
 simp only at kP hsz hfin hf9 ⊢
 have fz:=(YC hsz).1
 have kU:=fun (W:World) (hR:Yi W a9 cs rows) (t:S4) (h:Xd W t z)=>RJ a9 3 cap rows t z cs W rfl hR h hp hsz
 obtain ⟨own,hown⟩:∃ own:List I3,own=if f=0 then [] else [(f,(k:Int),m.1.getD k 0)]:=⟨_,rfl⟩
 rw [← hown] at hfin
 have HFin:Hid (fin=if YS rows z then YV own (14,0,0) else own):=hfin
 have HOwn:Hid (own=if f=0 then [] else [(f,(k:Int),m.1.getD k 0)]):=hown
 clear hfin hown
 obtain ⟨b,off,rfl,hbl,hrow⟩:=id hR
 clear hbl hrow
 have hM:=h
 obtain ⟨⟨j0,_⟩,_⟩:=h
 obtain ⟨l0,_⟩:=ZS hs
 have hpc9:=VM (Ym hs).1 (by decide) k
 obtain ⟨⟨a0,n0,c0⟩,⟨a1,n1,c1⟩,⟨a2,n2,c2⟩,⟨a3,n3,c3⟩⟩:=s
 simp only at j0
 obtain ⟨rfl,b0,o0,rfl⟩:=ZA j0 l0 (by decide)
 have r1:=YO j0 (t:=k) hk
 have uA:S4.val ((some ⟨b0,o0,none⟩,3,c0),(a1,n1,c1),(a2,n2,c2),(a3,n3,c3))=.agg #[.slice (some ⟨b0,o0,none⟩) 3 c0,.slice a1 n1 c1,.slice a2 n2 c2,.slice a3 n3 c3]:=rfl
 rw [uA] at kP ⊢
 clear uA j0 l0 hp hs hd
 generalize m.1.getD k 0=pc at *
 have hk3:(k:Int)<3:=by omega
 have bw:Below w.heap.size w (((w.alloc (.cells #[.slice (some ⟨b,off,none⟩) 3 cap] 25)).alloc (.cells #[.slice (some ⟨b0,o0,none⟩) 3 c0,.slice a1 n1 c1,.slice a2 n2 c2,.slice a3 n3 c3] 88)).alloc (.cells #[.slice none 0 0,.slice none 0 0,.slice none 0 0,.slice none 0 0] 88)):=by go_grown
 have pP:Blk (((w.alloc (.cells #[.slice (some ⟨b,off,none⟩) 3 cap] 25)).alloc (.cells #[.slice (some ⟨b0,o0,none⟩) 3 c0,.slice a1 n1 c1,.slice a2 n2 c2,.slice a3 n3 c3] 88)).alloc (.cells #[.slice none 0 0,.slice none 0 0,.slice none 0 0,.slice none 0 0] 88)) w.heap.size 25 [.slice (some ⟨b,off,none⟩) 3 cap]:=Zl _ (Zl _ (Zj _ _ _ rfl))
 have pS:Blk (((w.alloc (.cells #[.slice (some ⟨b,off,none⟩) 3 cap] 25)).alloc (.cells #[.slice (some ⟨b0,o0,none⟩) 3 c0,.slice a1 n1 c1,.slice a2 n2 c2,.slice a3 n3 c3] 88)).alloc (.cells #[.slice none 0 0,.slice none 0 0,.slice none 0 0,.slice none 0 0] 88)) (w.heap.size+1) 88 [.slice (some ⟨b0,o0,none⟩) 3 c0,.slice a1 n1 c1,.slice a2 n2 c2,.slice a3 n3 c3]:=Zl _ (Zj _ _ _ (by simp))
 have pR:Blk (((w.alloc (.cells #[.slice (some ⟨b,off,none⟩) 3 cap] 25)).alloc (.cells #[.slice (some ⟨b0,o0,none⟩) 3 c0,.slice a1 n1 c1,.slice a2 n2 c2,.slice a3 n3 c3] 88)).alloc (.cells #[.slice none 0 0,.slice none 0 0,.slice none 0 0,.slice none 0 0] 88)) (w.heap.size+2) 88 [.slice none 0 0,.slice none 0 0,.slice none 0 0,.slice none 0 0]:=Zj _ _ _ (by simp)
 have hW1:w.heap.size+3≤(((w.alloc (.cells #[.slice (some ⟨b,off,none⟩) 3 cap] 25)).alloc (.cells #[.slice (some ⟨b0,o0,none⟩) 3 c0,.slice a1 n1 c1,.slice a2 n2 c2,.slice a3 n3 c3] 88)).alloc (.cells #[.slice none 0 0,.slice none 0 0,.slice none 0 0,.slice none 0 0] 88)).heap.size:=by simp
 go_enter Tryz.func150,Tryz.ntmps150
 go_wp2_with fail
 generalize (((w.alloc (.cells #[.slice (some ⟨b,off,none⟩) 3 cap] 25)).alloc (.cells #[.slice (some ⟨b0,o0,none⟩) 3 c0,.slice a1 n1 c1,.slice a2 n2 c2,.slice a3 n3 c3] 88)).alloc (.cells #[.slice none 0 0,.slice none 0 0,.slice none 0 0,.slice none 0 0] 88))=W1 at *
 have kPx:=kP W1 (hR.below bw) (hM.below bw)
 go_wp2_with (first | refine Zd rfl 25 _ rfl w.heap.size rfl pP _ Tryz.underlying25 rfl (by kernel_rfl) ?_ | refine Zd rfl 88 _ rfl (w.heap.size+1) rfl pS _ Tryz.underlying88 rfl (by kernel_rfl) ?_)
 refine kPx.mono ?_
 rintro e w2 ⟨⟨⟨⟨t0a,t0n,t0c⟩,⟨t1a,t1n,t1c⟩,⟨t2a,t2n,t2c⟩,⟨t3a,t3n,t3c⟩⟩,rfl,hO⟩,hb⟩
 replace hO:=hO.lowerB (B':=w.heap.size+3) hW1
 replace bw:=Zb bw hb
 replace pP:=pP.below hb
 replace pS:=pS.below hb
 replace pR:=pR.below hb
 have hsz2:w.heap.size+3≤w2.heap.size:=Nat.le_trans hW1 hb.size
 clear hb kPx kP hW1
 have ha:Below w2.heap.size w2 ((w2.alloc (.cells #[.slice t0a t0n t0c,.slice t1a t1n t1c,.slice t2a t2n t2c,.slice t3a t3n t3c] 88)).alloc (.cells #[] 103)):=by go_grown
 have pX:Blk ((w2.alloc (.cells #[.slice t0a t0n t0c,.slice t1a t1n t1c,.slice t2a t2n t2c,.slice t3a t3n t3c] 88)).alloc (.cells #[] 103)) w2.heap.size 88 [.slice t0a t0n t0c,.slice t1a t1n t1c,.slice t2a t2n t2c,.slice t3a t3n t3c]:=Zl _ (Zj _ _ _ rfl)
 have oO:((w2.alloc (.cells #[.slice t0a t0n t0c,.slice t1a t1n t1c,.slice t2a t2n t2c,.slice t3a t3n t3c] 88)).alloc (.cells #[] 103)).ownsRow w.heap.size 103 3 (.slice (some ⟨w2.heap.size+1,0,none⟩) 0 0) 0 []:=by
  have h9:=Y4 (w2.alloc (.cells #[.slice t0a t0n t0c,.slice t1a t1n t1c,.slice t2a t2n t2c,.slice t3a t3n t3c] 88)) 103 3 w.heap.size (by simp;omega)
  simpa using h9
 replace bw:=Zb bw ha
 replace hO:=hO.below ha
 replace pP:=pP.below ha
 replace pS:=pS.below ha
 replace pR:=pR.below ha
 replace r1:=Za bw _ _ r1
 have uX:S4.val ((t0a,t0n,t0c),(t1a,t1n,t1c),(t2a,t2n,t2c),(t3a,t3n,t3c))=.agg #[.slice t0a t0n t0c,.slice t1a t1n t1c,.slice t2a t2n t2c,.slice t3a t3n t3c]:=rfl
 rw [uX]
 clear ha hsz
 by_cases hf:f=0
 focus
  subst hf
  have HO2:Hid (own=[]):=by rw [Hid,HOwn.out];rfl
  have hfit:∀ x ∈ ([]:List I3),I3.fits x:=by simp
  have kUx:=kU _ (hR.below bw) _ (hO.mem fz)
  rw [uX] at kUx
  clear HOwn hf9 pS r1 hM hR kU uX
  cases hst:YS rows z
  focus
   rw [hst] at kUx
   have HF:Hid (fin=[]):=by rw [Hid,HFin.out,hst,HO2.out];rfl
   clear hst HFin HO2
   go_wp2_with (first | refine Zd rfl 25 _ rfl w.heap.size rfl pP _ Tryz.underlying25 rfl (by kernel_rfl) ?_ | refine Zd rfl 88 _ rfl w2.heap.size rfl pX _ Tryz.underlying88 rfl (by kernel_rfl) ?_)
   refine kUx.mono ?_
   rintro e u1 ⟨rfl,hb⟩
   replace bw:=Zb bw hb
   replace hO:=hO.below hb
   replace oO:=SQ oO hb
   replace pP:=pP.below hb
   replace pR:=pR.below hb
   replace pX:=pX.below hb
   clear hb
   clear kUx
   have q3:u1.ownsRow w.heap.size 103 3 (.slice (some ⟨(w2.heap.size+1),0,none⟩) 0 0) fin.length (Zn fin):=by rw [HF.out];exact oO
   clear oO HF
  rotate_left
  focus
   rw [hst] at kUx
   have HF:Hid (fin=YV [] (14,0,0)):=by rw [Hid,HFin.out,hst,HO2.out];rfl
   clear hst HFin HO2
   go_wp2_with (first | refine Zd rfl 25 _ rfl w.heap.size rfl pP _ Tryz.underlying25 rfl (by kernel_rfl) ?_ | refine Zd rfl 88 _ rfl w2.heap.size rfl pX _ Tryz.underlying88 rfl (by kernel_rfl) ?_)
   refine kUx.mono ?_
   rintro e u1 ⟨rfl,hb⟩
   replace bw:=Zb bw hb
   replace hO:=hO.below hb
   replace oO:=SQ oO hb
   replace pP:=pP.below hb
   replace pR:=pR.below hb
   replace pX:=pX.below hb
   clear hb
   clear kUx
   have kPut:=TG (w2.heap.size+1) 0 0 0 [] (14,0,0) u1 (QC oO rfl hfit) (by decide)
   unfold I3.val at kPut
   simp only at kPut
   go_wp2_with fail
   refine kPut.mono ?_
   rintro e u3 ⟨⟨v3,rfl,q3⟩,hb⟩
   replace q3:=Xn (B':=w.heap.size) q3 bw.size
   rw [← HF.out] at q3
   replace bw:=Zb bw hb
   replace hO:=hO.below hb
   replace pP:=pP.below hb
   replace pR:=pR.below hb
   replace pX:=pX.below hb
   clear hb
   clear kPut oO HF
 rotate_left 2
 focus
  have hfn:(f != 0)=true:=by simp [hf]
  have HO2:Hid (own=[(f,(k:Int),pc)]):=by rw [Hid,HOwn.out,if_neg hf]
  have hfit:∀ x ∈ [(f,(k:Int),pc)],I3.fits x:=fun x hx=>by
   simp only [List.mem_singleton] at hx
   subst hx
   simp only [I3.fits]
   exact ⟨Yj (by omega) (by omega),Yj (by omega) (by omega),Yj (by omega) (by omega)⟩
  have cS0:((w2.alloc (.cells #[.slice t0a t0n t0c,.slice t1a t1n t1c,.slice t2a t2n t2c,.slice t3a t3n t3c] 88)).alloc (.cells #[] 103)).cell? ⟨w.heap.size+1,0,none⟩=some (.slice (some ⟨b0,o0,none⟩) 3 c0):=by simpa using pS.cell 0
  clear HOwn hf9 hM hf pS
  go_wp2_with (at_builtin;refine wpList_append_own _ rfl _ _ 28 rfl w.heap.size 103 i0 (.agg #[.int .i64 0,.int .i64 0,.int .i64 0]) 3 24 Tryz.underlying28 hi hz0 hz1 hz2 rfl (by decide) _ _ _ rfl (oO.alloc _) ⟨w2.heap.size+1+1,0,none⟩ 1 1 [.int .i64 f,.int .i64 (k:Int),.int .i64 pc] rfl rfl ?c1 (Um _ _ _) ?c3 ?c4 ?c5 ?_)
  case c1=>simpa using Vw ((w2.alloc (.cells #[.slice t0a t0n t0c,.slice t1a t1n t1c,.slice t2a t2n t2c,.slice t3a t3n t3c] 88)).alloc (.cells #[] 103)) (.int .i64 f) (.int .i64 (k:Int)) (.int .i64 pc) 103
  case c3=>unfold maxLen;omega
  case c4=>omega
  case c5=>simp;omega
  intro v9 U q9 g9 _
  have ha:Below ((w2.alloc (.cells #[.slice t0a t0n t0c,.slice t1a t1n t1c,.slice t2a t2n t2c,.slice t3a t3n t3c] 88)).alloc (.cells #[] 103)).heap.size ((w2.alloc (.cells #[.slice t0a t0n t0c,.slice t1a t1n t1c,.slice t2a t2n t2c,.slice t3a t3n t3c] 88)).alloc (.cells #[] 103)) (((w2.alloc (.cells #[.slice t0a t0n t0c,.slice t1a t1n t1c,.slice t2a t2n t2c,.slice t3a t3n t3c] 88)).alloc (.cells #[] 103)).alloc (.cells #[.int .i64 f,.int .i64 (k:Int),.int .i64 pc] 103)):=by go_grown
  have pE:Blk (((w2.alloc (.cells #[.slice t0a t0n t0c,.slice t1a t1n t1c,.slice t2a t2n t2c,.slice t3a t3n t3c] 88)).alloc (.cells #[] 103)).alloc (.cells #[.int .i64 f,.int .i64 (k:Int),.int .i64 pc] 103)) (w2.heap.size+1) 103 []:=Zl _ (Zj _ _ _ (by simp))
  have n0:(some (w2.heap.size+1):Option Nat)≠some w.heap.size:=by simp;omega
  have n1:(some (w2.heap.size+1):Option Nat)≠some (w.heap.size+2):=by simp;omega
  have n2:(some (w2.heap.size+1):Option Nat)≠some w2.heap.size:=by simp
  replace g9:(((w2.alloc (.cells #[.slice t0a t0n t0c,.slice t1a t1n t1c,.slice t2a t2n t2c,.slice t3a t3n t3c] 88)).alloc (.cells #[] 103)).alloc (.cells #[.int .i64 f,.int .i64 (k:Int),.int .i64 pc] 103)).grownBy U (some (w2.heap.size+1)):=g9
  replace pP:=(pP.below ha).kept g9 n0
  replace pR:=(pR.below ha).kept g9 n1
  replace pX:=(pX.below ha).kept g9 n2
  replace hO:=(hO.below ha).kept9 g9 pE (by decide)
  replace bw:=(Zb bw ha).grown g9 (Zb bw ha).size (fun j hj=>by cases hj;omega)
  obtain ⟨og,oc,rfl⟩:=WF q9 (by omega)
  have oO2:U.ownsRow w.heap.size 103 3 (.slice (some ⟨og,0,none⟩) 1 oc) 1 (Zn [(f,(k:Int),pc)]):=q9
  clear oO q9 g9 ha pE n0 n1 n2 r1 cS0
  have oO:=oO2
  clear oO2
  have kUx:=kU _ (hR.below bw) _ (hO.mem fz)
  rw [uX] at kUx
  clear hR kU uX
  cases hst:YS rows z
  focus
   rw [hst] at kUx
   have HF:Hid (fin=[(f,(k:Int),pc)]):=by rw [Hid,HFin.out,hst,HO2.out];rfl
   clear hst HFin HO2
   go_wp2_with (first | refine Zd rfl 25 _ rfl w.heap.size rfl pP _ Tryz.underlying25 rfl (by kernel_rfl) ?_ | refine Zd rfl 88 _ rfl w2.heap.size rfl pX _ Tryz.underlying88 rfl (by kernel_rfl) ?_)
   refine kUx.mono ?_
   rintro e u1 ⟨rfl,hb⟩
   replace bw:=Zb bw hb
   replace hO:=hO.below hb
   replace oO:=SQ oO hb
   replace pP:=pP.below hb
   replace pR:=pR.below hb
   replace pX:=pX.below hb
   clear hb
   clear kUx
   have q3:u1.ownsRow w.heap.size 103 3 (.slice (some ⟨og,0,none⟩) 1 oc) fin.length (Zn fin):=by rw [HF.out];exact oO
   clear oO HF
  rotate_left
  focus
   rw [hst] at kUx
   have HF:Hid (fin=YV [(f,(k:Int),pc)] (14,0,0)):=by rw [Hid,HFin.out,hst,HO2.out];rfl
   clear hst HFin HO2
   go_wp2_with (first | refine Zd rfl 25 _ rfl w.heap.size rfl pP _ Tryz.underlying25 rfl (by kernel_rfl) ?_ | refine Zd rfl 88 _ rfl w2.heap.size rfl pX _ Tryz.underlying88 rfl (by kernel_rfl) ?_)
   refine kUx.mono ?_
   rintro e u1 ⟨rfl,hb⟩
   replace bw:=Zb bw hb
   replace hO:=hO.below hb
   replace oO:=SQ oO hb
   replace pP:=pP.below hb
   replace pR:=pR.below hb
   replace pX:=pX.below hb
   clear hb
   clear kUx
   have kPut:=TG og 0 1 oc [(f,(k:Int),pc)] (14,0,0) u1 (QC oO rfl hfit) (by decide)
   unfold I3.val at kPut
   simp only at kPut
   go_wp2_with fail
   refine kPut.mono ?_
   rintro e u3 ⟨⟨v3,rfl,q3⟩,hb⟩
   replace q3:=Xn (B':=w.heap.size) q3 bw.size
   rw [← HF.out] at q3
   replace bw:=Zb bw hb
   replace hO:=hO.below hb
   replace pP:=pP.below hb
   replace pR:=pR.below hb
   replace pX:=pX.below hb
   clear hb
   clear kPut oO HF
 all_goals
  go_wp2_with (first | refine Zd rfl 88 _ rfl w2.heap.size rfl pX _ Tryz.underlying88 rfl (by kernel_rfl) ?_ | refine Ze rfl 88 _ _ rfl (w.heap.size+2) [.slice t0a t0n t0c,.slice t1a t1n t1c,.slice t2a t2n t2c,.slice t3a t3n t3c] rfl rfl pR (by kernel_rfl) rfl rfl ?_)
  intro u2 pR2 g2
  have q2:=q3.kept g2 (TU q3 pR (by decide))
  clear q3
  have hO2:=(hO.kept9 g2 pR (by decide)).lowerB (B':=w.heap.size) (by omega)
  have bw2:=bw.grown g2 bw.size (fun k e=>by cases e;omega)
  clear g2 hO bw
  go_wp2_with fail
  refine bodyPost_ret (ZF Tryz.results150 _ _ _ _ _ _ rfl pR2.out Tryz.underlying88 rfl (by kernel_rfl)) rfl ?_
  exact ⟨⟨((t0a,t0n,t0c),(t1a,t1n,t1c),(t2a,t2n,t2c),(t3a,t3n,t3c)),_,rfl,hO2,q2⟩,bw2⟩
end Go.Proofs.YtgmhhegckcionaaGreatDoor
