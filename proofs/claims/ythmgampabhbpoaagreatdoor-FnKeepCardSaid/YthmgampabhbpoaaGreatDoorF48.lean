/-
  Joined: FkpW.
-/
import Derived.Test.YthmgampabhbpoaaGreatDoorF47

namespace Go.Proofs.YthmgampabhbpoaaGreatDoor
set_option maxRecDepth 100000
set_option maxHeartbeats 16000000
open Go.RowKit
set_option linter.unusedVariables false
set_option linter.unusedSimpArgs false

theorem memoDrawn_any (a:Option Addr) (n cap:Nat) (zs:List Int) (w:World) (hI:IsRow .u8 w a n cap zs) (hn:n≤1048576) :
  Calls Tryz.prog 6 #[.slice a n cap] w fun e w'=>MemDr e w' w.heap.size∧Below w.heap.size w w':=by
 have bw:Below w.heap.size w (w.alloc (.cells #[.slice none 0 0] 25)):=by go_grown
 have pR:Blk (w.alloc (.cells #[.slice none 0 0] 25)) w.heap.size 25 [.slice none 0 0]:=blkAt _ _ _ rfl
 have hC:=code_of (hI.below bw) hn
 go_enter Tryz.func6,Tryz.ntmps6
 go_wp2_with fail
 generalize (w.alloc (.cells #[.slice none 0 0] 25))=W1 at *
 refine (l00Source_any a n cap W1 hn).mono ?_
 rintro e w1 ⟨rfl,hS1,hb1⟩
 have hC1:=hC.below hb1
 have hl:=pR.lt
 replace bw:=bel8 bw hb1
 replace pR:=pR.below hb1
 go_wp2_with fail
 refine (memo_any _ 0 a n cap _ hS1 hC1 (by omega)).mono ?_
 rintro e w2 ⟨⟨es,v,h1,h2,h3,rfl,hM⟩,hW2⟩
 have hb2:=hW2.below (Nat.le_of_lt hS1.lt)
 have bw2:Below w.heap.size w w2:=bw.trans (hb2.mono (by omega))
 replace pR:=pR.went hW2 (by omega)
 obtain ⟨va,vc,rfl⟩:=hM.slice9
 have hs1:=hS1.lt
 have r0:=pR.cell 0
 have fr0:=pR.frozen 0
 have pZ:=pR.set 0 (.slice va es.length vc)
 simp only [List.set_cons_zero] at pZ
 have z0:=pZ.cell 0
 simp only [List.getElem?_cons_zero] at z0 r0
 have bz:=bw2.setCell (p:=⟨w.heap.size,0,none⟩) (Nat.le_refl _) (.slice va es.length vc)
 have hM9:=(hM.low (p:=⟨w.heap.size,0,none⟩) (show w.heap.size<w1.heap.size by omega) (.slice va es.length vc)).lower (show w.heap.size≤w1.heap.size by omega)
 clear pZ pR hM hW2 hS1 hC1 hC hb2 bw bw2
 go_wp2
 refine bodyPost_ret (by simp [results,Tryz.results6,go_sem,z0];try rfl) rfl ?_
 exact ⟨MemDr.mk9 h1 h2 h3 hM9,bz⟩
theorem kpeM_ok {es:List E3} {ch:List Int} (h1:ch.length≤4096) (h2:memOk es=true) (h3:allIt ch=true):kpeM es ch=keepE es ch∧kpeC es ch=0:=by
 unfold kpeM kpeC
 rw [if_pos ⟨h1,h2,h3⟩,if_neg (by omega),if_pos h2,if_pos h3]
 exact ⟨rfl,rfl⟩
theorem keep_sub9 {es:List E3} (h:∀ e ∈ es,e.fits) (ch:List Int):∀ e ∈ keepE es ch,e.fits:=fun e he=>h e (List.mem_filter.1 he).1
theorem smeB_self {es:List E3} (h:memOk es=true):smeB es es=true:=by
 unfold smeB
 rw [h,decide_eq_true rfl]
 rfl

theorem fnKeep_walk (a0:Option Addr) (len0 cap0:Nat) (z0:List Int) (a1:Option Addr) (len1 cap1:Nat) (z1:List Int) (w:World) (h0:IsRow .u8 w a0 len0 cap0 z0) (h1:IsRow .u8 w a1 len1 cap1 z1) (hV:VmShape w) :
  Calls Tryz.prog 3 #[.slice a0 len0 cap0,.slice a1 len1 cap1] w fun e w'=>e=.returned (.bool true)∧Below w.heap.size w w':=by
 have m0:=h0.len_le
 have m1:=h1.len_le
 unfold maxLen at m0 m1
 by_cases b0:1048576<len0
 ·clear h0 h1
  go_enter Tryz.func3,Tryz.ntmps3
  go_wp2
  go_ret
  exact ⟨rfl,Below.refl _ _⟩
 by_cases b1:1048576<len1
 ·clear h0 h1
  go_enter Tryz.func3,Tryz.ntmps3
  go_wp2
  go_ret
  exact ⟨rfl,Below.refl _ _⟩
 have n0:len0≤1048576:=by omega
 have n1:len1≤1048576:=by omega
 clear m0 m1 b0 b1
 have kA:=memoDrawn_any a0 len0 cap0 z0 w h0 n0
 have kB:=fun W (hb:Below w.heap.size w W)=>itemsDrawn_any a1 len1 cap1 z1 W (h1.below hb) n1
 clear h0 h1
 go_enter Tryz.func3,Tryz.ntmps3
 go_wp2_with fail
 refine kA.mono ?_
 rintro e w1 ⟨⟨es,v,hok,hfit,hes6,rfl,hM⟩,hb⟩
 obtain ⟨ma,mc,rfl⟩:=hM.slice9
 have iM:=hM.ents hfit
 have bw:=hb
 clear kA hb hM
 obtain ⟨mn,hmn⟩:∃ mn,mn=es.length:=⟨_,rfl⟩
 rw [← hmn] at iM ⊢
 have hmn1:mn≤es.length:=by omega
 have hmn2:es.length≤mn:=by omega
 clear hmn
 have bx:Below w1.heap.size w1 (w1.alloc (.cells #[.slice ma mn mc] 25)):=by go_grown
 have g5:(w1.alloc (.cells #[.slice ma mn mc] 25)).cell? ⟨w1.heap.size,0,none⟩=some (.slice ma mn mc):=(blkAt _ _ _ rfl:Blk (w1.alloc (.cells #[.slice ma mn mc] 25)) w1.heap.size 25 [.slice ma mn mc]).cell 0
 replace bw:=bel8 bw bx
 replace iM:=iM.below bx
 clear bx
 go_wp2_with fail
 obtain ⟨X5,hX5⟩:∃ X,X=w1.heap.size:=⟨_,rfl⟩
 rw [← hX5] at g5 ⊢
 clear hX5
 generalize w1.alloc (.cells #[.slice ma mn mc] 25)=W1 at *
 refine (kB _ bw).mono ?_
 rintro e w2 ⟨⟨vb,ys,hly,hoy,rfl,qb⟩,hb⟩
 obtain ⟨ab,cb,rfl⟩:=slice8 qb
 have iL:=ints8 qb
 obtain ⟨yn,hyn⟩:∃ yn,yn=ys.length:=⟨_,rfl⟩
 rw [← hyn] at iL ⊢
 have hyn1:yn≤ys.length:=by omega
 have hyn2:ys.length≤yn:=by omega
 clear hyn
 clear qb kB
 replace bw:=bel8 bw hb
 replace iM:=iM.below hb
 replace g5:=cell8 hb g5
 clear hb
 have aY:allIt ys=true:=List.all_eq_true.2 hoy
 have fY:=allIt_wf aY
 have hyn5:yn≤5:=by omega
 have hV9:∀ W,Below w.heap.size w W→VmShape W:=fun W hb=>hV.below hb
 obtain ⟨eX,eA⟩:=kpeM_ok (es:=es) (ch:=ys) (by omega) hok aY
 have hokX:=keepE_ok hok ys
 obtain ⟨eY,eB⟩:=kpeM_ok (es:=keepE es ys) (ch:=ys) (by omega) hokX aY
 rw [keepE_twice] at eY
 obtain ⟨eZ,eC⟩:=kpeM_ok (es:=es) (ch:=[]) (by simp) hok rfl
 rw [keepE_none] at eZ
 have hfX:=keep_sub9 hfit ys
 have kX:=fun W (hb:Below w.heap.size w W) (iM:Ents W ma mn mc es) (iL:Ints .i64 W ab yn cb ys)=>implKeepEntries_is ma mn mc es ab yn cb ys W iM iL (by omega) fY (hV9 W hb)
 have kW:=fun W (iM:Ents W ma mn mc es) (iL:Ints .i64 W ab yn cb ys)=>specKeepEntries_is ma mn mc es ab yn cb ys W iM iL (by omega) fY
 have kY:=fun W (hb:Below w.heap.size w W) xa xn xc (iX:Ents W xa xn xc (keepE es ys)) (iL:Ints .i64 W ab yn cb ys)=>implKeepEntries_is xa xn xc (keepE es ys) ab yn cb ys W iX iL (by omega) fY (hV9 W hb)
 have kZ:=fun W (hb:Below w.heap.size w W) (iM:Ents W ma mn mc es) za zn zc (iE:Ints .i64 W za zn zc []) (hz:zn≤1048576)=>implKeepEntries_is ma mn mc es za zn zc [] W iM iE hz (fun x hx=>by cases hx) (hV9 W hb)
 rw [eX,eA] at kX kW
 rw [eY,eB] at kY
 rw [eZ,eC] at kZ
 have hss:=smeB_self hokX
 have hsm:=smeB_self hok
 have kSX:=fun W (hb:Below w.heap.size w W) xa xn xc ya yn yc (i1:Ents W xa xn xc (keepE es ys)) (i2:Ents W ya yn yc (keepE es ys))=>implSameMemo_is xa xn xc (keepE es ys) ya yn yc (keepE es ys) W i1 i2 (hV9 W hb)
 have kSM:=fun W (hb:Below w.heap.size w W) xa xn xc ya yn yc (i1:Ents W xa xn xc es) (i2:Ents W ya yn yc es)=>implSameMemo_is xa xn xc es ya yn yc es W i1 i2 (hV9 W hb)
 rw [hss] at kSX
 rw [hsm] at kSM
 have kF:=fun W (hb:Below w.heap.size w W) xa xn xc key (iX:Ents W xa xn xc (keepE es ys)) (hk:key.size≤1048576)=>implFindEntry_is xa xn xc (keepE es ys) key W iX hk (hV9 W hb)
 have HCD:Hid (∀ t,t<mn→fdeC (keepE es ys) (es.getD t e3d).1=if tchB (es.getD t e3d).2.2 ys then 5 else 0):=fun t ht=>by
  have hk:=entOk_key (memOk_ent hok (i:=t) (by omega))
  unfold fdeC
  rw [if_neg (by omega),if_pos hokX,isE_keep hok ys (by omega)]
  cases tchB (es.getD t e3d).2.2 ys<;>simp
 have HKN:Hid (∀ t,t<mn→(keepE (es.take (t+1)) ys).length=if tchB (es.getD t e3d).2.2 ys then (keepE (es.take t) ys).length else (keepE (es.take t) ys).length+1):=fun t ht=>by
  rw [keep_snoc9 (by omega)]
  split
  ·rfl
  ·rw [List.length_append];rfl
 clear eX eA eY eB eZ eC hss hsm aY hoy hV
 generalize hKE:keepE es ys=kx at *
 go_wp2_with fail
 refine (kX _ bw iM iL).mono ?_
 rintro e w3 ⟨⟨v,rfl,hM⟩,hb⟩
 obtain ⟨Xa,Xc,rfl⟩:=hM.slice9
 have iX:=hM.ents hfX
 clear hM
 replace bw:=bel8 bw hb
 replace iM:=iM.below hb
 replace iL:=iL.below hb
 replace g5:=cell8 hb g5
 clear hb
 obtain ⟨Xn,hXn⟩:∃ n,n=kx.length:=⟨_,rfl⟩
 rw [← hXn] at iX ⊢
 have hXn1:Xn≤kx.length:=by omega
 have hXn2:kx.length≤Xn:=by omega
 clear hXn
 have bx:Below w3.heap.size w3 (w3.alloc (.cells #[.slice Xa Xn Xc] 25)):=by go_grown
 have g7:(w3.alloc (.cells #[.slice Xa Xn Xc] 25)).cell? ⟨w3.heap.size,0,none⟩=some (.slice Xa Xn Xc):=(blkAt _ _ _ rfl:Blk (w3.alloc (.cells #[.slice Xa Xn Xc] 25)) w3.heap.size 25 [.slice Xa Xn Xc]).cell 0
 replace bw:=bel8 bw bx
 replace iM:=iM.below bx
 replace iL:=iL.below bx
 replace iX:=iX.below bx
 replace g5:=cell8 bx g5
 clear bx
 obtain ⟨X7,hX7⟩:∃ X,X=w3.heap.size:=⟨_,rfl⟩
 rw [← hX7] at g7
 have kW9:=kW _ iM iL
 go_wp2_with fail
 rw [← hX7]
 clear hX7
 generalize w3.alloc (.cells #[.slice Xa Xn Xc] 25)=U3 at *
 refine kW9.mono ?_
 rintro e w4 ⟨⟨v,rfl,hM⟩,hb⟩
 obtain ⟨Wa,Wc,rfl⟩:=hM.slice9
 have iW:=hM.ents hfX
 clear hM kW9
 replace bw:=bel8 bw hb
 replace iM:=iM.below hb
 replace iL:=iL.below hb
 replace iX:=iX.below hb
 replace g5:=cell8 hb g5
 replace g7:=cell8 hb g7
 clear hb
 obtain ⟨Wn,hWn⟩:∃ n,n=kx.length:=⟨_,rfl⟩
 rw [← hWn] at iW ⊢
 have hWn1:Wn≤kx.length:=by omega
 have hWn2:kx.length≤Wn:=by omega
 clear hWn
 have bx:Below w4.heap.size w4 (w4.alloc (.cells #[.slice Wa Wn Wc] 25)):=by go_grown
 have g9:(w4.alloc (.cells #[.slice Wa Wn Wc] 25)).cell? ⟨w4.heap.size,0,none⟩=some (.slice Wa Wn Wc):=(blkAt _ _ _ rfl:Blk (w4.alloc (.cells #[.slice Wa Wn Wc] 25)) w4.heap.size 25 [.slice Wa Wn Wc]).cell 0
 replace bw:=bel8 bw bx
 replace iM:=iM.below bx
 replace iL:=iL.below bx
 replace iX:=iX.below bx
 replace iW:=iW.below bx
 replace g5:=cell8 bx g5
 replace g7:=cell8 bx g7
 clear bx
 obtain ⟨X9,hX9⟩:∃ X,X=w4.heap.size:=⟨_,rfl⟩
 rw [← hX9] at g9
 go_wp2_with fail
 rw [← hX9]
 clear hX9
 generalize w4.alloc (.cells #[.slice Wa Wn Wc] 25)=U4 at *
 refine (kY _ bw Xa Xn Xc iX iL).mono ?_
 rintro e w5 ⟨⟨v,rfl,hM⟩,hb⟩
 obtain ⟨Ya,Yc,rfl⟩:=hM.slice9
 have iY:=hM.ents hfX
 clear hM
 replace bw:=bel8 bw hb
 replace iM:=iM.below hb
 replace iL:=iL.below hb
 replace iX:=iX.below hb
 replace iW:=iW.below hb
 replace g5:=cell8 hb g5
 replace g7:=cell8 hb g7
 replace g9:=cell8 hb g9
 clear hb
 obtain ⟨Yn,hYn⟩:∃ n,n=kx.length:=⟨_,rfl⟩
 rw [← hYn] at iY ⊢
 have hYn1:Yn≤kx.length:=by omega
 have hYn2:kx.length≤Yn:=by omega
 clear hYn
 have bx:Below w5.heap.size w5 (w5.alloc (.cells #[.slice Ya Yn Yc] 25)):=by go_grown
 have g11:(w5.alloc (.cells #[.slice Ya Yn Yc] 25)).cell? ⟨w5.heap.size,0,none⟩=some (.slice Ya Yn Yc):=(blkAt _ _ _ rfl:Blk (w5.alloc (.cells #[.slice Ya Yn Yc] 25)) w5.heap.size 25 [.slice Ya Yn Yc]).cell 0
 replace bw:=bel8 bw bx
 replace iM:=iM.below bx
 replace iL:=iL.below bx
 replace iX:=iX.below bx
 replace iW:=iW.below bx
 replace iY:=iY.below bx
 replace g5:=cell8 bx g5
 replace g7:=cell8 bx g7
 replace g9:=cell8 bx g9
 clear bx
 obtain ⟨X11,hX11⟩:∃ X,X=w5.heap.size:=⟨_,rfl⟩
 rw [← hX11] at g11
 obtain ⟨U5,hU5⟩:∃ U,U=w5.alloc (.cells #[.slice Ya Yn Yc] 25):=⟨_,rfl⟩
 rw [← hU5] at bw iM iL iX iW iY g5 g7 g9 g11
 have g5u:=g5
 have bq:Below U5.heap.size U5 (U5.alloc (.cells #[] 3)):=by go_grown
 have iE:Ints .i64 (U5.alloc (.cells #[] 3)) (some ⟨U5.heap.size,0,none⟩) 0 0 []:=⟨rfl,Nat.le_refl _,by unfold maxLen;omega,.inl rfl⟩
 replace bw:=bel8 bw bq
 replace iM:=iM.below bq
 replace iL:=iL.below bq
 replace iX:=iX.below bq
 replace iW:=iW.below bq
 replace iY:=iY.below bq
 replace g5:=cell8 bq g5
 replace g7:=cell8 bq g7
 replace g9:=cell8 bq g9
 replace g11:=cell8 bq g11
 clear bq
 have kZ9:=kZ _ bw iM _ _ _ iE (by omega)
 have hs5:U5.heap.size=w5.heap.size+1:=by rw [hU5];simp
 rw [hs5] at kZ9
 rw [hU5] at kZ9 bw iM iL iX iW iY g5 g7 g9 g11 g5u
 clear hU5 iE hs5 kZ
 go_wp2_with fail
 clear g5u
 rw [← hX11]
 rw [← hX11] at kZ9
 clear hX11
 generalize ((w5.alloc (.cells #[.slice Ya Yn Yc] 25)).alloc (.cells #[] 3))=U6 at *
 refine kZ9.mono ?_
 rintro e w6 ⟨⟨v,rfl,hM⟩,hb⟩
 obtain ⟨Za,Zc,rfl⟩:=hM.slice9
 have iZ:=hM.ents hfit
 clear hM kZ9
 replace bw:=bel8 bw hb
 replace iM:=iM.below hb
 replace iL:=iL.below hb
 replace iX:=iX.below hb
 replace iW:=iW.below hb
 replace iY:=iY.below hb
 replace g5:=cell8 hb g5
 replace g7:=cell8 hb g7
 replace g9:=cell8 hb g9
 replace g11:=cell8 hb g11
 clear hb
 obtain ⟨Zn,hZn⟩:∃ n,n=es.length:=⟨_,rfl⟩
 rw [← hZn] at iZ ⊢
 have hZn1:Zn≤es.length:=by omega
 have hZn2:es.length≤Zn:=by omega
 clear hZn
 have bx:Below w6.heap.size w6 (w6.alloc (.cells #[.slice Za Zn Zc] 25)):=by go_grown
 have g13:(w6.alloc (.cells #[.slice Za Zn Zc] 25)).cell? ⟨w6.heap.size,0,none⟩=some (.slice Za Zn Zc):=(blkAt _ _ _ rfl:Blk (w6.alloc (.cells #[.slice Za Zn Zc] 25)) w6.heap.size 25 [.slice Za Zn Zc]).cell 0
 replace bw:=bel8 bw bx
 replace iM:=iM.below bx
 replace iL:=iL.below bx
 replace iX:=iX.below bx
 replace iW:=iW.below bx
 replace iY:=iY.below bx
 replace iZ:=iZ.below bx
 replace g5:=cell8 bx g5
 replace g7:=cell8 bx g7
 replace g9:=cell8 bx g9
 replace g11:=cell8 bx g11
 clear bx
 obtain ⟨X13,hX13⟩:∃ X,X=w6.heap.size:=⟨_,rfl⟩
 rw [← hX13] at g13
 go_wp2_with fail
 rw [← hX13]
 clear hX13
 generalize w6.alloc (.cells #[.slice Za Zn Zc] 25)=U at *
 clear kX kW kY
 go_loopw [15,16] (fun sn si wr=>∃ k:Nat,k≤mn∧si=.int .i64 k∧sn=.int .i64 ((keepE (es.take k) ys).length:Nat)∧Below U.heap.size U wr) (fun _ si _=>mn - (intOf si).toNat)
 case atStart=>exact ⟨0,by omega,rfl,by simp [keepE],Below.refl _ _⟩
 case round =>
  obtain ⟨k,hk,rfl,rfl,bU⟩:=hrel
  replace bw:=bel8 bw bU
  have hmn20:mn≤2000:=by have:=memOk_len hok;omega
  replace iM:=iM.below bU
  replace iL:=iL.below bU
  replace iX:=iX.below bU
  replace iW:=iW.below bU
  replace iY:=iY.below bU
  replace iZ:=iZ.below bU
  replace g5:=cell8 bU g5
  replace g7:=cell8 bU g7
  replace g9:=cell8 bU g9
  replace g11:=cell8 bU g11
  replace g13:=cell8 bU g13
  by_cases hlt:k<mn
  ·have hq:=iM
   obtain ⟨_,_,_,hcase⟩:=hq
   rcases hcase with e0 | ⟨b,off,rfl,hbl,hc⟩
   ·omega
   obtain ⟨s,x0,x1,x2,hm⟩:=hc k hlt
   clear hc hbl
   have hek:=memOk_ent hok (i:=k) (by omega)
   have y2:=entOk_foot hek
   have y3:=entOk_key hek
   have hcd:=HCD.out k hlt
   have hkn:=HKN.out k hlt
   have hTT:tchV (es.getD k e3d).2.2 ys=tchB (es.getD k e3d).2.2 ys:=by
    unfold tchV
    rw [decide_eq_true (show (es.getD k e3d).2.2.length≤4096 by omega),decide_eq_true (show ys.length≤4096 by omega),Bool.true_and,Bool.true_and]
   have kF9:=fun W (hb:Below w.heap.size w W) (iX:Ents W Xa Xn Xc kx)=>kF W hb Xa Xn Xc (es.getD k e3d).1 iX (by omega)
   rw [hcd] at kF9
   clear hek hcd
   generalize es.getD k e3d=x at *
   obtain ⟨xk,xb,xz⟩:=x
   obtain ⟨⟨a1',n1',c1'⟩,⟨a2',n2',c2'⟩⟩:=s
   simp only at x0 x1 x2 hTT kF9 hkn y2 y3
   obtain ⟨ln,hln⟩:∃ ln,ln=(keepE (es.take k) ys).length:=⟨_,rfl⟩
   have hlnb:ln≤2000:=by rw [hln];unfold keepE;refine Nat.le_trans (List.length_filter_le _ _) ?_;rw [List.length_take];omega
   rw [← hln] at hkn ⊢
   have HKN9:Hid ((keepE (es.take (k+1)) ys).length=if tchB xz ys then ln else ln+1):=hkn
   clear hkn hln
   have hlt':(k:Int)<(mn:Int):=by omega
   have hk0:(0:Int)≤(k:Int):=by omega
   generalize tchB xz ys=tb at *
   have bd:Below w.heap.size w wr.drew:=bel8 bw (by go_grown)
   have iXd:=iX.below (show Below wr.heap.size wr wr.drew by go_grown)
   cases tb
   ·simp only [Bool.false_eq_true,if_false] at kF9
    replace HKN9:Hid ((keepE (es.take (k+1)) ys).length=ln+1):=HKN9.out
    go_wp2_with fail
    refine wp_region_held_drew (S:=(fun w'=>w'.cell? ⟨X7,0,none⟩=some (.slice Xa Xn Xc)∧w'.cell? ⟨X5,0,none⟩=some (.slice (some ⟨b,off,none⟩) mn mc)∧w'.cell? ⟨b,off+k*3,none⟩=some (.string xk))) (by kernel_rfl) ⟨g7,g5,x0⟩ (fun hS0=>?_)
    refine tkx 0 63 (.agg #[.slice Xa Xn Xc]) ?_ ?_
    ·(intro w' hSw;(try dsimp only at hSw);go_simp;first | done | rfl | omega | (intro h9;omega) | (rw [IntKind.wrap_i64];omega))
    simp only [Act.put,tka,tkb,tkc]
    refine tkx 1 64 (.pointer (some ⟨X5,0,none⟩)) ?_ ?_
    ·(intro w' hSw;(try dsimp only at hSw);go_simp;first | done | rfl | omega | (intro h9;omega) | (rw [IntKind.wrap_i64];omega))
    simp only [Act.put,tka,tkb,tkc]
    refine tkx 2 65 (.slice (some ⟨b,off,none⟩) mn mc) ?_ ?_
    ·(intro w' hSw;(try dsimp only at hSw);go_simp;first | done | rfl | omega | (intro h9;omega) | (rw [IntKind.wrap_i64];omega))
    simp only [Act.put,tka,tkb,tkc]
    refine tkx 3 66 (.int .i64 (k:Int)) ?_ ?_
    ·(intro w' hSw;(try dsimp only at hSw);go_simp;first | done | rfl | omega | (intro h9;omega) | (rw [IntKind.wrap_i64];omega))
    simp only [Act.put,tka,tkb,tkc]
    refine tkx 4 67 (.pointer (some ⟨b,off+k*3,none⟩)) ?_ ?_
    ·(intro w' hSw;(try dsimp only at hSw);go_simp;first | done | rfl | omega | (intro h9;omega) | (rw [IntKind.wrap_i64];omega))
    simp only [Act.put,tka,tkb,tkc]
    refine tkx 5 68 (.pointer (some ⟨b,off+k*3,none⟩)) ?_ ?_
    ·(intro w' hSw;(try dsimp only at hSw);go_simp;first | done | rfl | omega | (intro h9;omega) | (rw [IntKind.wrap_i64];omega))
    simp only [Act.put,tka,tkb,tkc]
    refine tkx 6 69 (.string xk) ?_ ?_
    ·(intro w' hSw;(try dsimp only at hSw);go_simp;first | done | rfl | omega | (intro h9;omega) | (rw [IntKind.wrap_i64];omega))
    simp only [Act.put,tka,tkb,tkc]
    refine wpAnyH_ready (rs:=[7,11]) (by kernel_rfl) (by simp) ?_
    refine AllReadyH.cons (o:=⟨some 70,_,_,_,_,_⟩) rfl (fun K hK=>?_) (AllReadyH.cons (o:=⟨some 17,_,_,_,_,_⟩) rfl (fun K hK=>?_) AllReadyH.nil)
    ·skip
     go_simp
     refine (kF9 _ bd iXd).mono ?_
     rintro e wf ⟨⟨⟨⟨f1,p1,q1⟩,⟨f2,p2,q2⟩⟩,rfl,_⟩,hbf⟩
     unfold entV
     generalize (fdeE kx xk).1=fk
     go_wp2_with fail
     refine hK.out _ _ ?_ (fun hS7=>?_)
     ·exact ⟨cells_kept hbf _ _ hS0.1,cells_kept hbf _ _ hS0.2.1,cells_kept hbf _ _ hS0.2.2⟩
     clear hK
     refine tkx 8 62 (.tuple #[.agg #[.string fk,.slice f1 p1 q1,.slice f2 p2 q2],.int .i64 0]) ?_ ?_
     ·(intro w' hSw;(try dsimp only at hSw);go_simp;first | done | rfl | omega | (intro h9;omega) | (rw [IntKind.wrap_i64];omega))
     simp only [Act.put,tka,tkb,tkc]
     refine tkx 9 71 (.agg #[.string fk,.slice f1 p1 q1,.slice f2 p2 q2]) ?_ ?_
     ·(intro w' hSw;(try dsimp only at hSw);go_simp;first | done | rfl | omega | (intro h9;omega) | (rw [IntKind.wrap_i64];omega))
     simp only [Act.put,tka,tkb,tkc]
     refine tkx 10 72 (.int .i64 0) ?_ ?_
     ·(intro w' hSw;(try dsimp only at hSw);go_simp;first | done | rfl | omega | (intro h9;omega) | (rw [IntKind.wrap_i64];omega))
     simp only [Act.put,tka,tkb,tkc]
     have hba:Below wf.heap.size wf (wf.alloc (.cells #[.string ⟨#[]⟩,.slice none 0 0,.slice none 0 0] 33)):=by go_grown
     have pA:Blk (wf.alloc (.cells #[.string ⟨#[]⟩,.slice none 0 0,.slice none 0 0] 33)) wf.heap.size 33 [.string ⟨#[]⟩,.slice none 0 0,.slice none 0 0]:=blkAt _ _ _ rfl
     refine tkr 11 17 (fun K hK=>?_)
     go_simp
     refine hK.out _ _ ?_ (fun hS11=>?_)
     ·exact ⟨cells_kept hba _ _ hS7.1,cells_kept hba _ _ hS7.2.1,cells_kept hba _ _ hS7.2.2⟩
     clear hK
     try simp only [Act.put,tka,tkb,tkc]
     have bz0:=bel8 (bel8 bd hbf) hba
     have bq0:Below wr.heap.size wr (wf.alloc (.cells #[.string ⟨#[]⟩,.slice none 0 0,.slice none 0 0] 33)):=bel8 (bel8 (show Below wr.heap.size wr wr.drew by go_grown) hbf) hba
     have hle9:wr.heap.size≤wf.heap.size:=by have:=hbf.size;simp at this;omega
     have r0:=pA.cell 0
     have r1:=pA.cell 1
     have r2:=pA.cell 2
     have fr0:=pA.frozen 0
     have fr1:=pA.frozen 1
     have fr2:=pA.frozen 2
     simp only [List.getElem?_cons_zero,List.getElem?_cons_succ] at r0 r1 r2
     have bq:Below wr.heap.size wr (wf.alloc (.cells #[.string fk,.slice f1 p1 q1,.slice f2 p2 q2] 33)):=bel8 (bel8 (show Below wr.heap.size wr wr.drew by go_grown) hbf) (by go_grown)
     have hS12:_∧_∧_:=⟨cell8 bq g7,cell8 bq g5,cell8 bq x0⟩
     refine tkz 12 (fun K hK=>?_)
     go_simp
     refine hK.out _ _ ?_ (fun hS13=>?_)
     ·exact hS12
     clear hK
     try simp only [Act.put,tka,tkb,tkc]
     refine tkx 13 18 (.int .i64 0) ?_ ?_
     ·(intro w' hSw;(try dsimp only at hSw);go_simp;first | done | rfl | omega | (intro h9;omega) | (rw [IntKind.wrap_i64];omega))
     simp only [Act.put,tka,tkb,tkc]
     refine wpAnyH_done (by kernel_rfl) ?_ _
     replace bw:=bel8 bw bq
     replace bU:=bel8 bU bq
     replace iL:=iL.below bq
     replace hm:=hm.below bq
     replace g5:=cell8 bq g5
     replace x0:=cell8 bq x0
     replace x1:=cell8 bq x1
     replace x2:=cell8 bq x2
     have kT:=fun W (hb:Below w.heap.size w W) (iL:Ints .i64 W ab yn cb ys) (hm:Emem W ((a1',n1',c1'),(a2',n2',c2')) (xk,xb,xz))=>implTouches_is a2' n2' c2' xz ab yn cb ys W hm.2.2.1 iL (by have:=hm.2.2.1.1;simp only at this;omega) (by omega) hm.2.2.2 fY
     rw [hTT] at kT
     go_wp2_with fail
     refine (kT _ bw iL hm).mono ?_
     rintro e wt ⟨rfl,hb⟩
     replace bU:=bel8 bU hb
     clear hb kT
     go_wp2
     go_roundw
     case rel=>exact ⟨k+1,by omega,by go_num,by rw [HKN9.out];go_num,bU⟩
     case measure=>simp [intOf];omega
    ·skip
     have hba:Below wr.drew.heap.size wr.drew (wr.drew.alloc (.cells #[.string ⟨#[]⟩,.slice none 0 0,.slice none 0 0] 33)):=by go_grown
     have e9:(wr.drew.alloc (.cells #[.string ⟨#[]⟩,.slice none 0 0,.slice none 0 0] 33))=(wr.alloc (.cells #[.string ⟨#[]⟩,.slice none 0 0,.slice none 0 0] 33)).drew:=rfl
     rw [e9] at hba
     clear e9
     have bd2:=bel8 bd hba
     have iXd2:=iXd.below hba
     go_simp
     refine hK.out _ _ ?_ (fun hS7a=>?_)
     ·exact ⟨cells_kept hba _ _ hS0.1,cells_kept hba _ _ hS0.2.1,cells_kept hba _ _ hS0.2.2⟩
     clear hK
     try simp only [Act.put,tka,tkb,tkc]
     have pA:Blk ((wr.alloc (.cells #[.string ⟨#[]⟩,.slice none 0 0,.slice none 0 0] 33)).drew) wr.heap.size 33 [.string ⟨#[]⟩,.slice none 0 0,.slice none 0 0]:=(blkAt _ _ _ rfl:Blk (wr.alloc (.cells #[.string ⟨#[]⟩,.slice none 0 0,.slice none 0 0] 33)) wr.heap.size 33 [.string ⟨#[]⟩,.slice none 0 0,.slice none 0 0])
     refine tkr 7 70 (fun K hK=>?_)
     go_simp
     refine (kF9 _ bd2 iXd2).mono ?_
     rintro e wf ⟨⟨⟨⟨f1,p1,q1⟩,⟨f2,p2,q2⟩⟩,rfl,_⟩,hbf⟩
     unfold entV
     generalize (fdeE kx xk).1=fk
     replace pA:=pA.below hbf
     go_wp2_with fail
     refine hK.out _ _ ?_ (fun hS7=>?_)
     ·exact ⟨cells_kept hbf _ _ hS7a.1,cells_kept hbf _ _ hS7a.2.1,cells_kept hbf _ _ hS7a.2.2⟩
     clear hK hS7a
     refine tkx 8 62 (.tuple #[.agg #[.string fk,.slice f1 p1 q1,.slice f2 p2 q2],.int .i64 0]) ?_ ?_
     ·(intro w' hSw;(try dsimp only at hSw);go_simp;first | done | rfl | omega | (intro h9;omega) | (rw [IntKind.wrap_i64];omega))
     simp only [Act.put,tka,tkb,tkc]
     refine tkx 9 71 (.agg #[.string fk,.slice f1 p1 q1,.slice f2 p2 q2]) ?_ ?_
     ·(intro w' hSw;(try dsimp only at hSw);go_simp;first | done | rfl | omega | (intro h9;omega) | (rw [IntKind.wrap_i64];omega))
     simp only [Act.put,tka,tkb,tkc]
     refine tkx 10 72 (.int .i64 0) ?_ ?_
     ·(intro w' hSw;(try dsimp only at hSw);go_simp;first | done | rfl | omega | (intro h9;omega) | (rw [IntKind.wrap_i64];omega))
     simp only [Act.put,tka,tkb,tkc]
     have bz0:=bel8 bd2 hbf
     have bq0:Below wr.heap.size wr wf:=bel8 (bel8 (show Below wr.heap.size wr wr.drew by go_grown) hba) hbf
     have hle9:wr.heap.size≤wr.heap.size:=Nat.le_refl _
     have r0:=pA.cell 0
     have r1:=pA.cell 1
     have r2:=pA.cell 2
     have fr0:=pA.frozen 0
     have fr1:=pA.frozen 1
     have fr2:=pA.frozen 2
     simp only [List.getElem?_cons_zero,List.getElem?_cons_succ] at r0 r1 r2
     have bq:=((bq0.setCell (p:=⟨wr.heap.size,0,none⟩) hle9 (.string fk)).setCell (p:=⟨wr.heap.size,1,none⟩) hle9 (.slice f1 p1 q1)).setCell (p:=⟨wr.heap.size,2,none⟩) hle9 (.slice f2 p2 q2)
     have hS12:_∧_∧_:=⟨cell8 bq g7,cell8 bq g5,cell8 bq x0⟩
     refine tkz 12 (fun K hK=>?_)
     go_simp
     refine hK.out _ _ ?_ (fun hS13=>?_)
     ·exact hS12
     clear hK
     try simp only [Act.put,tka,tkb,tkc]
     refine tkx 13 18 (.int .i64 0) ?_ ?_
     ·(intro w' hSw;(try dsimp only at hSw);go_simp;first | done | rfl | omega | (intro h9;omega) | (rw [IntKind.wrap_i64];omega))
     simp only [Act.put,tka,tkb,tkc]
     refine wpAnyH_done (by kernel_rfl) ?_ _
     replace bw:=bel8 bw bq
     replace bU:=bel8 bU bq
     replace iL:=iL.below bq
     replace hm:=hm.below bq
     replace g5:=cell8 bq g5
     replace x0:=cell8 bq x0
     replace x1:=cell8 bq x1
     replace x2:=cell8 bq x2
     have kT:=fun W (hb:Below w.heap.size w W) (iL:Ints .i64 W ab yn cb ys) (hm:Emem W ((a1',n1',c1'),(a2',n2',c2')) (xk,xb,xz))=>implTouches_is a2' n2' c2' xz ab yn cb ys W hm.2.2.1 iL (by have:=hm.2.2.1.1;simp only at this;omega) (by omega) hm.2.2.2 fY
     rw [hTT] at kT
     go_wp2_with fail
     refine (kT _ bw iL hm).mono ?_
     rintro e wt ⟨rfl,hb⟩
     replace bU:=bel8 bU hb
     clear hb kT
     go_wp2
     go_roundw
     case rel=>exact ⟨k+1,by omega,by go_num,by rw [HKN9.out];go_num,bU⟩
     case measure=>simp [intOf];omega
   ·simp only [if_true] at kF9
    replace HKN9:Hid ((keepE (es.take (k+1)) ys).length=ln):=HKN9.out
    go_wp2_with fail
    refine wp_region_held_drew (S:=(fun w'=>w'.cell? ⟨X7,0,none⟩=some (.slice Xa Xn Xc)∧w'.cell? ⟨X5,0,none⟩=some (.slice (some ⟨b,off,none⟩) mn mc)∧w'.cell? ⟨b,off+k*3,none⟩=some (.string xk))) (by kernel_rfl) ⟨g7,g5,x0⟩ (fun hS0=>?_)
    refine tkx 0 63 (.agg #[.slice Xa Xn Xc]) ?_ ?_
    ·(intro w' hSw;(try dsimp only at hSw);go_simp;first | done | rfl | omega | (intro h9;omega) | (rw [IntKind.wrap_i64];omega))
    simp only [Act.put,tka,tkb,tkc]
    refine tkx 1 64 (.pointer (some ⟨X5,0,none⟩)) ?_ ?_
    ·(intro w' hSw;(try dsimp only at hSw);go_simp;first | done | rfl | omega | (intro h9;omega) | (rw [IntKind.wrap_i64];omega))
    simp only [Act.put,tka,tkb,tkc]
    refine tkx 2 65 (.slice (some ⟨b,off,none⟩) mn mc) ?_ ?_
    ·(intro w' hSw;(try dsimp only at hSw);go_simp;first | done | rfl | omega | (intro h9;omega) | (rw [IntKind.wrap_i64];omega))
    simp only [Act.put,tka,tkb,tkc]
    refine tkx 3 66 (.int .i64 (k:Int)) ?_ ?_
    ·(intro w' hSw;(try dsimp only at hSw);go_simp;first | done | rfl | omega | (intro h9;omega) | (rw [IntKind.wrap_i64];omega))
    simp only [Act.put,tka,tkb,tkc]
    refine tkx 4 67 (.pointer (some ⟨b,off+k*3,none⟩)) ?_ ?_
    ·(intro w' hSw;(try dsimp only at hSw);go_simp;first | done | rfl | omega | (intro h9;omega) | (rw [IntKind.wrap_i64];omega))
    simp only [Act.put,tka,tkb,tkc]
    refine tkx 5 68 (.pointer (some ⟨b,off+k*3,none⟩)) ?_ ?_
    ·(intro w' hSw;(try dsimp only at hSw);go_simp;first | done | rfl | omega | (intro h9;omega) | (rw [IntKind.wrap_i64];omega))
    simp only [Act.put,tka,tkb,tkc]
    refine tkx 6 69 (.string xk) ?_ ?_
    ·(intro w' hSw;(try dsimp only at hSw);go_simp;first | done | rfl | omega | (intro h9;omega) | (rw [IntKind.wrap_i64];omega))
    simp only [Act.put,tka,tkb,tkc]
    refine wpAnyH_ready (rs:=[7,11]) (by kernel_rfl) (by simp) ?_
    refine AllReadyH.cons (o:=⟨some 70,_,_,_,_,_⟩) rfl (fun K hK=>?_) (AllReadyH.cons (o:=⟨some 17,_,_,_,_,_⟩) rfl (fun K hK=>?_) AllReadyH.nil)
    ·skip
     go_simp
     refine (kF9 _ bd iXd).mono ?_
     rintro e wf ⟨⟨⟨⟨f1,p1,q1⟩,⟨f2,p2,q2⟩⟩,rfl,_⟩,hbf⟩
     unfold entV
     generalize (fdeE kx xk).1=fk
     go_wp2_with fail
     refine hK.out _ _ ?_ (fun hS7=>?_)
     ·exact ⟨cells_kept hbf _ _ hS0.1,cells_kept hbf _ _ hS0.2.1,cells_kept hbf _ _ hS0.2.2⟩
     clear hK
     refine tkx 8 62 (.tuple #[.agg #[.string fk,.slice f1 p1 q1,.slice f2 p2 q2],.int .i64 5]) ?_ ?_
     ·(intro w' hSw;(try dsimp only at hSw);go_simp;first | done | rfl | omega | (intro h9;omega) | (rw [IntKind.wrap_i64];omega))
     simp only [Act.put,tka,tkb,tkc]
     refine tkx 9 71 (.agg #[.string fk,.slice f1 p1 q1,.slice f2 p2 q2]) ?_ ?_
     ·(intro w' hSw;(try dsimp only at hSw);go_simp;first | done | rfl | omega | (intro h9;omega) | (rw [IntKind.wrap_i64];omega))
     simp only [Act.put,tka,tkb,tkc]
     refine tkx 10 72 (.int .i64 5) ?_ ?_
     ·(intro w' hSw;(try dsimp only at hSw);go_simp;first | done | rfl | omega | (intro h9;omega) | (rw [IntKind.wrap_i64];omega))
     simp only [Act.put,tka,tkb,tkc]
     have hba:Below wf.heap.size wf (wf.alloc (.cells #[.string ⟨#[]⟩,.slice none 0 0,.slice none 0 0] 33)):=by go_grown
     have pA:Blk (wf.alloc (.cells #[.string ⟨#[]⟩,.slice none 0 0,.slice none 0 0] 33)) wf.heap.size 33 [.string ⟨#[]⟩,.slice none 0 0,.slice none 0 0]:=blkAt _ _ _ rfl
     refine tkr 11 17 (fun K hK=>?_)
     go_simp
     refine hK.out _ _ ?_ (fun hS11=>?_)
     ·exact ⟨cells_kept hba _ _ hS7.1,cells_kept hba _ _ hS7.2.1,cells_kept hba _ _ hS7.2.2⟩
     clear hK
     try simp only [Act.put,tka,tkb,tkc]
     have bz0:=bel8 (bel8 bd hbf) hba
     have bq0:Below wr.heap.size wr (wf.alloc (.cells #[.string ⟨#[]⟩,.slice none 0 0,.slice none 0 0] 33)):=bel8 (bel8 (show Below wr.heap.size wr wr.drew by go_grown) hbf) hba
     have hle9:wr.heap.size≤wf.heap.size:=by have:=hbf.size;simp at this;omega
     have r0:=pA.cell 0
     have r1:=pA.cell 1
     have r2:=pA.cell 2
     have fr0:=pA.frozen 0
     have fr1:=pA.frozen 1
     have fr2:=pA.frozen 2
     simp only [List.getElem?_cons_zero,List.getElem?_cons_succ] at r0 r1 r2
     have bq:Below wr.heap.size wr (wf.alloc (.cells #[.string fk,.slice f1 p1 q1,.slice f2 p2 q2] 33)):=bel8 (bel8 (show Below wr.heap.size wr wr.drew by go_grown) hbf) (by go_grown)
     have hS12:_∧_∧_:=⟨cell8 bq g7,cell8 bq g5,cell8 bq x0⟩
     refine tkz 12 (fun K hK=>?_)
     go_simp
     refine hK.out _ _ ?_ (fun hS13=>?_)
     ·exact hS12
     clear hK
     try simp only [Act.put,tka,tkb,tkc]
     refine tkx 13 18 (.int .i64 5) ?_ ?_
     ·(intro w' hSw;(try dsimp only at hSw);go_simp;first | done | rfl | omega | (intro h9;omega) | (rw [IntKind.wrap_i64];omega))
     simp only [Act.put,tka,tkb,tkc]
     refine wpAnyH_done (by kernel_rfl) ?_ _
     replace bw:=bel8 bw bq
     replace bU:=bel8 bU bq
     replace iL:=iL.below bq
     replace hm:=hm.below bq
     replace g5:=cell8 bq g5
     replace x0:=cell8 bq x0
     replace x1:=cell8 bq x1
     replace x2:=cell8 bq x2
     have kT:=fun W (hb:Below w.heap.size w W) (iL:Ints .i64 W ab yn cb ys) (hm:Emem W ((a1',n1',c1'),(a2',n2',c2')) (xk,xb,xz))=>implTouches_is a2' n2' c2' xz ab yn cb ys W hm.2.2.1 iL (by have:=hm.2.2.1.1;simp only at this;omega) (by omega) hm.2.2.2 fY
     rw [hTT] at kT
     go_wp2_with fail
     refine (kT _ bw iL hm).mono ?_
     rintro e wt ⟨rfl,hb⟩
     replace bU:=bel8 bU hb
     clear hb kT
     go_wp2
     go_roundw
     case rel=>exact ⟨k+1,by omega,by go_num,by first | (rw [HKN9.out];done) | (rw [HKN9.out];go_num),bU⟩
     case measure=>simp [intOf];omega
    ·skip
     have hba:Below wr.drew.heap.size wr.drew (wr.drew.alloc (.cells #[.string ⟨#[]⟩,.slice none 0 0,.slice none 0 0] 33)):=by go_grown
     have e9:(wr.drew.alloc (.cells #[.string ⟨#[]⟩,.slice none 0 0,.slice none 0 0] 33))=(wr.alloc (.cells #[.string ⟨#[]⟩,.slice none 0 0,.slice none 0 0] 33)).drew:=rfl
     rw [e9] at hba
     clear e9
     have bd2:=bel8 bd hba
     have iXd2:=iXd.below hba
     go_simp
     refine hK.out _ _ ?_ (fun hS7a=>?_)
     ·exact ⟨cells_kept hba _ _ hS0.1,cells_kept hba _ _ hS0.2.1,cells_kept hba _ _ hS0.2.2⟩
     clear hK
     try simp only [Act.put,tka,tkb,tkc]
     have pA:Blk ((wr.alloc (.cells #[.string ⟨#[]⟩,.slice none 0 0,.slice none 0 0] 33)).drew) wr.heap.size 33 [.string ⟨#[]⟩,.slice none 0 0,.slice none 0 0]:=(blkAt _ _ _ rfl:Blk (wr.alloc (.cells #[.string ⟨#[]⟩,.slice none 0 0,.slice none 0 0] 33)) wr.heap.size 33 [.string ⟨#[]⟩,.slice none 0 0,.slice none 0 0])
     refine tkr 7 70 (fun K hK=>?_)
     go_simp
     refine (kF9 _ bd2 iXd2).mono ?_
     rintro e wf ⟨⟨⟨⟨f1,p1,q1⟩,⟨f2,p2,q2⟩⟩,rfl,_⟩,hbf⟩
     unfold entV
     generalize (fdeE kx xk).1=fk
     replace pA:=pA.below hbf
     go_wp2_with fail
     refine hK.out _ _ ?_ (fun hS7=>?_)
     ·exact ⟨cells_kept hbf _ _ hS7a.1,cells_kept hbf _ _ hS7a.2.1,cells_kept hbf _ _ hS7a.2.2⟩
     clear hK hS7a
     refine tkx 8 62 (.tuple #[.agg #[.string fk,.slice f1 p1 q1,.slice f2 p2 q2],.int .i64 5]) ?_ ?_
     ·(intro w' hSw;(try dsimp only at hSw);go_simp;first | done | rfl | omega | (intro h9;omega) | (rw [IntKind.wrap_i64];omega))
     simp only [Act.put,tka,tkb,tkc]
     refine tkx 9 71 (.agg #[.string fk,.slice f1 p1 q1,.slice f2 p2 q2]) ?_ ?_
     ·(intro w' hSw;(try dsimp only at hSw);go_simp;first | done | rfl | omega | (intro h9;omega) | (rw [IntKind.wrap_i64];omega))
     simp only [Act.put,tka,tkb,tkc]
     refine tkx 10 72 (.int .i64 5) ?_ ?_
     ·(intro w' hSw;(try dsimp only at hSw);go_simp;first | done | rfl | omega | (intro h9;omega) | (rw [IntKind.wrap_i64];omega))
     simp only [Act.put,tka,tkb,tkc]
     have bz0:=bel8 bd2 hbf
     have bq0:Below wr.heap.size wr wf:=bel8 (bel8 (show Below wr.heap.size wr wr.drew by go_grown) hba) hbf
     have hle9:wr.heap.size≤wr.heap.size:=Nat.le_refl _
     have r0:=pA.cell 0
     have r1:=pA.cell 1
     have r2:=pA.cell 2
     have fr0:=pA.frozen 0
     have fr1:=pA.frozen 1
     have fr2:=pA.frozen 2
     simp only [List.getElem?_cons_zero,List.getElem?_cons_succ] at r0 r1 r2
     have bq:=((bq0.setCell (p:=⟨wr.heap.size,0,none⟩) hle9 (.string fk)).setCell (p:=⟨wr.heap.size,1,none⟩) hle9 (.slice f1 p1 q1)).setCell (p:=⟨wr.heap.size,2,none⟩) hle9 (.slice f2 p2 q2)
     have hS12:_∧_∧_:=⟨cell8 bq g7,cell8 bq g5,cell8 bq x0⟩
     refine tkz 12 (fun K hK=>?_)
     go_simp
     refine hK.out _ _ ?_ (fun hS13=>?_)
     ·exact hS12
     clear hK
     try simp only [Act.put,tka,tkb,tkc]
     refine tkx 13 18 (.int .i64 5) ?_ ?_
     ·(intro w' hSw;(try dsimp only at hSw);go_simp;first | done | rfl | omega | (intro h9;omega) | (rw [IntKind.wrap_i64];omega))
     simp only [Act.put,tka,tkb,tkc]
     refine wpAnyH_done (by kernel_rfl) ?_ _
     replace bw:=bel8 bw bq
     replace bU:=bel8 bU bq
     replace iL:=iL.below bq
     replace hm:=hm.below bq
     replace g5:=cell8 bq g5
     replace x0:=cell8 bq x0
     replace x1:=cell8 bq x1
     replace x2:=cell8 bq x2
     have kT:=fun W (hb:Below w.heap.size w W) (iL:Ints .i64 W ab yn cb ys) (hm:Emem W ((a1',n1',c1'),(a2',n2',c2')) (xk,xb,xz))=>implTouches_is a2' n2' c2' xz ab yn cb ys W hm.2.2.1 iL (by have:=hm.2.2.1.1;simp only at this;omega) (by omega) hm.2.2.2 fY
     rw [hTT] at kT
     go_wp2_with fail
     refine (kT _ bw iL hm).mono ?_
     rintro e wt ⟨rfl,hb⟩
     replace bU:=bel8 bU hb
     clear hb kT
     go_wp2
     go_roundw
     case rel=>exact ⟨k+1,by omega,by go_num,by first | (rw [HKN9.out];done) | (rw [HKN9.out];go_num),bU⟩
     case measure=>simp [intOf];omega
  ·obtain rfl:k=mn:=by omega
   have hlt':¬ (k:Int)<(k:Int):=by omega
   have e9:(keepE (es.take k) ys).length=Xn:=by rw [List.take_of_length_le (by omega),hKE];try omega
   rw [e9]
   clear e9
   have heq:((Xn:Int) == (Xn:Int))=true:=by simp
   go_wp2_with fail
   refine (kSX _ bw _ _ _ _ _ _ iX iW).mono ?_
   rintro e wa ⟨rfl,hb⟩
   replace bw:=bel8 bw hb
   replace iX:=iX.below hb
   replace iY:=iY.below hb
   replace iZ:=iZ.below hb
   replace iM:=iM.below hb
   replace g5:=cell8 hb g5
   replace g7:=cell8 hb g7
   replace g11:=cell8 hb g11
   replace g13:=cell8 hb g13
   clear hb
   go_wp2_with fail
   refine (kSX _ bw _ _ _ _ _ _ iY iX).mono ?_
   rintro e wb ⟨rfl,hb⟩
   replace bw:=bel8 bw hb
   replace iX:=iX.below hb
   replace iY:=iY.below hb
   replace iZ:=iZ.below hb
   replace iM:=iM.below hb
   replace g5:=cell8 hb g5
   replace g7:=cell8 hb g7
   replace g11:=cell8 hb g11
   replace g13:=cell8 hb g13
   clear hb
   go_wp2_with fail
   refine (kSM _ bw _ _ _ _ _ _ iZ iM).mono ?_
   rintro e wc ⟨rfl,hb⟩
   replace bw:=bel8 bw hb
   replace iX:=iX.below hb
   replace iY:=iY.below hb
   replace iZ:=iZ.below hb
   replace iM:=iM.below hb
   replace g5:=cell8 hb g5
   replace g7:=cell8 hb g7
   replace g11:=cell8 hb g11
   replace g13:=cell8 hb g13
   clear hb
   go_wp2
   go_ret
   exact ⟨rfl,bw⟩

theorem fnKeep_laid {W:World} (h:laidMetH Tryz.prog Rows.fnKeepRow.laid W):VmShape W:=vmShape_of_laid rfl h
theorem fnKeep_door_met (os:Os) (args:Array Value):laidMetH Tryz.prog Rows.fnKeepRow.laid ((World.doorLaid Tryz.prog 400 os).forCall (fun _ _=>0) ⟨#[],args,[]⟩).memory:=
 laidMetH_of_parts3 (fuel:=8) (laidMet_of_run' 8 (by kernel_rfl) (by kernel_rfl)) (by kernel_rfl) (by kernel_rfl)
end Go.Proofs.YthmgampabhbpoaaGreatDoor
