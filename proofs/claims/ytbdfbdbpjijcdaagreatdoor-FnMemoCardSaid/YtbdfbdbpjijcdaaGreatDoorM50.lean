/-
  Joined: FmmW, Vars.
-/
import Derived.WalkSmall
import Derived.ChangeOld
import Derived.Test.YtbdfbdbpjijcdaaGreatDoorM48
import Derived.Test.YtbdfbdbpjijcdaaGreatDoorM49

namespace Go.Proofs.YtbdfbdbpjijcdaaGreatDoor
set_option maxRecDepth 100000
set_option maxHeartbeats 16000000
open Go.RowKit
set_option linter.unusedVariables false
set_option linter.unusedSimpArgs false

theorem EntDr.mk8 {w':World} {B:Nat} {e:E3} (s:Sl2) (h1:entOk e=true) (h2:e.fits) (h3:OwnE w' B (.slice s.1.1 s.1.2.1 s.1.2.2) (.slice s.2.1 s.2.2.1 s.2.2.2) e):EntDr (.returned (entV e.1 s)) w' B:=⟨e,s,h1,h2,rfl,h3⟩
theorem entryDrawn_any (a:Option Addr) (n cap:Nat) (zs:List Int) (w:World) (hI:IsRow .u8 w a n cap zs) (hn:n≤1048576) :
  Calls Tryz.prog 20 #[.slice a n cap] w fun e w'=>EntDr e w' w.heap.size∧Below w.heap.size w w':=by
 have bw:Below w.heap.size w (w.alloc (.cells #[.string ⟨#[]⟩,.slice none 0 0,.slice none 0 0] 45)):=by go_grown
 have pR:Blk (w.alloc (.cells #[.string ⟨#[]⟩,.slice none 0 0,.slice none 0 0] 45)) w.heap.size 45 [.string ⟨#[]⟩,.slice none 0 0,.slice none 0 0]:=blkAt _ _ _ rfl
 have hC:=code_of (hI.below bw) hn
 go_enter Tryz.func20,Tryz.ntmps20
 go_wp2_with fail
 generalize (w.alloc (.cells #[.string ⟨#[]⟩,.slice none 0 0,.slice none 0 0] 45))=W1 at *
 refine (l00Source_any a n cap W1 hn).mono ?_
 rintro e w1 ⟨rfl,hS1,hb1⟩
 have hC1:=hC.below hb1
 have hl:=pR.lt
 replace bw:=bel8 bw hb1
 replace pR:=pR.below hb1
 go_wp2_with fail
 refine (entry_any _ 0 a n cap _ hS1 hC1 (by omega)).mono ?_
 rintro e w2 ⟨⟨⟨ek,eb,ez⟩,⟨⟨e1,m1,d1⟩,⟨e2,m2,d2⟩⟩,h1,h2,rfl,hM⟩,_,hW2⟩
 have hb2:=hW2.below (Nat.le_of_lt hS1.lt)
 have bw2:Below w.heap.size w w2:=bw.trans (hb2.mono (by omega))
 replace pR:=pR.went hW2 (by omega)
 have hs1:=hS1.lt
 unfold entV
 simp only at hM ⊢
 have r0:=pR.cell 0
 have r1:=pR.cell 1
 have r2:=pR.cell 2
 have fr0:=pR.frozen 0
 have fr1:=pR.frozen 1
 have fr2:=pR.frozen 2
 have pZ:=((pR.set 0 (.string ek)).set 1 (.slice e1 m1 d1)).set 2 (.slice e2 m2 d2)
 simp only [List.set_cons_zero,List.set_cons_succ] at pZ
 have z0:=pZ.cell 0
 have z1:=pZ.cell 1
 have z2:=pZ.cell 2
 simp only [List.getElem?_cons_zero,List.getElem?_cons_succ] at z0 z1 z2 r0 r1 r2
 have bz:=((bw2.setCell (p:=⟨w.heap.size,0,none⟩) (Nat.le_refl _) (.string ek)).setCell (p:=⟨w.heap.size,1,none⟩) (Nat.le_refl _) (.slice e1 m1 d1)).setCell (p:=⟨w.heap.size,2,none⟩) (Nat.le_refl _) (.slice e2 m2 d2)
 have hlt:w.heap.size<w1.heap.size:=by omega
 have hM9:=(((hM.low (p:=⟨w.heap.size,0,none⟩) hlt (.string ek)).low (p:=⟨w.heap.size,1,none⟩) hlt (.slice e1 m1 d1)).low (p:=⟨w.heap.size,2,none⟩) hlt (.slice e2 m2 d2)).lower (show w.heap.size≤w1.heap.size by omega)
 have HE:Hid (EntDr (.returned (entV ek ((e1,m1,d1),(e2,m2,d2)))) (((w2.setCell ⟨w.heap.size,0,none⟩ (.string ek)).setCell ⟨w.heap.size,1,none⟩ (.slice e1 m1 d1)).setCell ⟨w.heap.size,2,none⟩ (.slice e2 m2 d2)) w.heap.size):=EntDr.mk8 (e:=(ek,eb,ez)) ((e1,m1,d1),(e2,m2,d2)) h1 h2 hM9
 clear pZ pR hM hM9 hW2 hS1 hC1 hC hb2 bw bw2
 go_wp2
 refine bodyPost_ret (by simp [results,Tryz.results20,go_sem,z0,z1,z2];try rfl) rfl ?_
 exact ⟨HE.out,bz⟩

theorem fnMemo_walk (a0:Option Addr) (len0 cap0:Nat) (z0:List Int) (a1:Option Addr) (len1 cap1:Nat) (z1:List Int) (w:World) (h0:IsRow .u8 w a0 len0 cap0 z0) (h1:IsRow .u8 w a1 len1 cap1 z1) (hL:VmShape w∧ErrType w) :
  Calls Tryz.prog 4 #[.slice a0 len0 cap0,.slice a1 len1 cap1] w fun e w'=>e=.returned (.bool true)∧Below w.heap.size w w':=by
 obtain ⟨hV,hET⟩:=hL
 have m0:=h0.len_le
 have m1:=h1.len_le
 unfold maxLen at m0 m1
 by_cases b0:1048576<len0
 ·clear h0 h1
  go_enter Tryz.func4,Tryz.ntmps4
  go_wp2
  go_ret
  exact ⟨rfl,Below.refl _ _⟩
 by_cases b1:1048576<len1
 ·clear h0 h1
  go_enter Tryz.func4,Tryz.ntmps4
  go_wp2
  go_ret
  exact ⟨rfl,Below.refl _ _⟩
 have n0:len0≤1048576:=by omega
 have n1:len1≤1048576:=by omega
 clear m0 m1 b0 b1
 have kA:=memoDrawn_any a0 len0 cap0 z0 w h0 n0
 have kB:=fun W (hb:Below w.heap.size w W)=>entryDrawn_any a1 len1 cap1 z1 W (h1.below hb) n1
 clear h0 h1
 go_enter Tryz.func4,Tryz.ntmps4
 go_wp2_with fail
 refine kA.mono ?_
 rintro e w1 ⟨⟨es,v,hok,hfit,hes7,rfl,hM⟩,hb⟩
 obtain ⟨ma,mc,rfl⟩:=hM.slice9
 have hnl:ma=none→mc=0:=by
  obtain ⟨cs,q,_⟩:=hM
  exact own_nil0 q
 have iM:=hM.ents hfit
 have bw:=hb
 clear kA hb hM
 obtain ⟨mn,hmn⟩:∃ mn,mn=es.length:=⟨_,rfl⟩
 rw [← hmn] at iM ⊢
 have hmn1:mn≤es.length:=by omega
 have hmn2:es.length≤mn:=by omega
 clear hmn
 have bx:Below w1.heap.size w1 (w1.alloc (.cells #[.slice ma mn mc] 33)):=by go_grown
 have p5:Blk (w1.alloc (.cells #[.slice ma mn mc] 33)) w1.heap.size 33 [.slice ma mn mc]:=blkAt _ _ _ rfl
 replace bw:=bel8 bw bx
 replace iM:=iM.below bx
 clear bx
 go_wp2_with fail
 generalize hU:w1.alloc (.cells #[.slice ma mn mc] 33)=U5 at *
 clear hU
 generalize w1.heap.size=X5 at *
 refine (kB _ bw).mono ?_
 rintro e w2 ⟨⟨⟨ek,eb,ez⟩,⟨⟨e1,m1,d1⟩,⟨e2,m2,d2⟩⟩,hek,hef,rfl,hO⟩,hb⟩
 have iE:=OwnE.mem (s:=((e1,m1,d1),(e2,m2,d2))) hO hef
 clear kB hO
 unfold entV
 simp only
 replace bw:=bel8 bw hb
 replace iM:=iM.below hb
 replace p5:=p5.below hb
 clear hb
 have bx:Below w2.heap.size w2 (w2.alloc (.cells #[.string ek,.slice e1 m1 d1,.slice e2 m2 d2] 45)):=by go_grown
 have p6:Blk (w2.alloc (.cells #[.string ek,.slice e1 m1 d1,.slice e2 m2 d2] 45)) w2.heap.size 45 [.string ek,.slice e1 m1 d1,.slice e2 m2 d2]:=blkAt _ _ _ rfl
 replace bw:=bel8 bw bx
 replace iM:=iM.below bx
 replace iE:=iE.below bx
 replace p5:=p5.below bx
 clear bx
 have hlen:=memOk_len hok
 have hpk:memOk (putE es (ek,eb,ez))=true:=putE_ok hok hek (.inr (by omega))
 have eM:ptM es (ek,eb,ez)=putE es (ek,eb,ez):=by
  unfold ptM
  rw [if_pos ⟨hok,hek⟩,if_neg (by omega)]
 have eC:ptC es (ek,eb,ez)=0:=by
  unfold ptC
  rw [if_pos ⟨hok,hek⟩,if_neg (by omega)]
 have hpf:∀ e ∈ putE es (ek,eb,ez),e.fits:=by
  intro x hx
  unfold putE at hx
  simp only [List.mem_append,List.mem_singleton] at hx
  rcases hx with (hx | rfl) | hx
  ·exact hfit x (List.mem_of_mem_take hx)
  ·exact hef
  ·exact hfit x (List.mem_of_mem_drop hx)
 have hks:ek.size=15:=entOk_key hek
 obtain ⟨hpi,hpf9⟩:=putE_plc hpk
 have fE:fdeE (putE es (ek,eb,ez)) ek=(ek,eb,ez):=by
  unfold fdeE
  rw [if_pos ⟨by omega,hpk,hpi⟩]
  unfold fndE at hpf9
  rw [if_pos hpi] at hpf9
  exact hpf9
 have fC:fdeC (putE es (ek,eb,ez)) ek=0:=by
  unfold fdeC
  rw [if_neg (by omega),if_pos hpk,if_pos hpi]
 have fC2:fdeC es ek=if isE es ek=true then 0 else 5:=by
  unfold fdeC
  rw [if_neg (by omega),if_pos hok]
 have hpl:=putE_len (es:=es) (e:=(ek,eb,ez))
 have tT:etxT (ek,eb,ez)=txtE (ek,eb,ez)∧etxC (ek,eb,ez)=0:=by
  unfold etxT etxC
  rw [hek]
  exact ⟨rfl,rfl⟩
 have hts:(txtE (ek,eb,ez)).size≤1048576:=by
  have h9:=(rd_back hek).1
  omega
 have HRD:Hid (RdOk (txtE (ek,eb,ez)) (ek,eb,ez)):=rd_back hek
 have hsm:=smeB_self hpk
 have hV9:∀ W,Below w.heap.size w W→VmShape W:=fun W hb=>hV.below hb
 have kX:=fun W (hb:Below w.heap.size w W) (iM:Ents W ma mn mc es) (iE:Emem W ((e1,m1,d1),(e2,m2,d2)) (ek,eb,ez))=>implPutEntry_is ma mn mc es (ek,eb,ez) ((e1,m1,d1),(e2,m2,d2)) W iM iE (hV9 W hb)
 have kW:=fun W (iM:Ents W ma mn mc es) (iE:Emem W ((e1,m1,d1),(e2,m2,d2)) (ek,eb,ez))=>specPutEntry_is ma mn mc es (ek,eb,ez) ((e1,m1,d1),(e2,m2,d2)) W iM hnl iE
 rw [eM,eC] at kX kW
 have kF:=fun W (hb:Below w.heap.size w W) xa xn xc (iX:Ents W xa xn xc (putE es (ek,eb,ez)))=>implFindEntry_is xa xn xc (putE es (ek,eb,ez)) ek W iX (by omega) (hV9 W hb)
 rw [fE,fC] at kF
 have kG:=fun W (hb:Below w.heap.size w W) (iM:Ents W ma mn mc es)=>implFindEntry_is ma mn mc es ek W iM (by omega) (hV9 W hb)
 obtain ⟨ic,hic⟩:∃ c,c=fdeC es ek:=⟨_,rfl⟩
 rw [← hic] at kG
 have HIC:Hid (ic=if isE es ek=true then 0 else 5):=hic.trans fC2
 have hmn7:mn≤7:=by omega
 clear hic
 have kT:=fun W (hb:Below w.heap.size w W) s (h:Emem W s (ek,eb,ez))=>implEntryText_is (ek,eb,ez) s W h (hV9 W hb)
 rw [tT.1,tT.2] at kT
 have kR:=fun W (hb:Below w.heap.size w W)=>implReadEntry_is (txtE (ek,eb,ez)) W hts (hV9 W hb) (hET.below hb)
 have kS:=fun W (hb:Below w.heap.size w W) xa xn xc ya yn yc (i1:Ents W xa xn xc (putE es (ek,eb,ez))) (i2:Ents W ya yn yc (putE es (ek,eb,ez)))=>implSameMemo_is xa xn xc (putE es (ek,eb,ez)) ya yn yc (putE es (ek,eb,ez)) W i1 i2 (hV9 W hb)
 rw [hsm] at kS
 have kE:=fun W (hb:Below w.heap.size w W) (h:Emem W ((e1,m1,d1),(e2,m2,d2)) (ek,eb,ez))=>implEntryOK_is (ek,eb,ez) ((e1,m1,d1),(e2,m2,d2)) W h (hV9 W hb)
 rw [hek] at kE
 have kK:=fun W (hb:Below w.heap.size w W) xa xn xc (i:Ents W xa xn xc (putE es (ek,eb,ez)))=>implMemoOK_is xa xn xc (putE es (ek,eb,ez)) W i (hV9 W hb)
 rw [hpk] at kK
 have HPL:Hid ((putE es (ek,eb,ez)).length=if isE es ek then es.length else es.length+1):=hpl
 clear hpl eM eC fE fC fC2 tT hsm hpk hpi hpf9 hV hET hV9 hnl hok hes7 hlen
 generalize txtE (ek,eb,ez)=tx at *
 generalize putE es (ek,eb,ez)=px at *
 have htt:(tx.toList == tx.toList)=true:=by simp
 unfold entV at kX kW kT kE
 simp only at kX kW kE
 have cp50:=p5.cell 0
 have cp60:=p6.cell 0
 have cp61:=p6.cell 1
 have cp62:=p6.cell 2
 simp only [List.getElem?_cons_zero,List.getElem?_cons_succ] at cp50 cp60 cp61 cp62
 go_wp2_with fail
 clear cp50 cp60 cp61 cp62
 generalize hU:w2.alloc (.cells #[.string ek,.slice e1 m1 d1,.slice e2 m2 d2] 45)=U6 at *
 clear hU
 generalize w2.heap.size=X6 at *
 refine (kX _ bw iM iE).mono ?_
 rintro e w3 ⟨⟨v,rfl,hM⟩,hb⟩
 obtain ⟨Ya,Yc,rfl⟩:=hM.slice9
 have iY:=hM.ents hpf
 clear hM
 obtain ⟨Yn,hYn⟩:∃ n,n=px.length:=⟨_,rfl⟩
 rw [← hYn] at iY ⊢
 have hYn1:Yn≤px.length:=by omega
 have hYn2:px.length≤Yn:=by omega
 clear hYn
 replace bw:=bel8 bw hb
 replace iM:=iM.below hb
 replace iE:=iE.below hb
 replace p5:=p5.below hb
 replace p6:=p6.below hb
 clear hb kX
 have bx:Below w3.heap.size w3 (w3.alloc (.cells #[.slice Ya Yn Yc] 33)):=by go_grown
 have p7:Blk (w3.alloc (.cells #[.slice Ya Yn Yc] 33)) w3.heap.size 33 [.slice Ya Yn Yc]:=blkAt _ _ _ rfl
 replace bw:=bel8 bw bx
 replace iM:=iM.below bx
 replace iE:=iE.below bx
 replace iY:=iY.below bx
 replace p5:=p5.below bx
 replace p6:=p6.below bx
 clear bx
 have cp50:=p5.cell 0
 have cp60:=p6.cell 0
 have cp61:=p6.cell 1
 have cp62:=p6.cell 2
 simp only [List.getElem?_cons_zero,List.getElem?_cons_succ] at cp50 cp60 cp61 cp62
 go_wp2_with fail
 clear cp50 cp60 cp61 cp62
 generalize hU:w3.alloc (.cells #[.slice Ya Yn Yc] 33)=U7 at *
 clear hU
 generalize w3.heap.size=X7 at *
 refine (kW _ iM iE).mono ?_
 rintro e w4 ⟨⟨v,rfl,hM⟩,hb⟩
 obtain ⟨Za,Zc,rfl⟩:=hM.slice9
 have iZ:=hM.ents hpf
 clear hM
 obtain ⟨Zn,hZn⟩:∃ n,n=px.length:=⟨_,rfl⟩
 rw [← hZn] at iZ ⊢
 have hZn1:Zn≤px.length:=by omega
 have hZn2:px.length≤Zn:=by omega
 clear hZn
 replace bw:=bel8 bw hb
 replace iM:=iM.below hb
 replace iE:=iE.below hb
 replace iY:=iY.below hb
 replace p5:=p5.below hb
 replace p6:=p6.below hb
 replace p7:=p7.below hb
 clear hb kW
 have bx:Below w4.heap.size w4 (w4.alloc (.cells #[.slice Za Zn Zc] 33)):=by go_grown
 have p9:Blk (w4.alloc (.cells #[.slice Za Zn Zc] 33)) w4.heap.size 33 [.slice Za Zn Zc]:=blkAt _ _ _ rfl
 replace bw:=bel8 bw bx
 replace iM:=iM.below bx
 replace iE:=iE.below bx
 replace iY:=iY.below bx
 replace iZ:=iZ.below bx
 replace p5:=p5.below bx
 replace p6:=p6.below bx
 replace p7:=p7.below bx
 clear bx
 have cp70:=p7.cell 0
 have cp60:=p6.cell 0
 have cp61:=p6.cell 1
 have cp62:=p6.cell 2
 simp only [List.getElem?_cons_zero,List.getElem?_cons_succ] at cp70 cp60 cp61 cp62
 go_wp2_with fail
 clear cp70 cp60 cp61 cp62
 generalize hU:w4.alloc (.cells #[.slice Za Zn Zc] 33)=U9 at *
 clear hU
 generalize w4.heap.size=X9 at *
 refine (kF _ bw _ _ _ iY).mono ?_
 rintro e w5 ⟨⟨⟨⟨f1,p1,q1⟩,⟨f2,p2,q2⟩⟩,rfl,hO⟩,hb⟩
 have iF:=OwnE.mem (s:=((f1,p1,q1),(f2,p2,q2))) hO hef
 clear hO kF
 unfold entV
 simp only
 replace bw:=bel8 bw hb
 replace iM:=iM.below hb
 replace iE:=iE.below hb
 replace iY:=iY.below hb
 replace iZ:=iZ.below hb
 replace p5:=p5.below hb
 replace p6:=p6.below hb
 replace p7:=p7.below hb
 replace p9:=p9.below hb
 clear hb
 have bx:Below w5.heap.size w5 (w5.alloc (.cells #[.string ek,.slice f1 p1 q1,.slice f2 p2 q2] 45)):=by go_grown
 have p11:Blk (w5.alloc (.cells #[.string ek,.slice f1 p1 q1,.slice f2 p2 q2] 45)) w5.heap.size 45 [.string ek,.slice f1 p1 q1,.slice f2 p2 q2]:=blkAt _ _ _ rfl
 replace bw:=bel8 bw bx
 replace iM:=iM.below bx
 replace iE:=iE.below bx
 replace iY:=iY.below bx
 replace iZ:=iZ.below bx
 replace iF:=iF.below bx
 replace p5:=p5.below bx
 replace p6:=p6.below bx
 replace p7:=p7.below bx
 replace p9:=p9.below bx
 clear bx
 have cp60:=p6.cell 0
 have cp61:=p6.cell 1
 have cp62:=p6.cell 2
 simp only [List.getElem?_cons_zero,List.getElem?_cons_succ] at cp60 cp61 cp62
 go_wp2_with fail
 clear cp60 cp61 cp62
 generalize hU:w5.alloc (.cells #[.string ek,.slice f1 p1 q1,.slice f2 p2 q2] 45)=U11 at *
 clear hU
 generalize w5.heap.size=X11 at *
 refine (kT _ bw ((e1,m1,d1),(e2,m2,d2)) iE).mono ?_
 rintro e w6 ⟨rfl,hb⟩
 replace bw:=bel8 bw hb
 replace iM:=iM.below hb
 replace iE:=iE.below hb
 replace iY:=iY.below hb
 replace iZ:=iZ.below hb
 replace iF:=iF.below hb
 replace p5:=p5.below hb
 replace p6:=p6.below hb
 replace p7:=p7.below hb
 replace p9:=p9.below hb
 replace p11:=p11.below hb
 clear hb
 have cp110:=p11.cell 0
 have cp111:=p11.cell 1
 have cp112:=p11.cell 2
 simp only [List.getElem?_cons_zero,List.getElem?_cons_succ] at cp110 cp111 cp112
 go_wp2_with fail
 clear cp110 cp111 cp112
 refine (kT _ bw ((f1,p1,q1),(f2,p2,q2)) iF).mono ?_
 rintro e w7 ⟨rfl,hb⟩
 replace bw:=bel8 bw hb
 replace iM:=iM.below hb
 replace iE:=iE.below hb
 replace iY:=iY.below hb
 replace iZ:=iZ.below hb
 replace iF:=iF.below hb
 replace p5:=p5.below hb
 replace p6:=p6.below hb
 replace p7:=p7.below hb
 replace p9:=p9.below hb
 replace p11:=p11.below hb
 clear hb iF
 go_wp2_with fail
 refine (kR _ bw).mono ?_
 rintro e w8 ⟨hG | ⟨hno,_⟩,hb⟩
 case inr=>exact absurd HRD.out (hno _)
 obtain ⟨e',⟨⟨g1,r1,s1⟩,⟨g2,r2,s2⟩⟩,hRd,rfl,hOF⟩:=hG
 have he9:=HRD.out.only hRd
 subst he9
 have iB:=OwnF.mem hOF hef
 clear hOF hRd kR
 unfold entV
 simp only
 replace bw:=bel8 bw hb
 replace iM:=iM.below hb
 replace iE:=iE.below hb
 replace iY:=iY.below hb
 replace iZ:=iZ.below hb
 replace p5:=p5.below hb
 replace p6:=p6.below hb
 replace p7:=p7.below hb
 replace p9:=p9.below hb
 replace p11:=p11.below hb
 clear hb
 have bx:Below w8.heap.size w8 (w8.alloc (.cells #[.string ek,.slice g1 r1 s1,.slice g2 r2 s2] 45)):=by go_grown
 have p17:Blk (w8.alloc (.cells #[.string ek,.slice g1 r1 s1,.slice g2 r2 s2] 45)) w8.heap.size 45 [.string ek,.slice g1 r1 s1,.slice g2 r2 s2]:=blkAt _ _ _ rfl
 replace bw:=bel8 bw bx
 replace iM:=iM.below bx
 replace iE:=iE.below bx
 replace iY:=iY.below bx
 replace iZ:=iZ.below bx
 replace iB:=iB.below bx
 replace p5:=p5.below bx
 replace p6:=p6.below bx
 replace p7:=p7.below bx
 replace p9:=p9.below bx
 replace p11:=p11.below bx
 clear bx
 have cp170:=p17.cell 0
 have cp171:=p17.cell 1
 have cp172:=p17.cell 2
 simp only [List.getElem?_cons_zero,List.getElem?_cons_succ] at cp170 cp171 cp172
 go_wp2_with fail
 clear cp170 cp171 cp172
 generalize hU:w8.alloc (.cells #[.string ek,.slice g1 r1 s1,.slice g2 r2 s2] 45)=U17 at *
 clear hU
 generalize w8.heap.size=X17 at *
 refine (kT _ bw ((g1,r1,s1),(g2,r2,s2)) iB).mono ?_
 rintro e w9 ⟨rfl,hb⟩
 replace bw:=bel8 bw hb
 replace iM:=iM.below hb
 replace iE:=iE.below hb
 replace iY:=iY.below hb
 replace iZ:=iZ.below hb
 replace iB:=iB.below hb
 replace p5:=p5.below hb
 replace p6:=p6.below hb
 replace p7:=p7.below hb
 replace p9:=p9.below hb
 replace p11:=p11.below hb
 replace p17:=p17.below hb
 clear hb iB kT
 have cp50:=p5.cell 0
 have cp60:=p6.cell 0
 have cp61:=p6.cell 1
 have cp62:=p6.cell 2
 simp only [List.getElem?_cons_zero,List.getElem?_cons_succ] at cp50 cp60 cp61 cp62
 go_wp2_with fail
 clear cp50 cp60 cp61 cp62
 refine (kG _ bw iM).mono ?_
 rintro e w10 ⟨⟨⟨⟨k1,t1,u1⟩,⟨k2,t2,u2⟩⟩,rfl,_⟩,hb⟩
 unfold entV
 simp only
 generalize (fdeE es ek).1=fk
 clear kG
 replace bw:=bel8 bw hb
 replace iM:=iM.below hb
 replace iE:=iE.below hb
 replace iY:=iY.below hb
 replace iZ:=iZ.below hb
 replace p5:=p5.below hb
 replace p6:=p6.below hb
 replace p7:=p7.below hb
 replace p9:=p9.below hb
 replace p11:=p11.below hb
 replace p17:=p17.below hb
 clear hb
 have bx:Below w10.heap.size w10 (w10.alloc (.cells #[.string fk,.slice k1 t1 u1,.slice k2 t2 u2] 45)):=by go_grown
 have p21:Blk (w10.alloc (.cells #[.string fk,.slice k1 t1 u1,.slice k2 t2 u2] 45)) w10.heap.size 45 [.string fk,.slice k1 t1 u1,.slice k2 t2 u2]:=blkAt _ _ _ rfl
 replace bw:=bel8 bw bx
 replace iM:=iM.below bx
 replace iE:=iE.below bx
 replace iY:=iY.below bx
 replace iZ:=iZ.below bx
 replace p5:=p5.below bx
 replace p6:=p6.below bx
 replace p7:=p7.below bx
 replace p9:=p9.below bx
 replace p11:=p11.below bx
 replace p17:=p17.below bx
 clear bx
 have cp70:=p7.cell 0
 have cp90:=p9.cell 0
 simp only [List.getElem?_cons_zero,List.getElem?_cons_succ] at cp70 cp90
 go_wp2_with fail
 clear cp70 cp90
 generalize hU:w10.alloc (.cells #[.string fk,.slice k1 t1 u1,.slice k2 t2 u2] 45)=U21 at *
 clear hU
 generalize w10.heap.size=X21 at *
 refine (kS _ bw _ _ _ _ _ _ iY iZ).mono ?_
 rintro e w11 ⟨rfl,hb⟩
 replace bw:=bel8 bw hb
 replace iM:=iM.below hb
 replace iE:=iE.below hb
 replace iY:=iY.below hb
 replace iZ:=iZ.below hb
 replace p5:=p5.below hb
 replace p6:=p6.below hb
 replace p7:=p7.below hb
 replace p9:=p9.below hb
 replace p11:=p11.below hb
 replace p17:=p17.below hb
 replace p21:=p21.below hb
 clear hb kS
 have cp60:=p6.cell 0
 have cp61:=p6.cell 1
 have cp62:=p6.cell 2
 simp only [List.getElem?_cons_zero,List.getElem?_cons_succ] at cp60 cp61 cp62
 go_wp2_with fail
 clear cp60 cp61 cp62
 refine (kE _ bw iE).mono ?_
 rintro e w12 ⟨rfl,hb⟩
 replace bw:=bel8 bw hb
 replace iM:=iM.below hb
 replace iE:=iE.below hb
 replace iY:=iY.below hb
 replace iZ:=iZ.below hb
 replace p5:=p5.below hb
 replace p6:=p6.below hb
 replace p7:=p7.below hb
 replace p9:=p9.below hb
 replace p11:=p11.below hb
 replace p17:=p17.below hb
 replace p21:=p21.below hb
 clear hb kE
 have cp70:=p7.cell 0
 simp only [List.getElem?_cons_zero,List.getElem?_cons_succ] at cp70
 go_wp2_with fail
 clear cp70
 refine (kK _ bw _ _ _ iY).mono ?_
 rintro e w13 ⟨rfl,hb⟩
 replace bw:=bel8 bw hb
 replace iM:=iM.below hb
 replace iE:=iE.below hb
 replace iY:=iY.below hb
 replace iZ:=iZ.below hb
 replace p5:=p5.below hb
 replace p6:=p6.below hb
 replace p7:=p7.below hb
 replace p9:=p9.below hb
 replace p11:=p11.below hb
 replace p17:=p17.below hb
 replace p21:=p21.below hb
 clear hb kK
 cases hib:isE es ek
 ·have hic:ic=5:=by have:=HIC.out;rw [hib] at this;simpa using this
  have hl9:Yn=mn+1:=by have:=HPL.out;rw [hib] at this;simp at this;omega
  subst hic
  have hq1:((Yn:Int) == (mn:Int)+1)=true:=by simp;omega
  have hq2:IntKind.i64.wrap ((mn:Int)+1)=(mn:Int)+1:=IntWalk.i64_in _ ⟨by omega,by omega⟩
  clear HPL hl9 HIC hib
  have cp70:=p7.cell 0
  have cp50:=p5.cell 0
  simp only [List.getElem?_cons_zero,List.getElem?_cons_succ] at cp70 cp50
  go_wp2
  go_ret
  exact ⟨rfl,bw⟩
 ·have hic:ic=0:=by have:=HIC.out;rw [hib] at this;simpa using this
  have hl9:Yn=mn:=by have:=HPL.out;rw [hib] at this;simp at this;omega
  subst hic
  have hq1:((Yn:Int) == (mn:Int))=true:=by simp;omega
  clear HPL hl9 HIC hib
  have cp70:=p7.cell 0
  have cp50:=p5.cell 0
  simp only [List.getElem?_cons_zero,List.getElem?_cons_succ] at cp70 cp50
  go_wp2
  go_ret
  exact ⟨rfl,bw⟩

theorem laid_two9 {W:World} {d e:String × DataW Unit} (hd:d.2.handleName?.isSome=true) (he:e.2.handleName?=none) (h:laidMetH Tryz.prog [d,e] W):laidMetH Tryz.prog [d] W∧laidMetH Tryz.prog [e] W:=by
 have f1:([d,e].filter fun x=>x.2.handleName?.isNone)=[e]:=by
  cases hdd:d.2.handleName? with
  | none=>rw [hdd] at hd;cases hd
  | some n=>simp [List.filter,he,hdd]
 have f2:([d,e].filter fun x=>x.2.handleName?.isSome)=[d]:=by
  cases hdd:d.2.handleName? with
  | none=>rw [hdd] at hd;cases hd
  | some n=>simp [List.filter,he,hdd]
 have f3:([d].filter fun x=>x.2.handleName?.isNone)=[]:=by
  cases hdd:d.2.handleName? with
  | none=>rw [hdd] at hd;cases hd
  | some n=>simp [List.filter,hdd]
 have f4:([d].filter fun x=>x.2.handleName?.isSome)=[d]:=by simp [List.filter,hd]
 have f6:([e].filter fun x=>x.2.handleName?.isSome)=[]:=by simp [List.filter,he]
 unfold laidMetH at h ⊢
 rw [f2] at h
 rw [f4,f6]
 simp only at h ⊢
 rw [f1] at h
 rw [f3]
 exact ⟨⟨h.1.tail,h.2⟩,h.1⟩
theorem fnMemo_laid {W:World} (h:laidMetH Tryz.prog Rows.fnMemoRow.laid W):VmShape W∧ErrType W:=by
 have h':=laid_two9 (W:=W) rfl rfl h
 exact ⟨vmShape_of_laid rfl h'.2,errType_of_laid rfl h'.1⟩
theorem fnMemo_door_met (os:Os) (args:Array Value):laidMetH Tryz.prog Rows.fnMemoRow.laid ((World.doorLaid Tryz.prog 400 os).forCall (fun _ _=>0) ⟨#[],args,[]⟩).memory:=
 laidMetH_of_parts3 (fuel:=8) (laidMet_of_run' 8 (by kernel_rfl) (by kernel_rfl)) (by kernel_rfl) (by kernel_rfl)


def varsFit (P:Program) (ns:List String):Bool:=ns.all fun n =>
 match P.globalNamed n with
 | some g=>match (P.globals[g]?).map (·.type) with
  | some t=>P.readableRec t && decide (t<P.types.size)
  | none=>false
 | none=>false

theorem var?_lt {P:Program} {W:World} {n:String} {g:Nat} {cs:Array Value} (hg:P.globalNamed n=some g) (hv:W.var? P n=some cs):g<W.heap.size:=by
 rcases Nat.lt_or_ge g W.heap.size with h | h
 ·exact h
 ·unfold World.var? at hv
  simp [hg,Array.getElem?_eq_none h] at hv

theorem vars_below {H:Type} {enc:TypeId × Value→H} {P:Program} {W W':World} (hl:laidOutB P=true) (bel:Below W.heap.size W W') :
  ∀ {ns:List String} {gs:List (DataW H)} {ps:List MemPlace},varsFit P ns=true→DataW.TrodVars enc P W (fun _=>true) ns gs ps→DataW.TrodVars enc P W' (fun b=>decide (b<W.heap.size)) ns gs ps
 | [],[],ps,_,h=>h
 | [],_::_,_,_,h=>by cases h
 | _::_,[],_,_,h=>by cases h
 | n::ns,d::ds,ps,hf,h=>by
  obtain ⟨g,t,cs,fuel,p,q,hg,ht,hv,hd,hr,e⟩:=h
  simp only [varsFit,List.all_cons,Bool.and_eq_true] at hf
  obtain ⟨hf1,hf2⟩:=hf
  rw [hg] at hf1
  simp only [ht,Bool.and_eq_true,decide_eq_true_eq] at hf1
  obtain ⟨fuel',hd'⟩:=Below.trod hl hf1.1 hf1.2 (v:=.agg cs) (⟨fuel,by simpa [Value.cells] using hd⟩:DataW.Trod enc P W 0 (fun _=>true) true t (.agg cs) d p) bel (DataW.trod_lt fuel _ _ _ hd)
  exact ⟨g,t,cs,fuel',p,q,hg,ht,var?_below bel hg (var?_lt hg hv) hv,by simpa [Value.cells] using hd',vars_below hl bel hf2 hr,e⟩

theorem vars_len {H:Type} {enc:TypeId × Value→H} {P:Program} {W:World} {spare:Nat→Bool}:∀ {ns:List String} {gs:List (DataW H)} {ps:List MemPlace},DataW.TrodVars enc P W spare ns gs ps→gs.length=ns.length
 | [],[],_,_=>rfl
 | [],_::_,_,h=>by cases h
 | _::_,[],_,h=>by cases h
 | _::_,_::_,_,h=>by
  obtain ⟨_,_,_,_,_,_,_,_,_,_,hr,_⟩:=h
  simp [vars_len hr]
end Go.Proofs.YtbdfbdbpjijcdaaGreatDoor
