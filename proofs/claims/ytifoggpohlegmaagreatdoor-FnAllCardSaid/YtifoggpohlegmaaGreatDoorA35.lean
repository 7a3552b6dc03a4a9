/-
  Joined: SpcO, VmOfS.
-/
import Derived.Carry
import Derived.Test.YtifoggpohlegmaaGreatDoorA34

namespace Go.Proofs.YtifoggpohlegmaaGreatDoor
set_option maxRecDepth 100000
set_option maxHeartbeats 16000000
open Go.RowKit
set_option linter.unusedVariables false
set_option linter.unusedSimpArgs false

theorem rows_of_codes6 {w:World} {a:Option Addr} {len cap:Nat} {rows:List (List I3)} (hC:Codes w a len cap rows) (hp:progOk rows=true):∃ cs,RowsAt w a cs rows:=(hC.rowsAt hp).2
def fullM (rows:List (List I3)) (z:V4):List (Rec6 V4):=srch (nxM rows) 2000 0 [(z,0,0)]
def SpcGot (e:Ending) (w w':World) (a:Option Addr) (rows:List (List I3)) (F:List (Rec6 V4)):Prop:=
 ∃ vs nb cs L,e=.returned (.tuple #[.agg #[vs,.map (some nb)],.int .i64 0])∧SpcD w' w.heap.size nb vs cs (mvsOf rows F) L L.length∧L.map (·.1)=F∧RowsAt w a cs rows∧Below w.heap.size w w'
structure OnSp (w wr:World) (X R nb:Nat) (vs:Value) (cs:Sl × Sl × Sl) (rows:List (List I3)) (z0:V4) (L:List (Rec6 V4 × Value)) (at9:Nat):Prop where
 sp:SpcD wr w.heap.size nb vs cs (mvsOf rows (fullM rows z0)) L at9
 bx:Blk wr X 106 [vs,.map (some nb)]
 br:Blk wr R 106 [.slice none 0 0,.map none]
 sh:Shaped (L.map (·.1))
 rn:srch (nxM rows) (2000 - at9) at9 (L.map (·.1))=fullM rows z0
 ln:L.length≤1+3*at9
 le:at9≤L.length
 a2:at9≤2000
 bl:Below w.heap.size w wr
theorem OnSp.fin {w wr:World} {X R nb:Nat} {vs:Value} {cs:Sl × Sl × Sl} {rows:List (List I3)} {z0:V4} {L:List (Rec6 V4 × Value)} {at9:Nat} (h:OnSp w wr X R nb vs cs rows z0 L at9) (hx:at9=L.length∨at9=2000):L.map (·.1)=fullM rows z0:=by
 have e:=h.rn
 rcases hx with hx | hx
 ·rw [srch_end (by simp;omega)] at e
  exact e
 ·subst hx
  exact e
theorem OnSp.go {w wr w':World} {X R nb:Nat} {vs vs':Value} {cs:Sl × Sl × Sl} {rows:List (List I3)} {z0:V4} {L L':List (Rec6 V4 × Value)} {at9:Nat} {r:Rec6 V4} {mv:Value} (h:OnSp w wr X R nb vs cs rows z0 L at9) (hr:L[at9]?=some (r,mv)) (hRX:R≠X) (hBX:w.heap.size≤X) (ha:at9<2000)
  (sp:SpcD w' w.heap.size nb vs' cs (mvsOf rows (fullM rows z0)) L' (at9+1)) (bx:Blk w' X 106 [vs',.map (some nb)]) (st:L'.map (·.1)=onS at9 (L.map (·.1)) (nxM rows r.1)) (sh:Shaped (L'.map (·.1))) (ln:L'.length≤L.length+3) (kp:KeptS wr w' X nb vs):OnSp w w' X R nb vs' cs rows z0 L' (at9+1):=by
 have hl:at9<L.length:=(List.getElem?_eq_some_iff.1 hr).1
 have hlm:at9<(L.map (·.1)).length:=by simpa using hl
 have hat:((L.map (·.1))[at9]'hlm)=r:=by
  have e:=(List.getElem?_eq_some_iff.1 hr).2
  simp [e]
 obtain ⟨D,hm,_⟩:=h.sp.map
 refine ⟨sp,bx,(kp.block R h.br.lt hRX (map_blk hm h.br) (own_ne_blk9 h.sp.row h.br (by decide))).trans h.br,sh,?_,by have:=h.ln;omega,?_,by omega,h.sp.belowK kp hBX h.bl⟩
 ·have e:=h.rn
  rw [show 2000 - at9=(1999 - at9)+1 by omega,srch_go hlm,hat,← st] at e
  rw [show 2000 - (at9+1)=1999 - at9 by omega]
  exact e
 ·have h2:=(onS_pre at9 (nxM rows r.1) (L.map (·.1))).length_le
  rw [← st] at h2
  simp at h2
  omega
theorem OnSp.pre {w wr:World} {X R nb:Nat} {vs:Value} {cs:Sl × Sl × Sl} {rows:List (List I3)} {z0:V4} {L:List (Rec6 V4 × Value)} {at9:Nat} {r:Rec6 V4} {mv:Value} (h:OnSp w wr X R nb vs cs rows z0 L at9) (hr:L[at9]?=some (r,mv)) (ha:at9<2000):onS at9 (L.map (·.1)) (nxM rows r.1) <+: fullM rows z0:=by
 have hl:at9<L.length:=(List.getElem?_eq_some_iff.1 hr).1
 have hlm:at9<(L.map (·.1)).length:=by simpa using hl
 have hat:((L.map (·.1))[at9]'hlm)=r:=by
  have e:=(List.getElem?_eq_some_iff.1 hr).2
  simp [e]
 have e:=h.rn
 rw [show 2000 - at9=(1999 - at9)+1 by omega,srch_go hlm,hat] at e
 rw [← e]
 exact srch_pre _ _ _ _

theorem spaceOf_bad (a:Option Addr) (len cap:Nat) (rows:List (List I3)) (s:S4) (m:V4) (w:World) (hC:Codes w a len cap rows) (h:Vmem w s m) (hV:VmShape w) (hok:(progOk rows && shapeOk m)=false) :
  Calls Tryz.prog 67 #[.agg #[.slice a len cap],s.val] w fun e w'=>e=.returned (.tuple #[.agg #[.slice none 0 0,.map none],.int .i64 1])∧Below w.heap.size w w':=by
 have kM:=fun W hC h hV=>machineOf_bad a len cap rows s m W hC h hV hok
 have hM:=fun (W:World) (hb:Below w.heap.size w W)=>h.below hb
 obtain ⟨⟨a0,n0,c0⟩,⟨a1,n1,c1⟩,⟨a2,n2,c2⟩,⟨a3,n3,c3⟩⟩:=s
 have uA:S4.val ((a0,n0,c0),(a1,n1,c1),(a2,n2,c2),(a3,n3,c3))=.agg #[.slice a0 n0 c0,.slice a1 n1 c1,.slice a2 n2 c2,.slice a3 n3 c3]:=rfl
 rw [uA] at kM ⊢
 clear uA h
 have bw:Below w.heap.size w (((w.alloc (.cells #[.slice a len cap] 25)).alloc (.cells #[.slice a0 n0 c0,.slice a1 n1 c1,.slice a2 n2 c2,.slice a3 n3 c3] 33)).alloc (.cells #[.slice none 0 0,.map none] 106)):=by go_grown
 have pP:Blk (((w.alloc (.cells #[.slice a len cap] 25)).alloc (.cells #[.slice a0 n0 c0,.slice a1 n1 c1,.slice a2 n2 c2,.slice a3 n3 c3] 33)).alloc (.cells #[.slice none 0 0,.map none] 106)) w.heap.size 25 [.slice a len cap]:=blkOld _ (blkOld _ (blkAt _ _ _ rfl))
 have pS:Blk (((w.alloc (.cells #[.slice a len cap] 25)).alloc (.cells #[.slice a0 n0 c0,.slice a1 n1 c1,.slice a2 n2 c2,.slice a3 n3 c3] 33)).alloc (.cells #[.slice none 0 0,.map none] 106)) (w.heap.size+1) 33 [.slice a0 n0 c0,.slice a1 n1 c1,.slice a2 n2 c2,.slice a3 n3 c3]:=blkOld _ (blkAt _ _ _ (by simp))
 have pR:Blk (((w.alloc (.cells #[.slice a len cap] 25)).alloc (.cells #[.slice a0 n0 c0,.slice a1 n1 c1,.slice a2 n2 c2,.slice a3 n3 c3] 33)).alloc (.cells #[.slice none 0 0,.map none] 106)) (w.heap.size+2) 106 [.slice none 0 0,.map none]:=blkAt _ _ _ (by simp)
 go_enter Tryz.func67,Tryz.ntmps67
 go_wp2_with fail
 generalize (((w.alloc (.cells #[.slice a len cap] 25)).alloc (.cells #[.slice a0 n0 c0,.slice a1 n1 c1,.slice a2 n2 c2,.slice a3 n3 c3] 33)).alloc (.cells #[.slice none 0 0,.map none] 106))=U at *
 have kMx:=kM U (hC.below bw) (hM _ bw) (hV.below bw)
 clear kM hM hC hV
 go_wp2_with (first | refine wpList_load_blk rfl 25 _ rfl w.heap.size rfl pP _ Tryz.underlying25 rfl (by kernel_rfl) ?_ | refine wpList_load_blk rfl 33 _ rfl (w.heap.size+1) rfl pS _ Tryz.underlying33 rfl (by kernel_rfl) ?_)
 refine kMx.mono ?_
 rintro e w1 ⟨rfl,hb⟩
 replace bw:=bel_trans bw hb
 replace pR:=pR.below hb
 clear hb kMx pP pS
 have pN:=Blk.new w1 89 [.slice none 0 0,.int .i64 0,.int .i64 0,.int .i64 0,.slice none 0 0,.int .i64 0,.int .i64 0,.int .i64 0,.slice none 0 0,.int .i64 0,.int .i64 0,.int .i64 0,.int .i64 0,.int .i64 0,.int .i64 0,.int .i64 0,.int .i64 0,.int .i64 0]
 have hbN:Below w1.heap.size w1 (w1.alloc (.cells #[.slice none 0 0,.int .i64 0,.int .i64 0,.int .i64 0,.slice none 0 0,.int .i64 0,.int .i64 0,.int .i64 0,.slice none 0 0,.int .i64 0,.int .i64 0,.int .i64 0,.int .i64 0,.int .i64 0,.int .i64 0,.int .i64 0,.int .i64 0,.int .i64 0] 89)):=by go_grown
 go_wp2_with (refine wpList_store_blk rfl 89 _ _ rfl w1.heap.size [.slice none 0 0,.int .i64 0,.int .i64 0,.int .i64 0,.slice none 0 0,.int .i64 0,.int .i64 0,.int .i64 0,.slice none 0 0,.int .i64 0,.int .i64 0,.int .i64 0,.int .i64 0,.int .i64 0,.int .i64 0,.int .i64 0,.int .i64 0,.int .i64 0] rfl rfl pN (by kernel_rfl) rfl rfl ?_)
 intro w2 p2 g2
 have b2:Below w1.heap.size w1 w2:=hbN.grown g2 hbN.size (fun k e=>by cases e;exact Nat.le_refl _)
 replace bw:=bel_trans bw b2
 replace pR:=pR.below b2
 clear p2 g2 hbN pN b2
 go_wp2_with (refine wpList_store_blk rfl 106 _ _ rfl (w.heap.size+2) [.slice none 0 0,.map none] rfl rfl pR (by kernel_rfl) rfl rfl ?_)
 intro w3 p3 g3
 replace bw:=bw.grown g3 bw.size (fun k e=>by cases e;omega)
 clear g3 pR
 go_wp2_with fail
 refine bodyPost_ret (results_blk2 Tryz.results67 _ _ _ _ _ _ rfl p3.out Tryz.underlying106 rfl (by kernel_rfl)) rfl ?_
 exact ⟨rfl,bw⟩

theorem spaceOf_isM (a:Option Addr) (len cap:Nat) (rows:List (List I3)) (s:S4) (z0:V4) (w:World) (hC:Codes w a len cap rows) (h:Vmem w s z0) (hV:VmShape w) (hp:progOk rows=true) (hz:shapeOk z0=true) :
  Calls Tryz.prog 67 #[.agg #[.slice a len cap],s.val] w fun e w'=>if (fullM rows z0).length≤2000 then SpcGot e w w' a rows (fullM rows z0) else (e=.returned (.tuple #[.agg #[.slice none 0 0,.map none],.int .i64 15])∧Below w.heap.size w w'):=by
 have kM:=fun W hC h hV=>machineOf_ok a len cap rows s z0 W hC h hV hp hz
 have hM:=fun (W:World) (hb:Below w.heap.size w W)=>h.below hb
 obtain ⟨cs,hR⟩:=rows_of_codes6 hC hp
 have hI:∀ k,k<3→Instrs w (slK cs k).1 (slK cs k).2.1 (slK cs k).2.2 (codeM rows k):=by
  obtain ⟨b,off,_,_,hk⟩:=hR
  exact fun k h3=>(hk k h3).2
 obtain ⟨⟨a0,n0,c0⟩,⟨a1,n1,c1⟩,⟨a2,n2,c2⟩,⟨a3,n3,c3⟩⟩:=s
 have uA:S4.val ((a0,n0,c0),(a1,n1,c1),(a2,n2,c2),(a3,n3,c3))=.agg #[.slice a0 n0 c0,.slice a1 n1 c1,.slice a2 n2 c2,.slice a3 n3 c3]:=rfl
 rw [uA] at kM ⊢
 clear uA h
 have bw:Below w.heap.size w (((w.alloc (.cells #[.slice a len cap] 25)).alloc (.cells #[.slice a0 n0 c0,.slice a1 n1 c1,.slice a2 n2 c2,.slice a3 n3 c3] 33)).alloc (.cells #[.slice none 0 0,.map none] 106)):=by go_grown
 have pP:Blk (((w.alloc (.cells #[.slice a len cap] 25)).alloc (.cells #[.slice a0 n0 c0,.slice a1 n1 c1,.slice a2 n2 c2,.slice a3 n3 c3] 33)).alloc (.cells #[.slice none 0 0,.map none] 106)) w.heap.size 25 [.slice a len cap]:=blkOld _ (blkOld _ (blkAt _ _ _ rfl))
 have pS:Blk (((w.alloc (.cells #[.slice a len cap] 25)).alloc (.cells #[.slice a0 n0 c0,.slice a1 n1 c1,.slice a2 n2 c2,.slice a3 n3 c3] 33)).alloc (.cells #[.slice none 0 0,.map none] 106)) (w.heap.size+1) 33 [.slice a0 n0 c0,.slice a1 n1 c1,.slice a2 n2 c2,.slice a3 n3 c3]:=blkOld _ (blkAt _ _ _ (by simp))
 have pR:Blk (((w.alloc (.cells #[.slice a len cap] 25)).alloc (.cells #[.slice a0 n0 c0,.slice a1 n1 c1,.slice a2 n2 c2,.slice a3 n3 c3] 33)).alloc (.cells #[.slice none 0 0,.map none] 106)) (w.heap.size+2) 106 [.slice none 0 0,.map none]:=blkAt _ _ _ (by simp)
 have hmm:=@run_makeMap Tryz.prog
 go_enter Tryz.func67,Tryz.ntmps67
 go_wp2_with fail
 generalize (((w.alloc (.cells #[.slice a len cap] 25)).alloc (.cells #[.slice a0 n0 c0,.slice a1 n1 c1,.slice a2 n2 c2,.slice a3 n3 c3] 33)).alloc (.cells #[.slice none 0 0,.map none] 106))=U at *
 have kMx:=kM U (hC.below bw) (hM _ bw) (hV.below bw)
 have hRU:=hR.below bw
 clear kM hM hC
 go_wp2_with (first | refine wpList_load_blk rfl 25 _ rfl w.heap.size rfl pP _ Tryz.underlying25 rfl (by kernel_rfl) ?_ | refine wpList_load_blk rfl 33 _ rfl (w.heap.size+1) rfl pS _ Tryz.underlying33 rfl (by kernel_rfl) ?_)
 refine kMx.mono ?_
 rintro e w1 ⟨⟨cs',rfl,hR'⟩,hb⟩
 obtain rfl:=hRU.uniq hR'
 replace bw:=bel_trans bw hb
 replace pR:=pR.below hb
 clear hb kMx pP pS hR' hRU
 have pN:=Blk.new w1 89 [.slice none 0 0,.int .i64 0,.int .i64 0,.int .i64 0,.slice none 0 0,.int .i64 0,.int .i64 0,.int .i64 0,.slice none 0 0,.int .i64 0,.int .i64 0,.int .i64 0,.int .i64 0,.int .i64 0,.int .i64 0,.int .i64 0,.int .i64 0,.int .i64 0]
 have hbN:Below w1.heap.size w1 (w1.alloc (.cells #[.slice none 0 0,.int .i64 0,.int .i64 0,.int .i64 0,.slice none 0 0,.int .i64 0,.int .i64 0,.int .i64 0,.slice none 0 0,.int .i64 0,.int .i64 0,.int .i64 0,.int .i64 0,.int .i64 0,.int .i64 0,.int .i64 0,.int .i64 0,.int .i64 0] 89)):=by go_grown
 go_wp2_with (refine wpList_store_blk rfl 89 _ _ rfl w1.heap.size (machCells cs.1.val cs.2.1.val cs.2.2.val z0) rfl rfl pN (by kernel_rfl) rfl rfl ?_)
 intro w2 p2 g2
 have pM:=p2.out
 have b2:Below w1.heap.size w1 w2:=hbN.grown g2 hbN.size (fun k e=>by cases e;exact Nat.le_refl _)
 replace bw:=bel_trans bw b2
 replace pR:=pR.below b2
 clear p2 g2 hbN pN b2
 generalize w1.heap.size=Y at *
 have hN0:NumD (.map []) ([]:List (Rec6 V4)):=NumD.start
 have hbs:=bw.size
 have hRlt:=pR.lt
 have pX:=Blk.new (w2.alloc (.map #[] 0)) 106 [.slice none 0 0,.map none]
 have hm0:((w2.alloc (.map #[] 0)).alloc (.cells #[.slice none 0 0,.map none] 106)).ownsMap Tryz.prog 9 (plainElem Tryz.prog 3) w2.heap.size 0 (.map []:DataW Unit):=(World.ownsMap_made (H:=Unit) w2 Tryz.prog 9 (plainElem Tryz.prog 3)).alloc _
 have hbM:Below w2.heap.size w2 (w2.alloc (.map #[] 0)):=⟨rfl,rfl,rfl,by simp,fun k hk=>Below.heap_alloc w2 _ k hk⟩
 have hbX:Below w2.heap.size w2 ((w2.alloc (.map #[] 0)).alloc (.cells #[.slice none 0 0,.map none] 106)):=bel_trans hbM ⟨rfl,rfl,rfl,by simp,fun k hk=>Below.heap_alloc _ _ k hk⟩
 simp only [World.size_alloc] at pX
 go_wp2_with (refine wpList_store_blk rfl 106 _ _ rfl (w2.heap.size+1) [.slice none 0 0,.map (some w2.heap.size)] rfl rfl pX (by kernel_rfl) rfl rfl ?_)
 intro w3 p3 g3
 have bx:=p3.out
 have hm3:=hm0.kept g3 (by simp)
 have b3:Below w2.heap.size w2 w3:=hbX.grown g3 hbX.size (fun k e=>by cases e;omega)
 replace bw:=bel_trans bw b3
 replace pR:=pR.below b3
 replace pM:=pM.below b3
 clear p3 g3 hbX hbM hm0 pX b3 hmm
 have sp0:SpcD w3 w.heap.size w2.heap.size (.slice none 0 0) cs (mvsOf rows (fullM rows z0)) [] 0:=⟨World.ownsRow_nil _ _ _ _,⟨_,hm3,hN0⟩,fun i r mv hi=>by omega,fun i r mv _ hr=>by simp at hr,hbs⟩
 have kT:=meet_is sp0 bx bw.size (Nat.le_refl 0) (fun r hr=>by simp at hr) (hV.below bw) hz (by decide) 0 0
 have hXB:w.heap.size≤w2.heap.size+1:=by omega
 have hRX:w.heap.size+2≠w2.heap.size+1:=by omega
 go_wp2_with (refine wpList_load_blk rfl 89 _ rfl Y rfl pM _ Tryz.underlying89 rfl (by kernel_rfl) ?_)
 refine kT.mono ?_
 rintro e w4 ⟨vs,rfl,sp,bx4,k4,m4⟩
 have st:OnSp w w4 (w2.heap.size+1) (w.heap.size+2) w2.heap.size vs cs rows z0 (putL 0 [] 0 z0) 0:=by
  refine ⟨sp,bx4,?_,?_,?_,?_,Nat.zero_le _,by decide,sp0.belowK k4 hXB bw⟩
  ·exact (k4.block _ pR.lt hRX (map_blk hm3 pR) (own_ne_blk9 sp0.row pR (by decide))).trans pR
  ·rw [putL_map];exact putS_shaped (fun r hr=>by simp at hr) hz
  ·rw [putL_map];rfl
  ·exact putL_len 0 [] 0 z0
 generalize w2.heap.size+1=X at *
 generalize w2.heap.size=nb at *
 have hRB9:w.heap.size≤w.heap.size+2:=by omega
 generalize w.heap.size+2=R at *
 generalize putL 0 [] 0 z0=L0 at *
 clear kT sp bx4 k4 m4 sp0 bx bw pR pM hm3 hN0 hRlt hbs
 go_wp2_with fail
 go_loopw [24] (fun s24 wr=>∃ (at9:Nat) (vs:Value) (L:List (Rec6 V4 × Value)),s24=.int .i64 at9∧OnSp w wr X R nb vs cs rows z0 L at9) (fun s24 _=>2000 - (intOf s24).toNat)
 case atStart=>exact ⟨0,_,_,rfl,st⟩
 case round =>
  clear st vs
  obtain ⟨at9,vs,L,rfl,hO⟩:=hrel
  obtain ⟨va,vn,vc,rfl⟩:∃ va vn vc,vs=.slice va vn vc:=own_slice6 hO.sp.row
  obtain rfl:vn=L.length:=by
   rcases hO.sp.row.2 with ⟨h1,h2⟩ | ⟨gq,cq,cur,h1,_⟩
   ·cases h1;exact h2.symm
   ·cases h1;rfl
  have cX0:wr.cell? ⟨X,0,none⟩=some (.slice va L.length vc):=by simpa using hO.bx.cell 0
  by_cases hlt:at9<2000
  ·have hlt1:(at9:Int)<2000:=by omega
   by_cases hel:at9=L.length
   ·have hxl:at9=L.length∨at9=2000:=.inl hel
    have hF:=hO.fin hxl
    have hq1:((at9:Int) == (L.length:Int))=true:=by rw [hel];simp
    have hq2:decide ((at9:Int)=(L.length:Int))=true:=by rw [hel];simp
    clear hel
    have hfl:(fullM rows z0).length=L.length:=by rw [← hF];simp
    by_cases hbig:2000<L.length
    ·omega
    ·have hif:(fullM rows z0).length≤2000:=by omega
     have hb1:¬ (2000:Int)<(L.length:Int):=by omega
     have pR:=hO.br
     have bw:=hO.bl
     have bx:=hO.bx
     have hRB:w.heap.size≤R:=hRB9
     have sp:=hO.sp
     obtain rfl:at9=L.length:=by have:=hO.le;omega
     clear hO hfl hbig hxl
     go_wp2_with (first | refine wpList_load_blk rfl 106 _ rfl X rfl bx _ Tryz.underlying106 rfl (by kernel_rfl) ?_ | refine wpList_store_blk rfl 106 _ _ rfl R [.slice va L.length vc,.map (some nb)] rfl rfl pR (by kernel_rfl) rfl rfl ?_)
     intro w9 p9 g9
     replace bw:=bw.grown g9 bw.size (fun k e=>by cases e;exact hRB)
     replace sp:=sp.grown g9 pR (by decide) (by decide)
     have HG:Hid (SpcGot (.returned (.tuple #[.agg #[.slice va L.length vc,.map (some nb)],.int .i64 0])) w w9 a rows (fullM rows z0)):=⟨_,_,_,_,rfl,sp,hF,hR,bw⟩
     clear g9 pR sp bx bw hF
     go_wp2_with fail
     refine bodyPost_ret (results_blk2 Tryz.results67 _ _ _ _ _ _ rfl p9.out Tryz.underlying106 rfl (by kernel_rfl)) rfl ?_
     exact HG.out
   ·have hal:at9<L.length:=by have:=hO.le;omega
    have hq1:((at9:Int) == (L.length:Int))=false:=beq_false_of_ne (by omega)
    have hq2:decide ((at9:Int)=(L.length:Int))=false:=decide_eq_false (by omega)
    obtain ⟨r,mv,hr⟩:∃ r mv,L[at9]?=some (r,mv):=⟨L[at9].1,L[at9].2,by rw [List.getElem?_eq_getElem hal]⟩
    obtain rfl:=hO.sp.nil at9 r mv (Nat.le_refl _) hr
    have kG:=goOn_is hO.sp hO.bx hXB hO.bl hr hO.sh hp hV hI (hO.pre hr hlt) (by have:=hO.ln;omega)
    have HGo:=fun (w5:World) (vs5:Value) (L5:List (Rec6 V4 × Value))=>hO.go (w':=w5) (vs':=vs5) (L':=L5) hr hRX hXB hlt
    clear hel hal hr
    go_wp2_with fail
    refine kG.mono ?_
    rintro e w5 ⟨vs5,L5,rfl,sp5,bx5,st5,sh5,ln5,k5,m5⟩
    have st9:=HGo w5 vs5 L5 sp5 bx5 st5 sh5 ln5 k5
    clear kG HGo sp5 bx5 st5 sh5 ln5 k5 m5 hO cX0
    go_wp2
    go_roundw
    case rel=>exact ⟨at9+1,_,_,by go_num,st9⟩
    case measure=>simp [intOf];omega
  ·have hlt1:¬ (at9:Int)<2000:=by omega
   have hxl:at9=L.length∨at9=2000:=.inr (by have:=hO.a2;omega)
   have hF:=hO.fin hxl
   have hfl:(fullM rows z0).length=L.length:=by rw [← hF];simp
   by_cases hbig:2000<L.length
   ·have hif:¬ (fullM rows z0).length≤2000:=by omega
    have hb1:(2000:Int)<(L.length:Int):=by omega
    have pR:=hO.br
    have bw:=hO.bl
    have hRB:w.heap.size≤R:=hRB9
    clear hF hfl hO hbig
    go_wp2_with (refine wpList_store_blk rfl 106 _ _ rfl R [.slice none 0 0,.map none] rfl rfl pR (by kernel_rfl) rfl rfl ?_)
    intro w9 p9 g9
    replace bw:=bw.grown g9 bw.size (fun k e=>by cases e;exact hRB)
    clear g9 pR
    go_wp2_with fail
    refine bodyPost_ret (results_blk2 Tryz.results67 _ _ _ _ _ _ rfl p9.out Tryz.underlying106 rfl (by kernel_rfl)) rfl ?_
    exact ⟨rfl,bw⟩
   ·have hif:(fullM rows z0).length≤2000:=by omega
    have hb1:¬ (2000:Int)<(L.length:Int):=by omega
    have pR:=hO.br
    have bw:=hO.bl
    have bx:=hO.bx
    have hRB:w.heap.size≤R:=hRB9
    have sp:=hO.sp
    obtain rfl:at9=L.length:=by have:=hO.le;omega
    clear hO hfl hbig hxl
    go_wp2_with (first | refine wpList_load_blk rfl 106 _ rfl X rfl bx _ Tryz.underlying106 rfl (by kernel_rfl) ?_ | refine wpList_store_blk rfl 106 _ _ rfl R [.slice va L.length vc,.map (some nb)] rfl rfl pR (by kernel_rfl) rfl rfl ?_)
    intro w9 p9 g9
    replace bw:=bw.grown g9 bw.size (fun k e=>by cases e;exact hRB)
    replace sp:=sp.grown g9 pR (by decide) (by decide)
    have HG:Hid (SpcGot (.returned (.tuple #[.agg #[.slice va L.length vc,.map (some nb)],.int .i64 0])) w w9 a rows (fullM rows z0)):=⟨_,_,_,_,rfl,sp,hF,hR,bw⟩
    clear g9 pR sp bx bw hF
    go_wp2_with fail
    refine bodyPost_ret (results_blk2 Tryz.results67 _ _ _ _ _ _ rfl p9.out Tryz.underlying106 rfl (by kernel_rfl)) rfl ?_
    exact HG.out
theorem spaceOf_is (a:Option Addr) (len cap:Nat) (rows:List (List I3)) (s:S4) (w:World) (hC:Codes w a len cap rows) (h:Vmem w s zeroV) (hV:VmShape w) (hp:progOk rows=true) :
  Calls Tryz.prog 67 #[.agg #[.slice a len cap],s.val] w fun e w'=>if (fullS rows).length≤2000 then SpcGot e w w' a rows (fullS rows) else (e=.returned (.tuple #[.agg #[.slice none 0 0,.map none],.int .i64 15])∧Below w.heap.size w w'):=
 spaceOf_isM a len cap rows s zeroV w hC h hV hp zero_shape


def VmGotB (e:Ending) (w:World) (B:Nat) (z:V4) (b:Bool):Prop:=∃ t:S4,e=.returned (.tuple #[t.val,.bool b])∧OwnV w B t z
theorem VmGotB.mk9 {e:Ending} {w:World} {B:Nat} {z:V4} {b:Bool} (t:S4) (h:e=.returned (.tuple #[t.val,.bool b])) (hO:OwnV w B t z):VmGotB e w B z b:=⟨t,h,hO⟩

def OfB (s:ByteArray) (z:V4) (b:Bool):Prop:=b=shapeOk (bytesV s)∧(b=true→z=bytesV s)
theorem l00Digit_yes9 (x:Int) (w:World) (h:48≤x∧x≤57):Calls Tryz.prog 139 #[.int .u8 x] w fun e w'=>e=.returned (.bool true)∧w=w':=by
 have h1:decide (48≤x)=true:=by simp;omega
 have h2:decide (x≤57)=true:=by simp;omega
 go_enter Tryz.func139,Tryz.ntmps139
 go_wp2
 go_ret
 exact ⟨rfl,rfl⟩
theorem l00Digit_no9 (x:Int) (w:World) (h:¬ (48≤x∧x≤57)):Calls Tryz.prog 139 #[.int .u8 x] w fun e w'=>e=.returned (.bool false)∧w=w':=by
 by_cases h0:48≤x
 ·have h1:decide (48≤x)=true:=by simp;omega
  have h2:decide (x≤57)=false:=by simp;omega
  clear h
  go_enter Tryz.func139,Tryz.ntmps139
  go_wp2
  go_ret
  exact ⟨rfl,rfl⟩
 ·have h1:decide (48≤x)=false:=by simp;omega
  clear h
  go_enter Tryz.func139,Tryz.ntmps139
  go_wp2
  go_ret
  exact ⟨rfl,rfl⟩
theorem fill_mem (s:ByteArray) {off n i j:Nat} (h:j<n) (h':off+j<i):btV s (off+j) - 48 ∈ fillL s off n i:=by
 unfold fillL
 refine List.mem_map.2 ⟨j,by simpa using h,?_⟩
 rw [if_pos h']
theorem shape_digit {s:ByteArray} (h:shapeOk (bytesV s)=true) {i:Nat} (hi:i<15):48≤btV s i∧btV s i≤57:=by
 obtain ⟨_,_,_,_,hd⟩:=shape_parts h
 have key:btV s i - 48 ∈ allOf (bytesV s):=by
  unfold allOf bytesV partV
  simp only [List.mem_append]
  by_cases h0:i<3
  ·have:=fill_mem s (off:=0) (n:=3) (i:=15) (j:=i) h0 (by omega)
   rw [Nat.zero_add] at this
   exact .inl (.inl (.inl this))
  ·by_cases h1:i<7
   ·obtain ⟨j,rfl⟩:∃ j,i=3+j:=⟨i - 3,by omega⟩
    exact .inl (.inl (.inr (fill_mem s (by omega) (by omega))))
   ·by_cases h2:i<9
    ·obtain ⟨j,rfl⟩:∃ j,i=7+j:=⟨i - 7,by omega⟩
     exact .inl (.inr (fill_mem s (by omega) (by omega)))
    ·obtain ⟨j,rfl⟩:∃ j,i=9+j:=⟨i - 9,by omega⟩
     exact .inr (fill_mem s (by omega) (by omega))
 have:=hd _ key
 omega

theorem l03Of_15 (s:ByteArray) (w:World) (h15:s.size=15) :
  Calls Tryz.prog 84 #[.string s] w fun e w'=>(∃ z b,VmGotB e w' w.heap.size z b∧OfB s z b)∧Below w.heap.size w w':=by
 have kN:=specNewVm_is
 have kR:=fun t w h=>l03Shape_is t (bytesV s) w h
 have hfit:=partV_fits s 15
 have HD:Hid (∀ i,i<15→¬ (48≤btV s i∧btV s i≤57)→shapeOk (bytesV s)=false):=fun i hi hn=>by
  cases h:shapeOk (bytesV s)
  ·rfl
  ·exact absurd (shape_digit h hi) hn
 have bw:Below w.heap.size w (w.alloc (.cells #[.slice none 0 0,.slice none 0 0,.slice none 0 0,.slice none 0 0] 33)):=by go_grown
 have pR:=Blk.new w 33 [.slice none 0 0,.slice none 0 0,.slice none 0 0,.slice none 0 0]
 have hne:((s.size:Int) != 15)=false:=by simp [h15]
 have hsz:(s.size:Int)=15:=by omega
 go_enter Tryz.func84,Tryz.ntmps84
 go_wp2_with fail
 refine (kN _).mono ?_
 rintro e w1 ⟨⟨t,rfl,hO⟩,hb⟩
 obtain ⟨g0,g1,g2,g3,c0,c1,c2,c3,rfl,⟨l0,l1,l2,l3⟩,m0,m1,m2,m3⟩:=newVm_open hO
 unfold maxLen at m0 m1 m2 m3
 replace kR:=kR ((some ⟨g0,0,none⟩,3,c0),(some ⟨g1,0,none⟩,4,c1),(some ⟨g2,0,none⟩,2,c2),(some ⟨g3,0,none⟩,6,c3))
 have uX:S4.val ((some ⟨g0,0,none⟩,3,c0),(some ⟨g1,0,none⟩,4,c1),(some ⟨g2,0,none⟩,2,c2),(some ⟨g3,0,none⟩,6,c3))=.agg #[.slice (some ⟨g0,0,none⟩) 3 c0,.slice (some ⟨g1,0,none⟩) 4 c1,.slice (some ⟨g2,0,none⟩) 2 c2,.slice (some ⟨g3,0,none⟩) 6 c3]:=rfl
 rw [uX] at kR ⊢
 clear uX
 replace hO:=hO.lower9 bw.size
 have bA:Below w1.heap.size w1 (w1.alloc (.cells #[.slice (some ⟨g0,0,none⟩) 3 c0,.slice (some ⟨g1,0,none⟩) 4 c1,.slice (some ⟨g2,0,none⟩) 2 c2,.slice (some ⟨g3,0,none⟩) 6 c3] 33)):=by go_grown
 have pS:=Blk.new w1 33 [.slice (some ⟨g0,0,none⟩) 3 c0,.slice (some ⟨g1,0,none⟩) 4 c1,.slice (some ⟨g2,0,none⟩) 2 c2,.slice (some ⟨g3,0,none⟩) 6 c3]
 have hgS:w.heap.size<w1.heap.size:=Nat.lt_of_lt_of_le (by simp) hb.size
 replace bw:=bel_trans bw (bel_trans hb bA)
 replace pR:=pR.below (bel_trans hb bA)
 replace hO:=hO.below bA
 rw [← partV_zero s] at hO
 clear hb bA kN
 go_wp2_with fail
 generalize (w1.alloc (.cells #[.slice (some ⟨g0,0,none⟩) 3 c0,.slice (some ⟨g1,0,none⟩) 4 c1,.slice (some ⟨g2,0,none⟩) 2 c2,.slice (some ⟨g3,0,none⟩) 6 c3] 33))=W1 at *
 generalize w1.heap.size=gS at *
 go_loopw [5] (fun si wr=>∃ i:Nat,i≤15∧si=.int .i64 i∧OwnV wr w.heap.size ((some ⟨g0,0,none⟩,3,c0),(some ⟨g1,0,none⟩,4,c1),(some ⟨g2,0,none⟩,2,c2),(some ⟨g3,0,none⟩,6,c3)) (partV s i)∧Blk wr gS 33 [.slice (some ⟨g0,0,none⟩) 3 c0,.slice (some ⟨g1,0,none⟩) 4 c1,.slice (some ⟨g2,0,none⟩) 2 c2,.slice (some ⟨g3,0,none⟩) 6 c3]∧Blk wr w.heap.size 33 [.slice none 0 0,.slice none 0 0,.slice none 0 0,.slice none 0 0]∧Below w.heap.size w wr) (fun si _=>15 - (intOf si).toNat)
 case atStart=>exact ⟨0,by omega,rfl,hO,pS,pR,bw⟩
 case round =>
  clear hO pS pR bw
  obtain ⟨i,hi,rfl,hO,pS,pR,bw⟩:=hrel
  by_cases hlt:i<15
  ·have hbb:=btV_bounds s i
   by_cases hdg:48≤btV s i∧btV s i≤57
   ·have e0:=pS.cell 0
    have e1:=pS.cell 1
    have e2:=pS.cell 2
    have e3:=pS.cell 3
    simp only [List.getElem?_cons_zero,List.getElem?_cons_succ] at e0 e1 e2 e3
    by_cases k0:i<3
    ·skip
     have hix:=idx_btVz s (i) ((i:Int)) (by omega) (by omega)
     have hst:=hO.set0 i (btV s (i) - 48)
     rw [partV_0 s (by omega)] at hst
     obtain ⟨old,hold⟩:∃ u,wr.cell? ⟨g0,i,none⟩=some u:=⟨_,hO.1.1.at9 (by omega)⟩
     have hfz:=hO.1.1.frz9 i
     have hlo:=hO.1.1.lo9
     have neS:=hO.1.1.ne9 pS (by decide)
     have neR:=hO.1.1.ne9 pR (by decide)
     have kD:=fun w=>l00Digit_yes9 (btV s (i)) w hdg
     generalize btV s (i)=bx at *
     have pS2:=pS.off ⟨g0,i,none⟩ (.int .i64 (bx - 48)) neS
     have pR2:=pR.off ⟨g0,i,none⟩ (.int .i64 (bx - 48)) neR
     have b2:=bw.setCell (p:=⟨g0,i,none⟩) hlo.1 (.int .i64 (bx - 48))
     have hjI:(i:Int)<3:=by omega
     have hwb:IntKind.u8.wrap (bx - 48)=bx - 48:=IntWalk.u8_in _ (by omega)
     clear hO pS pR bw
     go_wp2_with fail
     refine (kD _).mono ?_
     rintro e wd ⟨rfl,rfl⟩
     go_wp2
     go_roundw
     case rel=>exact ⟨i+1,by omega,by go_num,hst,pS2,pR2,b2⟩
     case measure=>simp [intOf];omega
    ·by_cases k1:i<7
     ·obtain ⟨j,rfl⟩:∃ j,i=3+j:=⟨i - 3,by omega⟩
      have hix:=idx_btVz s (3+j) (3+(j:Int)) (by omega) (by omega)
      have hst:=hO.set1 j (btV s (3+j) - 48)
      rw [partV_1 s (by omega)] at hst
      obtain ⟨old,hold⟩:∃ u,wr.cell? ⟨g1,j,none⟩=some u:=⟨_,hO.1.2.1.at9 (by omega)⟩
      have hfz:=hO.1.2.1.frz9 j
      have hlo:=hO.1.2.1.lo9
      have neS:=hO.1.2.1.ne9 pS (by decide)
      have neR:=hO.1.2.1.ne9 pR (by decide)
      have kD:=fun w=>l00Digit_yes9 (btV s (3+j)) w hdg
      generalize btV s (3+j)=bx at *
      have pS2:=pS.off ⟨g1,j,none⟩ (.int .i64 (bx - 48)) neS
      have pR2:=pR.off ⟨g1,j,none⟩ (.int .i64 (bx - 48)) neR
      have b2:=bw.setCell (p:=⟨g1,j,none⟩) hlo.1 (.int .i64 (bx - 48))
      have hjI:(j:Int)<4:=by omega
      have hwb:IntKind.u8.wrap (bx - 48)=bx - 48:=IntWalk.u8_in _ (by omega)
      clear hO pS pR bw
      go_wp2_with fail
      refine (kD _).mono ?_
      rintro e wd ⟨rfl,rfl⟩
      go_wp2
      go_roundw
      case rel=>exact ⟨3+j+1,by omega,by go_num,hst,pS2,pR2,b2⟩
      case measure=>simp [intOf];omega
     ·by_cases k2:i<9
      ·obtain ⟨j,rfl⟩:∃ j,i=7+j:=⟨i - 7,by omega⟩
       have hix:=idx_btVz s (7+j) (7+(j:Int)) (by omega) (by omega)
       have hst:=hO.set2 j (btV s (7+j) - 48)
       rw [partV_2 s (by omega)] at hst
       obtain ⟨old,hold⟩:∃ u,wr.cell? ⟨g2,j,none⟩=some u:=⟨_,hO.1.2.2.1.at9 (by omega)⟩
       have hfz:=hO.1.2.2.1.frz9 j
       have hlo:=hO.1.2.2.1.lo9
       have neS:=hO.1.2.2.1.ne9 pS (by decide)
       have neR:=hO.1.2.2.1.ne9 pR (by decide)
       have kD:=fun w=>l00Digit_yes9 (btV s (7+j)) w hdg
       generalize btV s (7+j)=bx at *
       have pS2:=pS.off ⟨g2,j,none⟩ (.int .i64 (bx - 48)) neS
       have pR2:=pR.off ⟨g2,j,none⟩ (.int .i64 (bx - 48)) neR
       have b2:=bw.setCell (p:=⟨g2,j,none⟩) hlo.1 (.int .i64 (bx - 48))
       have hjI:(j:Int)<2:=by omega
       have hwb:IntKind.u8.wrap (bx - 48)=bx - 48:=IntWalk.u8_in _ (by omega)
       have r1:(7:Int)+(j:Int) - 3=4+(j:Int):=by omega
       have r2:(4:Int)+(j:Int) - 4=(j:Int):=by omega
       clear hO pS pR bw
       go_wp2_with fail
       refine (kD _).mono ?_
       rintro e wd ⟨rfl,rfl⟩
       go_wp2
       go_roundw
       case rel=>exact ⟨7+j+1,by omega,by go_num,hst,pS2,pR2,b2⟩
       case measure=>simp [intOf];omega
      ·obtain ⟨j,rfl⟩:∃ j,i=9+j:=⟨i - 9,by omega⟩
       have hix:=idx_btVz s (9+j) (9+(j:Int)) (by omega) (by omega)
       have hst:=hO.set3 j (btV s (9+j) - 48)
       rw [partV_3 s (by omega)] at hst
       obtain ⟨old,hold⟩:∃ u,wr.cell? ⟨g3,j,none⟩=some u:=⟨_,hO.1.2.2.2.at9 (by omega)⟩
       have hfz:=hO.1.2.2.2.frz9 j
       have hlo:=hO.1.2.2.2.lo9
       have neS:=hO.1.2.2.2.ne9 pS (by decide)
       have neR:=hO.1.2.2.2.ne9 pR (by decide)
       have kD:=fun w=>l00Digit_yes9 (btV s (9+j)) w hdg
       generalize btV s (9+j)=bx at *
       have pS2:=pS.off ⟨g3,j,none⟩ (.int .i64 (bx - 48)) neS
       have pR2:=pR.off ⟨g3,j,none⟩ (.int .i64 (bx - 48)) neR
       have b2:=bw.setCell (p:=⟨g3,j,none⟩) hlo.1 (.int .i64 (bx - 48))
       have hjI:(j:Int)<6:=by omega
       have hwb:IntKind.u8.wrap (bx - 48)=bx - 48:=IntWalk.u8_in _ (by omega)
       have r1:(9:Int)+(j:Int) - 3=6+(j:Int):=by omega
       have r2:(6:Int)+(j:Int) - 4=2+(j:Int):=by omega
       have r3:(2:Int)+(j:Int) - 2=(j:Int):=by omega
       clear hO pS pR bw
       go_wp2_with fail
       refine (kD _).mono ?_
       rintro e wd ⟨rfl,rfl⟩
       go_wp2
       go_roundw
       case rel=>exact ⟨9+j+1,by omega,by go_num,hst,pS2,pR2,b2⟩
       case measure=>simp [intOf];omega
   ·have hix:=idx_btV s i (by omega)
    have hnd:=HD.out i hlt hdg
    have kD:=fun w=>l00Digit_no9 (btV s i) w hdg
    have HB:OfB s ([],[],[],[]) false:=⟨hnd.symm,fun h=>by cases h⟩
    clear hnd hO pS
    generalize btV s i=bx at *
    go_wp2_with fail
    refine (kD _).mono ?_
    rintro e wd ⟨rfl,rfl⟩
    go_wp2_with (refine wpList_store_blk rfl 33 _ _ rfl w.heap.size [.slice none 0 0,.slice none 0 0,.slice none 0 0,.slice none 0 0] rfl rfl pR (by kernel_rfl) rfl rfl ?_)
    intro w4 pR4 g4
    replace bw:=bw.grown g4 bw.size (fun x hx=>by cases hx;omega)
    clear g4
    go_wp2_with fail
    refine bodyPost_ret (results_blk2 Tryz.results84 _ _ _ _ _ _ rfl pR4.out Tryz.underlying33 rfl (by kernel_rfl)) rfl ?_
    exact ⟨⟨_,_,VmGotB.mk9 ((none,0,0),(none,0,0),(none,0,0),(none,0,0)) rfl (ownV_nil _ _),HB⟩,bw⟩
  ·obtain rfl:i=15:=by omega
   have hO':OwnV wr w.heap.size ((some ⟨g0,0,none⟩,3,c0),(some ⟨g1,0,none⟩,4,c1),(some ⟨g2,0,none⟩,2,c2),(some ⟨g3,0,none⟩,6,c3)) (bytesV s):=hO
   have e0:=pS.cell 0
   have e1:=pS.cell 1
   have e2:=pS.cell 2
   have e3:=pS.cell 3
   simp only [List.getElem?_cons_zero,List.getElem?_cons_succ] at e0 e1 e2 e3
   have kR1:=fun (W:World) (h:OwnV W w.heap.size ((some ⟨g0,0,none⟩,3,c0),(some ⟨g1,0,none⟩,4,c1),(some ⟨g2,0,none⟩,2,c2),(some ⟨g3,0,none⟩,6,c3)) (bytesV s))=>kR W (h.mem hfit)
   obtain ⟨sb,hsb⟩:∃ sb,sb=shapeOk (bytesV s):=⟨_,rfl⟩
   rw [← hsb] at kR1
   have HB:OfB s (bytesV s) sb:=⟨hsb,fun _=>rfl⟩
   clear hO kR HD hsb
   go_wp2_with fail
   refine wp_region_held_drew (S:=(fun w'=>w'.cell? ⟨gS,0,none⟩=some (.slice (some ⟨g0,0,none⟩) 3 c0)∧w'.cell? ⟨gS,1,none⟩=some (.slice (some ⟨g1,0,none⟩) 4 c1)∧w'.cell? ⟨gS,2,none⟩=some (.slice (some ⟨g2,0,none⟩) 2 c2)∧w'.cell? ⟨gS,3,none⟩=some (.slice (some ⟨g3,0,none⟩) 6 c3))) (by kernel_rfl) ⟨e0,e1,e2,e3⟩ (fun hS0=>?_)
   refine tkm 0 64 (.agg #[.slice (some ⟨g0,0,none⟩) 3 c0,.slice (some ⟨g1,0,none⟩) 4 c1,.slice (some ⟨g2,0,none⟩) 2 c2,.slice (some ⟨g3,0,none⟩) 6 c3]) ?_
   refine tkm 1 65 (.agg #[.slice (some ⟨g0,0,none⟩) 3 c0,.slice (some ⟨g1,0,none⟩) 4 c1,.slice (some ⟨g2,0,none⟩) 2 c2,.slice (some ⟨g3,0,none⟩) 6 c3]) ?_
   refine tkr 2 66 (fun K hK=>?_)
   go_simp
   refine (kR1 _ (hO'.below (by go_grown))).mono ?_
   rintro e w3 ⟨rfl,hb⟩
   go_wp2_with fail
   refine hK.out _ _ ?_ (fun hS1=>?_)
   ·exact ⟨cells_kept hb _ _ hS0.1,cells_kept hb _ _ hS0.2.1,cells_kept hb _ _ hS0.2.2.1,cells_kept hb _ _ hS0.2.2.2⟩
   clear hK
   try simp only [Act.put,tka,tkb,tkc]
   have hbd:Below wr.heap.size wr w3:=bel_trans (by go_grown) hb
   replace bw:=bel_trans bw hbd
   replace pS:=pS.below hbd
   replace pR:=pR.below hbd
   replace hO':=hO'.below hbd
   clear hb hbd hS0 e0 e1 e2 e3 kR1
   have nSR:gS≠w.heap.size:=by omega
   have r0:w3.cell? ⟨w.heap.size,0,none⟩=some (.slice none 0 0):=by simpa using pR.cell 0
   have r1:w3.cell? ⟨w.heap.size,1,none⟩=some (.slice none 0 0):=by simpa using pR.cell 1
   have r2:w3.cell? ⟨w.heap.size,2,none⟩=some (.slice none 0 0):=by simpa using pR.cell 2
   have r3:w3.cell? ⟨w.heap.size,3,none⟩=some (.slice none 0 0):=by simpa using pR.cell 3
   have f0:=pR.frozen 0
   have f1:=pR.frozen 1
   have f2:=pR.frozen 2
   have f3:=pR.frozen 3
   have pR4:=(((pR.set 0 (.slice (some ⟨g0,0,none⟩) 3 c0)).set 1 (.slice (some ⟨g1,0,none⟩) 4 c1)).set 2 (.slice (some ⟨g2,0,none⟩) 2 c2)).set 3 (.slice (some ⟨g3,0,none⟩) 6 c3)
   simp only [List.set_cons_zero,List.set_cons_succ] at pR4
   have pS4:=(((pS.off ⟨w.heap.size,0,none⟩ (.slice (some ⟨g0,0,none⟩) 3 c0) nSR).off ⟨w.heap.size,1,none⟩ (.slice (some ⟨g1,0,none⟩) 4 c1) nSR).off ⟨w.heap.size,2,none⟩ (.slice (some ⟨g2,0,none⟩) 2 c2) nSR).off ⟨w.heap.size,3,none⟩ (.slice (some ⟨g3,0,none⟩) 6 c3) nSR
   have b4:=(((bw.setCell (p:=⟨w.heap.size,0,none⟩) (Nat.le_refl _) (.slice (some ⟨g0,0,none⟩) 3 c0)).setCell (p:=⟨w.heap.size,1,none⟩) (Nat.le_refl _) (.slice (some ⟨g1,0,none⟩) 4 c1)).setCell (p:=⟨w.heap.size,2,none⟩) (Nat.le_refl _) (.slice (some ⟨g2,0,none⟩) 2 c2)).setCell (p:=⟨w.heap.size,3,none⟩) (Nat.le_refl _) (.slice (some ⟨g3,0,none⟩) 6 c3)
   have hO4:=(((hO'.awayB9 pR (by decide) 0 (.slice (some ⟨g0,0,none⟩) 3 c0)).awayB9 (pR.set 0 (.slice (some ⟨g0,0,none⟩) 3 c0)) (by decide) 1 (.slice (some ⟨g1,0,none⟩) 4 c1)).awayB9 ((pR.set 0 (.slice (some ⟨g0,0,none⟩) 3 c0)).set 1 (.slice (some ⟨g1,0,none⟩) 4 c1)) (by decide) 2 (.slice (some ⟨g2,0,none⟩) 2 c2)).awayB9 (((pR.set 0 (.slice (some ⟨g0,0,none⟩) 3 c0)).set 1 (.slice (some ⟨g1,0,none⟩) 4 c1)).set 2 (.slice (some ⟨g2,0,none⟩) 2 c2)) (by decide) 3 (.slice (some ⟨g3,0,none⟩) 6 c3)
   refine tkz 3 (fun K hK=>?_)
   go_simp
   refine hK.out _ _ ?_ (fun hS2=>?_)
   ·exact ⟨by simpa using pS4.cell 0,by simpa using pS4.cell 1,by simpa using pS4.cell 2,by simpa using pS4.cell 3⟩
   clear hK
   try simp only [Act.put,tka,tkb,tkc]
   refine tkm 4 3 (.bool sb) ?_
   refine wpAnyH_done (by kernel_rfl) ?_ _
   clear hS1 hS2 r0 r1 r2 r3 f0 f1 f2 f3 pR pS bw hO' pS4
   generalize (((w3.setCell ⟨w.heap.size,0,none⟩ (.slice (some ⟨g0,0,none⟩) 3 c0)).setCell ⟨w.heap.size,1,none⟩ (.slice (some ⟨g1,0,none⟩) 4 c1)).setCell ⟨w.heap.size,2,none⟩ (.slice (some ⟨g2,0,none⟩) 2 c2)).setCell ⟨w.heap.size,3,none⟩ (.slice (some ⟨g3,0,none⟩) 6 c3)=w5 at *
   go_wp2_with fail
   refine bodyPost_ret (results_blk2 Tryz.results84 _ _ _ _ _ _ rfl pR4 Tryz.underlying33 rfl (by kernel_rfl)) rfl ?_
   exact ⟨⟨_,_,VmGotB.mk9 ((some ⟨g0,0,none⟩,3,c0),(some ⟨g1,0,none⟩,4,c1),(some ⟨g2,0,none⟩,2,c2),(some ⟨g3,0,none⟩,6,c3)) rfl hO4,HB⟩,b4⟩

end Go.Proofs.YtifoggpohlegmaaGreatDoor
