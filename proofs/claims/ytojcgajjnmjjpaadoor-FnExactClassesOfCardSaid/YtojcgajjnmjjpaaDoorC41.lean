/-
  Joined: SpcO.
-/
import Derived.Carry
import Derived.Test.YtojcgajjnmjjpaaDoorC39

namespace Go.Proofs.YtojcgajjnmjjpaaDoor
set_option maxRecDepth 100000
set_option maxHeartbeats 16000000
open Go.RowKit
set_option linter.unusedVariables false
set_option linter.unusedSimpArgs false

theorem rows_of_codes6 {w:World} {a:Option Addr} {len cap:Nat} {rows:List (List I3)} (hC:Codes w a len cap rows) (hp:progOk rows=true):∃ cs,RowsAt w a cs rows:=(hC.rowsAt hp).2
def fullM (rows:List (List I3)) (z:V4):List (Rec6 V4):=srch (nxM rows) 2000 0 [(z,0,0)]
def SpcGot (e:Ending) (w w':World) (a:Option Addr) (rows:List (List I3)) (F:List (Rec6 V4)):Prop:=
 ∃ vs nb cs L,e=.returned (.tuple #[.agg #[vs,.map (some nb)],.int .i64 0])∧SpcD w' w.heap.size nb vs cs (mvsOf rows F) L L.length∧L.map (·.1)=F∧RowsAt w a cs rows∧Below w.heap.size w w'
structure OnSp (w wr:World) (X R nb:Nat) (vs:Value) (cs:Sl × Sl × Sl) (rows:List (List I3)) (z0:V4) (L:List (Rec6 V4 × Value)) (at9:Nat):Prop where
 sp:SpcD wr w.heap.size nb vs cs (mvsOf rows (fullM rows z0)) L at9
 bx:Blk wr X 96 [vs,.map (some nb)]
 br:Blk wr R 96 [.slice none 0 0,.map none]
 sh:Shaped (L.map (·.1))
 rn:srch (nxM rows) (2000 - at9) at9 (L.map (·.1))=fullM rows z0
 ln:L.length≤1+3*at9
 le:at9≤L.length
 a2:at9≤2000
 bl:Below w.heap.size w wr
theorem OnSp.fin {w wr:World} {X R nb:Nat} {vs:Value} {cs:Sl × Sl × Sl} {rows:List (List I3)} {z0:V4} {L:List (Rec6 V4 × Value)} {at9:Nat} (h:OnSp w wr X R nb vs cs rows z0 L at9) (hx:at9=L.length∨at9=2000):L.map (·.1)=fullM rows z0:=by
 have e:=h.rn
 rcases hx with hx | hx
 ·rw [srch_end (by simp;omega)] at e
  exact e
 ·subst hx
  exact e
theorem OnSp.go {w wr w':World} {X R nb:Nat} {vs vs':Value} {cs:Sl × Sl × Sl} {rows:List (List I3)} {z0:V4} {L L':List (Rec6 V4 × Value)} {at9:Nat} {r:Rec6 V4} {mv:Value} (h:OnSp w wr X R nb vs cs rows z0 L at9) (hr:L[at9]?=some (r,mv)) (hRX:R≠X) (hBX:w.heap.size≤X) (ha:at9<2000)
  (sp:SpcD w' w.heap.size nb vs' cs (mvsOf rows (fullM rows z0)) L' (at9+1)) (bx:Blk w' X 96 [vs',.map (some nb)]) (st:L'.map (·.1)=onS at9 (L.map (·.1)) (nxM rows r.1)) (sh:Shaped (L'.map (·.1))) (ln:L'.length≤L.length+3) (kp:KeptS wr w' X nb vs):OnSp w w' X R nb vs' cs rows z0 L' (at9+1):=by
 have hl:at9<L.length:=(List.getElem?_eq_some_iff.1 hr).1
 have hlm:at9<(L.map (·.1)).length:=by simpa using hl
 have hat:((L.map (·.1))[at9]'hlm)=r:=by
  have e:=(List.getElem?_eq_some_iff.1 hr).2
  simp [e]
 obtain ⟨D,hm,_⟩:=h.sp.map
 refine ⟨sp,bx,(kp.block R h.br.lt hRX (map_blk hm h.br) (own_ne_blk9 h.sp.row h.br (by decide))).trans h.br,sh,?_,by have:=h.ln;omega,?_,by omega,h.sp.belowK kp hBX h.bl⟩
 ·have e:=h.rn
  rw [show 2000 - at9=(1999 - at9)+1 by omega,srch_go hlm,hat,← st] at e
  rw [show 2000 - (at9+1)=1999 - at9 by omega]
  exact e
 ·have h2:=(onS_pre at9 (nxM rows r.1) (L.map (·.1))).length_le
  rw [← st] at h2
  simp at h2
  omega
theorem OnSp.pre {w wr:World} {X R nb:Nat} {vs:Value} {cs:Sl × Sl × Sl} {rows:List (List I3)} {z0:V4} {L:List (Rec6 V4 × Value)} {at9:Nat} {r:Rec6 V4} {mv:Value} (h:OnSp w wr X R nb vs cs rows z0 L at9) (hr:L[at9]?=some (r,mv)) (ha:at9<2000):onS at9 (L.map (·.1)) (nxM rows r.1) <+: fullM rows z0:=by
 have hl:at9<L.length:=(List.getElem?_eq_some_iff.1 hr).1
 have hlm:at9<(L.map (·.1)).length:=by simpa using hl
 have hat:((L.map (·.1))[at9]'hlm)=r:=by
  have e:=(List.getElem?_eq_some_iff.1 hr).2
  simp [e]
 have e:=h.rn
 rw [show 2000 - at9=(1999 - at9)+1 by omega,srch_go hlm,hat] at e
 rw [← e]
 exact srch_pre _ _ _ _

theorem spaceOf_bad (a:Option Addr) (len cap:Nat) (rows:List (List I3)) (s:S4) (m:V4) (w:World) (hC:Codes w a len cap rows) (h:Vmem w s m) (hV:VmShape w) (hok:(progOk rows && shapeOk m)=false) :
  Calls Tryd.prog 52 #[.agg #[.slice a len cap],s.val] w fun e w'=>e=.returned (.tuple #[.agg #[.slice none 0 0,.map none],.int .i64 1])∧Below w.heap.size w w':=by
 have kM:=fun W hC h hV=>machineOf_bad a len cap rows s m W hC h hV hok
 have hM:=fun (W:World) (hb:Below w.heap.size w W)=>h.below hb
 obtain ⟨⟨a0,n0,c0⟩,⟨a1,n1,c1⟩,⟨a2,n2,c2⟩,⟨a3,n3,c3⟩⟩:=s
 have uA:S4.val ((a0,n0,c0),(a1,n1,c1),(a2,n2,c2),(a3,n3,c3))=.agg #[.slice a0 n0 c0,.slice a1 n1 c1,.slice a2 n2 c2,.slice a3 n3 c3]:=rfl
 rw [uA] at kM ⊢
 clear uA h
 have bw:Below w.heap.size w (((w.alloc (.cells #[.slice a len cap] 30)).alloc (.cells #[.slice a0 n0 c0,.slice a1 n1 c1,.slice a2 n2 c2,.slice a3 n3 c3] 40)).alloc (.cells #[.slice none 0 0,.map none] 96)):=by go_grown
 have pP:Blk (((w.alloc (.cells #[.slice a len cap] 30)).alloc (.cells #[.slice a0 n0 c0,.slice a1 n1 c1,.slice a2 n2 c2,.slice a3 n3 c3] 40)).alloc (.cells #[.slice none 0 0,.map none] 96)) w.heap.size 30 [.slice a len cap]:=blkOld _ (blkOld _ (blkAt _ _ _ rfl))
 have pS:Blk (((w.alloc (.cells #[.slice a len cap] 30)).alloc (.cells #[.slice a0 n0 c0,.slice a1 n1 c1,.slice a2 n2 c2,.slice a3 n3 c3] 40)).alloc (.cells #[.slice none 0 0,.map none] 96)) (w.heap.size+1) 40 [.slice a0 n0 c0,.slice a1 n1 c1,.slice a2 n2 c2,.slice a3 n3 c3]:=blkOld _ (blkAt _ _ _ (by simp))
 have pR:Blk (((w.alloc (.cells #[.slice a len cap] 30)).alloc (.cells #[.slice a0 n0 c0,.slice a1 n1 c1,.slice a2 n2 c2,.slice a3 n3 c3] 40)).alloc (.cells #[.slice none 0 0,.map none] 96)) (w.heap.size+2) 96 [.slice none 0 0,.map none]:=blkAt _ _ _ (by simp)
 go_enter Tryd.func52,Tryd.ntmps52
 go_wp2_with fail
 generalize (((w.alloc (.cells #[.slice a len cap] 30)).alloc (.cells #[.slice a0 n0 c0,.slice a1 n1 c1,.slice a2 n2 c2,.slice a3 n3 c3] 40)).alloc (.cells #[.slice none 0 0,.map none] 96))=U at *
 have kMx:=kM U (hC.below bw) (hM _ bw) (hV.below bw)
 clear kM hM hC hV
 go_wp2_with (first | refine wpList_load_blk rfl 30 _ rfl w.heap.size rfl pP _ Tryd.underlying30 rfl (by kernel_rfl) ?_ | refine wpList_load_blk rfl 40 _ rfl (w.heap.size+1) rfl pS _ Tryd.underlying40 rfl (by kernel_rfl) ?_)
 refine kMx.mono ?_
 rintro e w1 ⟨rfl,hb⟩
 replace bw:=bel_trans bw hb
 replace pR:=pR.below hb
 clear hb kMx pP pS
 have pN:=Blk.new w1 61 [.slice none 0 0,.int .i64 0,.int .i64 0,.int .i64 0,.slice none 0 0,.int .i64 0,.int .i64 0,.int .i64 0,.slice none 0 0,.int .i64 0,.int .i64 0,.int .i64 0,.int .i64 0,.int .i64 0,.int .i64 0,.int .i64 0,.int .i64 0,.int .i64 0]
 have hbN:Below w1.heap.size w1 (w1.alloc (.cells #[.slice none 0 0,.int .i64 0,.int .i64 0,.int .i64 0,.slice none 0 0,.int .i64 0,.int .i64 0,.int .i64 0,.slice none 0 0,.int .i64 0,.int .i64 0,.int .i64 0,.int .i64 0,.int .i64 0,.int .i64 0,.int .i64 0,.int .i64 0,.int .i64 0] 61)):=by go_grown
 go_wp2_with (refine wpList_store_blk rfl 61 _ _ rfl w1.heap.size [.slice none 0 0,.int .i64 0,.int .i64 0,.int .i64 0,.slice none 0 0,.int .i64 0,.int .i64 0,.int .i64 0,.slice none 0 0,.int .i64 0,.int .i64 0,.int .i64 0,.int .i64 0,.int .i64 0,.int .i64 0,.int .i64 0,.int .i64 0,.int .i64 0] rfl rfl pN (by kernel_rfl) rfl rfl ?_)
 intro w2 p2 g2
 have b2:Below w1.heap.size w1 w2:=hbN.grown g2 hbN.size (fun k e=>by cases e;exact Nat.le_refl _)
 replace bw:=bel_trans bw b2
 replace pR:=pR.below b2
 clear p2 g2 hbN pN b2
 go_wp2_with (refine wpList_store_blk rfl 96 _ _ rfl (w.heap.size+2) [.slice none 0 0,.map none] rfl rfl pR (by kernel_rfl) rfl rfl ?_)
 intro w3 p3 g3
 replace bw:=bw.grown g3 bw.size (fun k e=>by cases e;omega)
 clear g3 pR
 go_wp2_with fail
 refine bodyPost_ret (results_blk2 Tryd.results52 _ _ _ _ _ _ rfl p3.out Tryd.underlying96 rfl (by kernel_rfl)) rfl ?_
 exact ⟨rfl,bw⟩

theorem spaceOf_isM (a:Option Addr) (len cap:Nat) (rows:List (List I3)) (s:S4) (z0:V4) (w:World) (hC:Codes w a len cap rows) (h:Vmem w s z0) (hV:VmShape w) (hp:progOk rows=true) (hz:shapeOk z0=true) :
  Calls Tryd.prog 52 #[.agg #[.slice a len cap],s.val] w fun e w'=>if (fullM rows z0).length≤2000 then SpcGot e w w' a rows (fullM rows z0) else (e=.returned (.tuple #[.agg #[.slice none 0 0,.map none],.int .i64 15])∧Below w.heap.size w w'):=by
 have kM:=fun W hC h hV=>machineOf_ok a len cap rows s z0 W hC h hV hp hz
 have hM:=fun (W:World) (hb:Below w.heap.size w W)=>h.below hb
 obtain ⟨cs,hR⟩:=rows_of_codes6 hC hp
 have hI:∀ k,k<3→Instrs w (slK cs k).1 (slK cs k).2.1 (slK cs k).2.2 (codeM rows k):=by
  obtain ⟨b,off,_,_,hk⟩:=hR
  exact fun k h3=>(hk k h3).2
 obtain ⟨⟨a0,n0,c0⟩,⟨a1,n1,c1⟩,⟨a2,n2,c2⟩,⟨a3,n3,c3⟩⟩:=s
 have uA:S4.val ((a0,n0,c0),(a1,n1,c1),(a2,n2,c2),(a3,n3,c3))=.agg #[.slice a0 n0 c0,.slice a1 n1 c1,.slice a2 n2 c2,.slice a3 n3 c3]:=rfl
 rw [uA] at kM ⊢
 clear uA h
 have bw:Below w.heap.size w (((w.alloc (.cells #[.slice a len cap] 30)).alloc (.cells #[.slice a0 n0 c0,.slice a1 n1 c1,.slice a2 n2 c2,.slice a3 n3 c3] 40)).alloc (.cells #[.slice none 0 0,.map none] 96)):=by go_grown
 have pP:Blk (((w.alloc (.cells #[.slice a len cap] 30)).alloc (.cells #[.slice a0 n0 c0,.slice a1 n1 c1,.slice a2 n2 c2,.slice a3 n3 c3] 40)).alloc (.cells #[.slice none 0 0,.map none] 96)) w.heap.size 30 [.slice a len cap]:=blkOld _ (blkOld _ (blkAt _ _ _ rfl))
 have pS:Blk (((w.alloc (.cells #[.slice a len cap] 30)).alloc (.cells #[.slice a0 n0 c0,.slice a1 n1 c1,.slice a2 n2 c2,.slice a3 n3 c3] 40)).alloc (.cells #[.slice none 0 0,.map none] 96)) (w.heap.size+1) 40 [.slice a0 n0 c0,.slice a1 n1 c1,.slice a2 n2 c2,.slice a3 n3 c3]:=blkOld _ (blkAt _ _ _ (by simp))
 have pR:Blk (((w.alloc (.cells #[.slice a len cap] 30)).alloc (.cells #[.slice a0 n0 c0,.slice a1 n1 c1,.slice a2 n2 c2,.slice a3 n3 c3] 40)).alloc (.cells #[.slice none 0 0,.map none] 96)) (w.heap.size+2) 96 [.slice none 0 0,.map none]:=blkAt _ _ _ (by simp)
 have hmm:=@run_makeMap Tryd.prog
 go_enter Tryd.func52,Tryd.ntmps52
 go_wp2_with fail
 generalize (((w.alloc (.cells #[.slice a len cap] 30)).alloc (.cells #[.slice a0 n0 c0,.slice a1 n1 c1,.slice a2 n2 c2,.slice a3 n3 c3] 40)).alloc (.cells #[.slice none 0 0,.map none] 96))=U at *
 have kMx:=kM U (hC.below bw) (hM _ bw) (hV.below bw)
 have hRU:=hR.below bw
 clear kM hM hC
 go_wp2_with (first | refine wpList_load_blk rfl 30 _ rfl w.heap.size rfl pP _ Tryd.underlying30 rfl (by kernel_rfl) ?_ | refine wpList_load_blk rfl 40 _ rfl (w.heap.size+1) rfl pS _ Tryd.underlying40 rfl (by kernel_rfl) ?_)
 refine kMx.mono ?_
 rintro e w1 ⟨⟨cs',rfl,hR'⟩,hb⟩
 obtain rfl:=hRU.uniq hR'
 replace bw:=bel_trans bw hb
 replace pR:=pR.below hb
 clear hb kMx pP pS hR' hRU
 have pN:=Blk.new w1 61 [.slice none 0 0,.int .i64 0,.int .i64 0,.int .i64 0,.slice none 0 0,.int .i64 0,.int .i64 0,.int .i64 0,.slice none 0 0,.int .i64 0,.int .i64 0,.int .i64 0,.int .i64 0,.int .i64 0,.int .i64 0,.int .i64 0,.int .i64 0,.int .i64 0]
 have hbN:Below w1.heap.size w1 (w1.alloc (.cells #[.slice none 0 0,.int .i64 0,.int .i64 0,.int .i64 0,.slice none 0 0,.int .i64 0,.int .i64 0,.int .i64 0,.slice none 0 0,.int .i64 0,.int .i64 0,.int .i64 0,.int .i64 0,.int .i64 0,.int .i64 0,.int .i64 0,.int .i64 0,.int .i64 0] 61)):=by go_grown
 go_wp2_with (refine wpList_store_blk rfl 61 _ _ rfl w1.heap.size (machCells cs.1.val cs.2.1.val cs.2.2.val z0) rfl rfl pN (by kernel_rfl) rfl rfl ?_)
 intro w2 p2 g2
 have pM:=p2.out
 have b2:Below w1.heap.size w1 w2:=hbN.grown g2 hbN.size (fun k e=>by cases e;exact Nat.le_refl _)
 replace bw:=bel_trans bw b2
 replace pR:=pR.below b2
 clear p2 g2 hbN pN b2
 generalize w1.heap.size=Y at *
 have hN0:NumD (.map []) ([]:List (Rec6 V4)):=NumD.start
 have hbs:=bw.size
 have hRlt:=pR.lt
 have pX:=Blk.new (w2.alloc (.map #[] 0)) 96 [.slice none 0 0,.map none]
 have hm0:((w2.alloc (.map #[] 0)).alloc (.cells #[.slice none 0 0,.map none] 96)).ownsMap Tryd.prog 9 (plainElem Tryd.prog 3) w2.heap.size 0 (.map []:DataW Unit):=(World.ownsMap_made (H:=Unit) w2 Tryd.prog 9 (plainElem Tryd.prog 3)).alloc _
 have hbM:Below w2.heap.size w2 (w2.alloc (.map #[] 0)):=⟨rfl,rfl,rfl,by simp,fun k hk=>Below.heap_alloc w2 _ k hk⟩
 have hbX:Below w2.heap.size w2 ((w2.alloc (.map #[] 0)).alloc (.cells #[.slice none 0 0,.map none] 96)):=bel_trans hbM ⟨rfl,rfl,rfl,by simp,fun k hk=>Below.heap_alloc _ _ k hk⟩
 simp only [World.size_alloc] at pX
 go_wp2_with (refine wpList_store_blk rfl 96 _ _ rfl (w2.heap.size+1) [.slice none 0 0,.map (some w2.heap.size)] rfl rfl pX (by kernel_rfl) rfl rfl ?_)
 intro w3 p3 g3
 have bx:=p3.out
 have hm3:=hm0.kept g3 (by simp)
 have b3:Below w2.heap.size w2 w3:=hbX.grown g3 hbX.size (fun k e=>by cases e;omega)
 replace bw:=bel_trans bw b3
 replace pR:=pR.below b3
 replace pM:=pM.below b3
 clear p3 g3 hbX hbM hm0 pX b3 hmm
 have sp0:SpcD w3 w.heap.size w2.heap.size (.slice none 0 0) cs (mvsOf rows (fullM rows z0)) [] 0:=⟨World.ownsRow_nil _ _ _ _,⟨_,hm3,hN0⟩,fun i r mv hi=>by omega,fun i r mv _ hr=>by simp at hr,hbs⟩
 have kT:=meet_is sp0 bx bw.size (Nat.le_refl 0) (fun r hr=>by simp at hr) (hV.below bw) hz (by decide) 0 0
 have hXB:w.heap.size≤w2.heap.size+1:=by omega
 have hRX:w.heap.size+2≠w2.heap.size+1:=by omega
 go_wp2_with (refine wpList_load_blk rfl 61 _ rfl Y rfl pM _ Tryd.underlying61 rfl (by kernel_rfl) ?_)
 refine kT.mono ?_
 rintro e w4 ⟨vs,rfl,sp,bx4,k4,m4⟩
 have st:OnSp w w4 (w2.heap.size+1) (w.heap.size+2) w2.heap.size vs cs rows z0 (putL 0 [] 0 z0) 0:=by
  refine ⟨sp,bx4,?_,?_,?_,?_,Nat.zero_le _,by decide,sp0.belowK k4 hXB bw⟩
  ·exact (k4.block _ pR.lt hRX (map_blk hm3 pR) (own_ne_blk9 sp0.row pR (by decide))).trans pR
  ·rw [putL_map];exact putS_shaped (fun r hr=>by simp at hr) hz
  ·rw [putL_map];rfl
  ·exact putL_len 0 [] 0 z0
 generalize w2.heap.size+1=X at *
 generalize w2.heap.size=nb at *
 have hRB9:w.heap.size≤w.heap.size+2:=by omega
 generalize w.heap.size+2=R at *
 generalize putL 0 [] 0 z0=L0 at *
 clear kT sp bx4 k4 m4 sp0 bx bw pR pM hm3 hN0 hRlt hbs
 go_wp2_with fail
 go_loopw [24] (fun s24 wr=>∃ (at9:Nat) (vs:Value) (L:List (Rec6 V4 × Value)),s24=.int .i64 at9∧OnSp w wr X R nb vs cs rows z0 L at9) (fun s24 _=>2000 - (intOf s24).toNat)
 case atStart=>exact ⟨0,_,_,rfl,st⟩
 case round =>
  clear st vs
  obtain ⟨at9,vs,L,rfl,hO⟩:=hrel
  obtain ⟨va,vn,vc,rfl⟩:∃ va vn vc,vs=.slice va vn vc:=own_slice6 hO.sp.row
  obtain rfl:vn=L.length:=by
   rcases hO.sp.row.2 with ⟨h1,h2⟩ | ⟨gq,cq,cur,h1,_⟩
   ·cases h1;exact h2.symm
   ·cases h1;rfl
  have cX0:wr.cell? ⟨X,0,none⟩=some (.slice va L.length vc):=by simpa using hO.bx.cell 0
  by_cases hlt:at9<2000
  ·have hlt1:(at9:Int)<2000:=by omega
   by_cases hel:at9=L.length
   ·have hxl:at9=L.length∨at9=2000:=.inl hel
    have hF:=hO.fin hxl
    have hq1:((at9:Int) == (L.length:Int))=true:=by rw [hel];simp
    have hq2:decide ((at9:Int)=(L.length:Int))=true:=by rw [hel];simp
    clear hel
    have hfl:(fullM rows z0).length=L.length:=by rw [← hF];simp
    by_cases hbig:2000<L.length
    ·omega
    ·have hif:(fullM rows z0).length≤2000:=by omega
     have hb1:¬ (2000:Int)<(L.length:Int):=by omega
     have pR:=hO.br
     have bw:=hO.bl
     have bx:=hO.bx
     have hRB:w.heap.size≤R:=hRB9
     have sp:=hO.sp
     obtain rfl:at9=L.length:=by have:=hO.le;omega
     clear hO hfl hbig hxl
     go_wp2_with (first | refine wpList_load_blk rfl 96 _ rfl X rfl bx _ Tryd.underlying96 rfl (by kernel_rfl) ?_ | refine wpList_store_blk rfl 96 _ _ rfl R [.slice va L.length vc,.map (some nb)] rfl rfl pR (by kernel_rfl) rfl rfl ?_)
     intro w9 p9 g9
     replace bw:=bw.grown g9 bw.size (fun k e=>by cases e;exact hRB)
     replace sp:=sp.grown g9 pR (by decide) (by decide)
     have HG:Hid (SpcGot (.returned (.tuple #[.agg #[.slice va L.length vc,.map (some nb)],.int .i64 0])) w w9 a rows (fullM rows z0)):=⟨_,_,_,_,rfl,sp,hF,hR,bw⟩
     clear g9 pR sp bx bw hF
     go_wp2_with fail
     refine bodyPost_ret (results_blk2 Tryd.results52 _ _ _ _ _ _ rfl p9.out Tryd.underlying96 rfl (by kernel_rfl)) rfl ?_
     exact HG.out
   ·have hal:at9<L.length:=by have:=hO.le;omega
    have hq1:((at9:Int) == (L.length:Int))=false:=beq_false_of_ne (by omega)
    have hq2:decide ((at9:Int)=(L.length:Int))=false:=decide_eq_false (by omega)
    obtain ⟨r,mv,hr⟩:∃ r mv,L[at9]?=some (r,mv):=⟨L[at9].1,L[at9].2,by rw [List.getElem?_eq_getElem hal]⟩
    obtain rfl:=hO.sp.nil at9 r mv (Nat.le_refl _) hr
    have kG:=goOn_is hO.sp hO.bx hXB hO.bl hr hO.sh hp hV hI (hO.pre hr hlt) (by have:=hO.ln;omega)
    have HGo:=fun (w5:World) (vs5:Value) (L5:List (Rec6 V4 × Value))=>hO.go (w':=w5) (vs':=vs5) (L':=L5) hr hRX hXB hlt
    clear hel hal hr
    go_wp2_with fail
    refine kG.mono ?_
    rintro e w5 ⟨vs5,L5,rfl,sp5,bx5,st5,sh5,ln5,k5,m5⟩
    have st9:=HGo w5 vs5 L5 sp5 bx5 st5 sh5 ln5 k5
    clear kG HGo sp5 bx5 st5 sh5 ln5 k5 m5 hO cX0
    go_wp2
    go_roundw
    case rel=>exact ⟨at9+1,_,_,by go_num,st9⟩
    case measure=>simp [intOf];omega
  ·have hlt1:¬ (at9:Int)<2000:=by omega
   have hxl:at9=L.length∨at9=2000:=.inr (by have:=hO.a2;omega)
   have hF:=hO.fin hxl
   have hfl:(fullM rows z0).length=L.length:=by rw [← hF];simp
   by_cases hbig:2000<L.length
   ·have hif:¬ (fullM rows z0).length≤2000:=by omega
    have hb1:(2000:Int)<(L.length:Int):=by omega
    have pR:=hO.br
    have bw:=hO.bl
    have hRB:w.heap.size≤R:=hRB9
    clear hF hfl hO hbig
    go_wp2_with (refine wpList_store_blk rfl 96 _ _ rfl R [.slice none 0 0,.map none] rfl rfl pR (by kernel_rfl) rfl rfl ?_)
    intro w9 p9 g9
    replace bw:=bw.grown g9 bw.size (fun k e=>by cases e;exact hRB)
    clear g9 pR
    go_wp2_with fail
    refine bodyPost_ret (results_blk2 Tryd.results52 _ _ _ _ _ _ rfl p9.out Tryd.underlying96 rfl (by kernel_rfl)) rfl ?_
    exact ⟨rfl,bw⟩
   ·have hif:(fullM rows z0).length≤2000:=by omega
    have hb1:¬ (2000:Int)<(L.length:Int):=by omega
    have pR:=hO.br
    have bw:=hO.bl
    have bx:=hO.bx
    have hRB:w.heap.size≤R:=hRB9
    have sp:=hO.sp
    obtain rfl:at9=L.length:=by have:=hO.le;omega
    clear hO hfl hbig hxl
    go_wp2_with (first | refine wpList_load_blk rfl 96 _ rfl X rfl bx _ Tryd.underlying96 rfl (by kernel_rfl) ?_ | refine wpList_store_blk rfl 96 _ _ rfl R [.slice va L.length vc,.map (some nb)] rfl rfl pR (by kernel_rfl) rfl rfl ?_)
    intro w9 p9 g9
    replace bw:=bw.grown g9 bw.size (fun k e=>by cases e;exact hRB)
    replace sp:=sp.grown g9 pR (by decide) (by decide)
    have HG:Hid (SpcGot (.returned (.tuple #[.agg #[.slice va L.length vc,.map (some nb)],.int .i64 0])) w w9 a rows (fullM rows z0)):=⟨_,_,_,_,rfl,sp,hF,hR,bw⟩
    clear g9 pR sp bx bw hF
    go_wp2_with fail
    refine bodyPost_ret (results_blk2 Tryd.results52 _ _ _ _ _ _ rfl p9.out Tryd.underlying96 rfl (by kernel_rfl)) rfl ?_
    exact HG.out
theorem spaceOf_is (a:Option Addr) (len cap:Nat) (rows:List (List I3)) (s:S4) (w:World) (hC:Codes w a len cap rows) (h:Vmem w s zeroV) (hV:VmShape w) (hp:progOk rows=true) :
  Calls Tryd.prog 52 #[.agg #[.slice a len cap],s.val] w fun e w'=>if (fullS rows).length≤2000 then SpcGot e w w' a rows (fullS rows) else (e=.returned (.tuple #[.agg #[.slice none 0 0,.map none],.int .i64 15])∧Below w.heap.size w w'):=
 spaceOf_isM a len cap rows s zeroV w hC h hV hp zero_shape
end Go.Proofs.YtojcgajjnmjjpaaDoor
