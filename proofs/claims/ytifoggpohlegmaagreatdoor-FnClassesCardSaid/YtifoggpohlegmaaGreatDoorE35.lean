/-
  Joined: SpcO.
-/
import Derived.Carry
import Derived.Test.YtifoggpohlegmaaGreatDoorE34

namespace Go.Proofs.YtifoggpohlegmaaGreatDoor
set_option maxRecDepth 100000
set_option maxHeartbeats 16000000
open Go.RowKit
set_option linter.unusedVariables false
set_option linter.unusedSimpArgs false

theorem Um {w:World} {a:Option Addr} {len cap:Nat} {rows:List (List I3)} (hC:XP w a len cap rows) (hp:Zn rows=true):∃ cs,Z7 w a cs rows:=(hC.rowsAt hp).2
def WO (rows:List (List I3)) (z:V4):List (Zr V4):=WY (nxM rows) 2000 0 [(z,0,0)]
def Rp (e:Ending) (w w':World) (a:Option Addr) (rows:List (List I3)) (F:List (Zr V4)):Prop:=
 ∃ vs nb cs L,e=.returned (.tuple #[.agg #[vs,.map (some nb)],.int .i64 0])∧YY w' w.heap.size nb vs cs (Yp rows F) L L.length∧L.map (·.1)=F∧Z7 w a cs rows∧Below w.heap.size w w'
structure Pr (w wr:World) (X R nb:Nat) (vs:Value) (cs:Sl × Sl × Sl) (rows:List (List I3)) (z0:V4) (L:List (Zr V4 × Value)) (at9:Nat):Prop where
 sp:YY wr w.heap.size nb vs cs (Yp rows (WO rows z0)) L at9
 bx:Blk wr X 106 [vs,.map (some nb)]
 br:Blk wr R 106 [.slice none 0 0,.map none]
 sh:YM (L.map (·.1))
 rn:WY (nxM rows) (2000 - at9) at9 (L.map (·.1))=WO rows z0
 ln:L.length≤1+3*at9
 le:at9≤L.length
 a2:at9≤2000
 bl:Below w.heap.size w wr
theorem Pr.fin {w wr:World} {X R nb:Nat} {vs:Value} {cs:Sl × Sl × Sl} {rows:List (List I3)} {z0:V4} {L:List (Zr V4 × Value)} {at9:Nat} (h:Pr w wr X R nb vs cs rows z0 L at9) (hx:at9=L.length∨at9=2000):L.map (·.1)=WO rows z0:=by
 have e:=h.rn
 rcases hx with hx | hx
 ·rw [Qh (by simp;omega)] at e
  exact e
 subst hx
 exact e
theorem Pr.go {w wr w':World} {X R nb:Nat} {vs vs':Value} {cs:Sl × Sl × Sl} {rows:List (List I3)} {z0:V4} {L L':List (Zr V4 × Value)} {at9:Nat} {r:Zr V4} {mv:Value} (h:Pr w wr X R nb vs cs rows z0 L at9) (hr:L[at9]?=some (r,mv)) (hRX:R≠X) (hBX:w.heap.size≤X) (ha:at9<2000)
  (sp:YY w' w.heap.size nb vs' cs (Yp rows (WO rows z0)) L' (at9+1)) (bx:Blk w' X 106 [vs',.map (some nb)]) (st:L'.map (·.1)=onS at9 (L.map (·.1)) (nxM rows r.1)) (sh:YM (L'.map (·.1))) (ln:L'.length≤L.length+3) (kp:Yj wr w' X nb vs):Pr w w' X R nb vs' cs rows z0 L' (at9+1):=by
 have hl:at9<L.length:=(List.getElem?_eq_some_iff.1 hr).1
 have hlm:at9<(L.map (·.1)).length:=by simpa using hl
 have hat:((L.map (·.1))[at9]'hlm)=r:=by
  have e:=(List.getElem?_eq_some_iff.1 hr).2
  simp [e]
 obtain ⟨D,hm,_⟩:=h.sp.map
 refine ⟨sp,bx,(kp.block R h.br.lt hRX (Wy hm h.br) (Zg h.sp.row h.br (by decide))).trans h.br,sh,?_,by have:=h.ln;omega,?_,by omega,h.sp.belowK kp hBX h.bl⟩
 ·have e:=h.rn
  rw [show 2000 - at9=(1999 - at9)+1 by omega,Rl hlm,hat,← st] at e
  rw [show 2000 - (at9+1)=1999 - at9 by omega]
  exact e
 have h2:=(Vh at9 (nxM rows r.1) (L.map (·.1))).length_le
 rw [← st] at h2
 simp at h2
 omega
theorem Pr.pre {w wr:World} {X R nb:Nat} {vs:Value} {cs:Sl × Sl × Sl} {rows:List (List I3)} {z0:V4} {L:List (Zr V4 × Value)} {at9:Nat} {r:Zr V4} {mv:Value} (h:Pr w wr X R nb vs cs rows z0 L at9) (hr:L[at9]?=some (r,mv)) (ha:at9<2000):onS at9 (L.map (·.1)) (nxM rows r.1) <+: WO rows z0:=by
 have hl:at9<L.length:=(List.getElem?_eq_some_iff.1 hr).1
 have hlm:at9<(L.map (·.1)).length:=by simpa using hl
 have hat:((L.map (·.1))[at9]'hlm)=r:=by
  have e:=(List.getElem?_eq_some_iff.1 hr).2
  simp [e]
 have e:=h.rn
 rw [show 2000 - at9=(1999 - at9)+1 by omega,Rl hlm,hat] at e
 rw [← e]
 exact TZ _ _ _ _

theorem Mn (a:Option Addr) (len cap:Nat) (rows:List (List I3)) (s:S4) (z0:V4) (w:World) (hC:XP w a len cap rows) (h:Yl w s z0) (hV:Yu w) (hp:Zn rows=true) (hz:Zk z0=true) :
  Calls Tryz.prog 67 #[.agg #[.slice a len cap],s.val] w fun e w'=>if (WO rows z0).length≤2000 then Rp e w w' a rows (WO rows z0) else (e=.returned (.tuple #[.agg #[.slice none 0 0,.map none],.int .i64 15])∧Below w.heap.size w w'):=by
 have kM:=fun W hC h hV=>VM a len cap rows s z0 W hC h hV hp hz
 have hM:=fun (W:World) (hb:Below w.heap.size w W)=>h.below hb
 obtain ⟨cs,hR⟩:=Um hC hp
 have hI:∀ k,k<3→ZL w (slK cs k).1 (slK cs k).2.1 (slK cs k).2.2 (Yn rows k):=by
  obtain ⟨b,off,_,_,hk⟩:=hR
  exact fun k h3=>(hk k h3).2
 obtain ⟨⟨a0,n0,c0⟩,⟨a1,n1,c1⟩,⟨a2,n2,c2⟩,⟨a3,n3,c3⟩⟩:=s
 have uA:S4.val ((a0,n0,c0),(a1,n1,c1),(a2,n2,c2),(a3,n3,c3))=.agg #[.slice a0 n0 c0,.slice a1 n1 c1,.slice a2 n2 c2,.slice a3 n3 c3]:=rfl
 rw [uA] at kM ⊢
 clear uA h
 have bw:Below w.heap.size w (((w.alloc (.cells #[.slice a len cap] 25)).alloc (.cells #[.slice a0 n0 c0,.slice a1 n1 c1,.slice a2 n2 c2,.slice a3 n3 c3] 33)).alloc (.cells #[.slice none 0 0,.map none] 106)):=by go_grown
 have pP:Blk (((w.alloc (.cells #[.slice a len cap] 25)).alloc (.cells #[.slice a0 n0 c0,.slice a1 n1 c1,.slice a2 n2 c2,.slice a3 n3 c3] 33)).alloc (.cells #[.slice none 0 0,.map none] 106)) w.heap.size 25 [.slice a len cap]:=Zu _ (Zu _ (Zp _ _ _ rfl))
 have pS:Blk (((w.alloc (.cells #[.slice a len cap] 25)).alloc (.cells #[.slice a0 n0 c0,.slice a1 n1 c1,.slice a2 n2 c2,.slice a3 n3 c3] 33)).alloc (.cells #[.slice none 0 0,.map none] 106)) (w.heap.size+1) 33 [.slice a0 n0 c0,.slice a1 n1 c1,.slice a2 n2 c2,.slice a3 n3 c3]:=Zu _ (Zp _ _ _ (by simp))
 have pR:Blk (((w.alloc (.cells #[.slice a len cap] 25)).alloc (.cells #[.slice a0 n0 c0,.slice a1 n1 c1,.slice a2 n2 c2,.slice a3 n3 c3] 33)).alloc (.cells #[.slice none 0 0,.map none] 106)) (w.heap.size+2) 106 [.slice none 0 0,.map none]:=Zp _ _ _ (by simp)
 have hmm:=@run_makeMap Tryz.prog
 go_enter Tryz.func67,Tryz.ntmps67
 go_wp2_with fail
 generalize (((w.alloc (.cells #[.slice a len cap] 25)).alloc (.cells #[.slice a0 n0 c0,.slice a1 n1 c1,.slice a2 n2 c2,.slice a3 n3 c3] 33)).alloc (.cells #[.slice none 0 0,.map none] 106))=U at *
 have kMx:=kM U (hC.below bw) (hM _ bw) (hV.below bw)
 have hRU:=hR.below bw
 clear kM hM hC
 go_wp2_with (first | refine Zc rfl 25 _ rfl w.heap.size rfl pP _ Tryz.underlying25 rfl (by kernel_rfl) ?_ | refine Zc rfl 33 _ rfl (w.heap.size+1) rfl pS _ Tryz.underlying33 rfl (by kernel_rfl) ?_)
 refine kMx.mono ?_
 rintro e w1 ⟨⟨cs',rfl,hR'⟩,hb⟩
 obtain rfl:=hRU.uniq hR'
 replace bw:=Zb bw hb
 replace pR:=pR.below hb
 clear hb kMx pP pS hR' hRU
 have pN:=Blk.new w1 89 [.slice none 0 0,.int .i64 0,.int .i64 0,.int .i64 0,.slice none 0 0,.int .i64 0,.int .i64 0,.int .i64 0,.slice none 0 0,.int .i64 0,.int .i64 0,.int .i64 0,.int .i64 0,.int .i64 0,.int .i64 0,.int .i64 0,.int .i64 0,.int .i64 0]
 have hbN:Below w1.heap.size w1 (w1.alloc (.cells #[.slice none 0 0,.int .i64 0,.int .i64 0,.int .i64 0,.slice none 0 0,.int .i64 0,.int .i64 0,.int .i64 0,.slice none 0 0,.int .i64 0,.int .i64 0,.int .i64 0,.int .i64 0,.int .i64 0,.int .i64 0,.int .i64 0,.int .i64 0,.int .i64 0] 89)):=by go_grown
 go_wp2_with (refine Ze rfl 89 _ _ rfl w1.heap.size (Zh cs.1.val cs.2.1.val cs.2.2.val z0) rfl rfl pN (by kernel_rfl) rfl rfl ?_)
 intro w2 p2 g2
 have pM:=p2.out
 have b2:Below w1.heap.size w1 w2:=hbN.grown g2 hbN.size (fun k e=>by cases e;exact Nat.le_refl _)
 replace bw:=Zb bw b2
 replace pR:=pR.below b2
 clear p2 g2 hbN pN b2
 generalize w1.heap.size=Y at *
 have hN0:VV (.map []) ([]:List (Zr V4)):=VV.start
 have hbs:=bw.size
 have hRlt:=pR.lt
 have pX:=Blk.new (w2.alloc (.map #[] 0)) 106 [.slice none 0 0,.map none]
 have hm0:((w2.alloc (.map #[] 0)).alloc (.cells #[.slice none 0 0,.map none] 106)).ownsMap Tryz.prog 9 (plainElem Tryz.prog 3) w2.heap.size 0 (.map []:DataW Unit):=(World.ownsMap_made (H:=Unit) w2 Tryz.prog 9 (plainElem Tryz.prog 3)).alloc _
 have hbM:Below w2.heap.size w2 (w2.alloc (.map #[] 0)):=⟨rfl,rfl,rfl,by simp,fun k hk=>Below.heap_alloc w2 _ k hk⟩
 have hbX:Below w2.heap.size w2 ((w2.alloc (.map #[] 0)).alloc (.cells #[.slice none 0 0,.map none] 106)):=Zb hbM ⟨rfl,rfl,rfl,by simp,fun k hk=>Below.heap_alloc _ _ k hk⟩
 simp only [World.size_alloc] at pX
 go_wp2_with (refine Ze rfl 106 _ _ rfl (w2.heap.size+1) [.slice none 0 0,.map (some w2.heap.size)] rfl rfl pX (by kernel_rfl) rfl rfl ?_)
 intro w3 p3 g3
 have bx:=p3.out
 have hm3:=hm0.kept g3 (by simp)
 have b3:Below w2.heap.size w2 w3:=hbX.grown g3 hbX.size (fun k e=>by cases e;omega)
 replace bw:=Zb bw b3
 replace pR:=pR.below b3
 replace pM:=pM.below b3
 clear p3 g3 hbX hbM hm0 pX b3 hmm
 have sp0:YY w3 w.heap.size w2.heap.size (.slice none 0 0) cs (Yp rows (WO rows z0)) [] 0:=⟨World.ownsRow_nil _ _ _ _,⟨_,hm3,hN0⟩,fun i r mv hi=>by omega,fun i r mv _ hr=>by simp at hr,hbs⟩
 have kT:=Ls sp0 bx bw.size (Nat.le_refl 0) (fun r hr=>by simp at hr) (hV.below bw) hz (by decide) 0 0
 have hXB:w.heap.size≤w2.heap.size+1:=by omega
 have hRX:w.heap.size+2≠w2.heap.size+1:=by omega
 go_wp2_with (refine Zc rfl 89 _ rfl Y rfl pM _ Tryz.underlying89 rfl (by kernel_rfl) ?_)
 refine kT.mono ?_
 rintro e w4 ⟨vs,rfl,sp,bx4,k4,m4⟩
 have st:Pr w w4 (w2.heap.size+1) (w.heap.size+2) w2.heap.size vs cs rows z0 (Vn 0 [] 0 z0) 0:=by
  refine ⟨sp,bx4,?_,?_,?_,?_,Nat.zero_le _,by decide,sp0.belowK k4 hXB bw⟩
  ·exact (k4.block _ pR.lt hRX (Wy hm3 pR) (Zg sp0.row pR (by decide))).trans pR
  ·rw [Ui];exact Uj (fun r hr=>by simp at hr) hz
  ·rw [Ui];rfl
  exact N7 0 [] 0 z0
 generalize w2.heap.size+1=X at *
 generalize w2.heap.size=nb at *
 have hRB9:w.heap.size≤w.heap.size+2:=by omega
 generalize w.heap.size+2=R at *
 generalize Vn 0 [] 0 z0=L0 at *
 clear kT sp bx4 k4 m4 sp0 bx bw pR pM hm3 hN0 hRlt hbs
 go_wp2_with fail
 go_loopw [24] (fun s24 wr=>∃ (at9:Nat) (vs:Value) (L:List (Zr V4 × Value)),s24=.int .i64 at9∧Pr w wr X R nb vs cs rows z0 L at9) (fun s24 _=>2000 - (intOf s24).toNat)
 case atStart=>exact ⟨0,_,_,rfl,st⟩
 case round =>
  clear st vs
  obtain ⟨at9,vs,L,rfl,hO⟩:=hrel
  obtain ⟨va,vn,vc,rfl⟩:∃ va vn vc,vs=.slice va vn vc:=Z0 hO.sp.row
  obtain rfl:vn=L.length:=by
   rcases hO.sp.row.2 with ⟨h1,h2⟩ | ⟨gq,cq,cur,h1,_⟩
   ·cases h1;exact h2.symm
   cases h1;rfl
  have cX0:wr.cell? ⟨X,0,none⟩=some (.slice va L.length vc):=by simpa using hO.bx.cell 0
  by_cases hlt:at9<2000
  ·have hlt1:(at9:Int)<2000:=by omega
   by_cases hel:at9=L.length
   ·have hxl:at9=L.length∨at9=2000:=.inl hel
    have hF:=hO.fin hxl
    have hq1:((at9:Int) == (L.length:Int))=true:=by rw [hel];simp
    have hq2:decide ((at9:Int)=(L.length:Int))=true:=by rw [hel];simp
    clear hel
    have hfl:(WO rows z0).length=L.length:=by rw [← hF];simp
    by_cases hbig:2000<L.length
    ·omega
    have hif:(WO rows z0).length≤2000:=by omega
    have hb1:¬ (2000:Int)<(L.length:Int):=by omega
    have pR:=hO.br
    have bw:=hO.bl
    have bx:=hO.bx
    have hRB:w.heap.size≤R:=hRB9
    have sp:=hO.sp
    obtain rfl:at9=L.length:=by have:=hO.le;omega
    clear hO hfl hbig hxl
    go_wp2_with (first | refine Zc rfl 106 _ rfl X rfl bx _ Tryz.underlying106 rfl (by kernel_rfl) ?_ | refine Ze rfl 106 _ _ rfl R [.slice va L.length vc,.map (some nb)] rfl rfl pR (by kernel_rfl) rfl rfl ?_)
    intro w9 p9 g9
    replace bw:=bw.grown g9 bw.size (fun k e=>by cases e;exact hRB)
    replace sp:=sp.grown g9 pR (by decide) (by decide)
    have HG:Hid (Rp (.returned (.tuple #[.agg #[.slice va L.length vc,.map (some nb)],.int .i64 0])) w w9 a rows (WO rows z0)):=⟨_,_,_,_,rfl,sp,hF,hR,bw⟩
    clear g9 pR sp bx bw hF
    go_wp2_with fail
    refine bodyPost_ret (ZC Tryz.results67 _ _ _ _ _ _ rfl p9.out Tryz.underlying106 rfl (by kernel_rfl)) rfl ?_
    exact HG.out
   have hal:at9<L.length:=by have:=hO.le;omega
   have hq1:((at9:Int) == (L.length:Int))=false:=beq_false_of_ne (by omega)
   have hq2:decide ((at9:Int)=(L.length:Int))=false:=decide_eq_false (by omega)
   obtain ⟨r,mv,hr⟩:∃ r mv,L[at9]?=some (r,mv):=⟨L[at9].1,L[at9].2,by rw [List.getElem?_eq_getElem hal]⟩
   obtain rfl:=hO.sp.nil at9 r mv (Nat.le_refl _) hr
   have kG:=GY hO.sp hO.bx hXB hO.bl hr hO.sh hp hV hI (hO.pre hr hlt) (by have:=hO.ln;omega)
   have HGo:=fun (w5:World) (vs5:Value) (L5:List (Zr V4 × Value))=>hO.go (w':=w5) (vs':=vs5) (L':=L5) hr hRX hXB hlt
   clear hel hal hr
   go_wp2_with fail
   refine kG.mono ?_
   rintro e w5 ⟨vs5,L5,rfl,sp5,bx5,st5,sh5,ln5,k5,m5⟩
   have st9:=HGo w5 vs5 L5 sp5 bx5 st5 sh5 ln5 k5
   clear kG HGo sp5 bx5 st5 sh5 ln5 k5 m5 hO cX0
   go_wp2
   go_roundw
   case rel=>exact ⟨at9+1,_,_,by go_num,st9⟩
   case measure=>simp [intOf];omega
  have hlt1:¬ (at9:Int)<2000:=by omega
  have hxl:at9=L.length∨at9=2000:=.inr (by have:=hO.a2;omega)
  have hF:=hO.fin hxl
  have hfl:(WO rows z0).length=L.length:=by rw [← hF];simp
  by_cases hbig:2000<L.length
  ·have hif:¬ (WO rows z0).length≤2000:=by omega
   have hb1:(2000:Int)<(L.length:Int):=by omega
   have pR:=hO.br
   have bw:=hO.bl
   have hRB:w.heap.size≤R:=hRB9
   clear hF hfl hO hbig
   go_wp2_with (refine Ze rfl 106 _ _ rfl R [.slice none 0 0,.map none] rfl rfl pR (by kernel_rfl) rfl rfl ?_)
   intro w9 p9 g9
   replace bw:=bw.grown g9 bw.size (fun k e=>by cases e;exact hRB)
   clear g9 pR
   go_wp2_with fail
   refine bodyPost_ret (ZC Tryz.results67 _ _ _ _ _ _ rfl p9.out Tryz.underlying106 rfl (by kernel_rfl)) rfl ?_
   exact ⟨rfl,bw⟩
  have hif:(WO rows z0).length≤2000:=by omega
  have hb1:¬ (2000:Int)<(L.length:Int):=by omega
  have pR:=hO.br
  have bw:=hO.bl
  have bx:=hO.bx
  have hRB:w.heap.size≤R:=hRB9
  have sp:=hO.sp
  obtain rfl:at9=L.length:=by have:=hO.le;omega
  clear hO hfl hbig hxl
  go_wp2_with (first | refine Zc rfl 106 _ rfl X rfl bx _ Tryz.underlying106 rfl (by kernel_rfl) ?_ | refine Ze rfl 106 _ _ rfl R [.slice va L.length vc,.map (some nb)] rfl rfl pR (by kernel_rfl) rfl rfl ?_)
  intro w9 p9 g9
  replace bw:=bw.grown g9 bw.size (fun k e=>by cases e;exact hRB)
  replace sp:=sp.grown g9 pR (by decide) (by decide)
  have HG:Hid (Rp (.returned (.tuple #[.agg #[.slice va L.length vc,.map (some nb)],.int .i64 0])) w w9 a rows (WO rows z0)):=⟨_,_,_,_,rfl,sp,hF,hR,bw⟩
  clear g9 pR sp bx bw hF
  go_wp2_with fail
  refine bodyPost_ret (ZC Tryz.results67 _ _ _ _ _ _ rfl p9.out Tryz.underlying106 rfl (by kernel_rfl)) rfl ?_
  exact HG.out
theorem M9 (a:Option Addr) (len cap:Nat) (rows:List (List I3)) (s:S4) (w:World) (hC:XP w a len cap rows) (h:Yl w s Zl) (hV:Yu w) (hp:Zn rows=true) :
  Calls Tryz.prog 67 #[.agg #[.slice a len cap],s.val] w fun e w'=>if (Yd rows).length≤2000 then Rp e w w' a rows (Yd rows) else (e=.returned (.tuple #[.agg #[.slice none 0 0,.map none],.int .i64 15])∧Below w.heap.size w w'):=
 Mn a len cap rows s Zl w hC h hV hp ZJ
end Go.Proofs.YtifoggpohlegmaaGreatDoor
