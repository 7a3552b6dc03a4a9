/-
  Joined: CfrI, EtiI, SmB, At, VmLaid, RowBelow, FfrW, Vars.
-/
import Derived.Test.YtgmhhegckcionaaGreatDoorRows
import Derived.ProofKit
import Derived.OpenShut
import Derived.LaidMore
import Derived.MakeChecks
import Derived.Stop.LaidErr
import Derived.WalkSmall
import Derived.ChangeOld
import Derived.Test.YtgmhhegckcionaaGreatDoorF44
import Derived.Test.YtgmhhegckcionaaGreatDoorF48

namespace Go.Proofs.YtgmhhegckcionaaGreatDoor
set_option maxRecDepth 100000
set_option maxHeartbeats 16000000
open Go.RowKit
set_option linter.unusedVariables false
set_option linter.unusedSimpArgs false

theorem Sy (a:Option Addr) (len cap:Nat) (rows:List (List I3)) (am:Option Addr) (n c:Nat) (L:List EQ) (w:World) (hC:YT w a len cap rows) (hA:Wv w am n c L) (hgd:∀ x ∈ L,US x.2.1.1 x.2.1.2.2) (hV:ZN w) :
  Calls Tryz.prog 20 #[.agg #[.slice a len cap],.agg #[.slice am n c]] w fun x w'=>Wl x w' w.heap.size (agB rows (L.map (·.1))) (agN rows (L.map (·.1))) (agE rows (L.map (·.1))) (agC rows (L.map (·.1)))∧Below w.heap.size w w':=by
 cases hp:Zf rows
 ·obtain ⟨e1,e2,e3,e4⟩:=G6 (rows:=rows) (es:=L.map (·.1)) (fun h=>by rw [h.1] at hp;cases hp)
  rw [e1,e2,e3,e4]
  exact T4 a len cap rows am n c w hC hV hp
 exact Sz a len cap rows am n c L w hC hA hgd hV hp
theorem CR (rows:List (List I3)):agB rows []=TP rows∧agN rows []=TQ rows∧agE rows []=Vd rows∧agC rows []=Vc rows:=by
 have hC:agC rows []=Vc rows:=by
  unfold agC Vc agR St
  by_cases h:Zf rows=true
  ·rw [if_pos ⟨h,rfl⟩,if_pos h]
  rw [if_neg (fun h9=>h h9.1),if_neg h]
 unfold agB agN agE TP TQ Vd
 rw [hC]
 exact ⟨rfl,rfl,rfl,rfl⟩
theorem SA (a:Option Addr) (len cap:Nat) (rows:List (List I3)) (w:World) (hC:YT w a len cap rows) (hV:ZN w) :
  Calls Tryz.prog 8 #[.agg #[.slice a len cap]] w fun x w'=>Wl x w' w.heap.size (TP rows) (TQ rows) (Vd rows) (Vc rows)∧Below w.heap.size w w':=by
 have kA:=fun W (hb:Below w.heap.size w W)=>Sy a len cap rows none 0 0 [] W (hC.below hb) (T2 W) (fun x hx=>by cases hx) (hV.below hb)
 obtain ⟨e1,e2,e3,e4⟩:=CR rows
 simp only [List.map_nil,e1,e2,e3,e4] at kA
 clear e1 e2 e3 e4
 generalize TP rows=bz at *
 generalize TQ rows=nz at *
 generalize Vd rows=ez at *
 generalize Vc rows=cz at *
 have bw:Below w.heap.size w (((w.alloc (.cells #[.slice a len cap] 25)).alloc (.cells #[.slice none 0 0,.int .i64 0] 30)).alloc (.cells #[.slice none 0 0] 33)):=by go_grown
 have pP:Blk (((w.alloc (.cells #[.slice a len cap] 25)).alloc (.cells #[.slice none 0 0,.int .i64 0] 30)).alloc (.cells #[.slice none 0 0] 33)) w.heap.size 25 [.slice a len cap]:=Zl _ (Zl _ (Zj _ _ _ rfl))
 have pR:Blk (((w.alloc (.cells #[.slice a len cap] 25)).alloc (.cells #[.slice none 0 0,.int .i64 0] 30)).alloc (.cells #[.slice none 0 0] 33)) (w.heap.size+1) 30 [.slice none 0 0,.int .i64 0]:=Zl _ (Zj _ _ _ (by simp))
 have pT:Blk (((w.alloc (.cells #[.slice a len cap] 25)).alloc (.cells #[.slice none 0 0,.int .i64 0] 30)).alloc (.cells #[.slice none 0 0] 33)) (w.heap.size+1+1) 33 [.slice none 0 0]:=Zj _ _ _ (by simp)
 go_enter Tryz.func8,Tryz.ntmps8
 go_wp2_with fail
 generalize (((w.alloc (.cells #[.slice a len cap] 25)).alloc (.cells #[.slice none 0 0,.int .i64 0] 30)).alloc (.cells #[.slice none 0 0] 33))=U at *
 obtain ⟨XT,hXT⟩:∃ XT,XT=w.heap.size+1+1:=⟨_,rfl⟩
 obtain ⟨XR,hXR⟩:∃ XR,XR=w.heap.size+1:=⟨_,rfl⟩
 rw [← hXT] at pT ⊢
 rw [← hXR] at pR ⊢
 have hXRw:w.heap.size<XR:=by omega
 have hXTw:XR<XT:=by omega
 clear hXR hXT
 have kx:=kA U bw
 have c0:=pP.cell 0
 simp only [List.getElem?_cons_zero] at c0
 go_wp2_with fail
 refine kx.mono ?_
 rintro e w1 ⟨⟨vb,vm,T9,rfl,hbug,hTb,hOM,hTl⟩,hb⟩
 replace pR:=pR.below hb
 replace pT:=pT.below hb
 replace hbug:=Yz hbug bw.size
 have hTl2:=Nat.le_trans bw.size hTl
 have bz9:=Zb bw hb
 clear kx kA hb bw pP c0
 obtain ⟨ba,bc,rfl⟩:=ZY hbug
 obtain ⟨ma,mn,mc,rfl⟩:∃ ma mn mc,vm=.slice ma mn mc:=by
  obtain ⟨cs9,ho9,_⟩:=hOM
  exact Z9 ho9
 go_wp2_with (refine Ze rfl 30 _ _ rfl XR [.slice ba bz.length bc,.int .i64 (nz:Int)] rfl rfl pR (by kernel_rfl) rfl rfl ?_)
 intro w2 p2 g2
 have pR2:=p2.out
 have pT2:=pT.kept g2 (fun e=>Z8 pR pT (by decide) (by cases e;rfl))
 have hOM2:=hOM.keptV g2 pR (by decide) (by decide) (by decide)
 have hbug2:=World.ownsRow.kept hbug g2 (.inr (Zk hbug pR (by decide)))
 have b2:=bz9.grown g2 bz9.size (fun q e=>by cases e;omega)
 clear p2 g2 hOM hbug bz9 pR pT
 have hne:XR≠XT:=by omega
 have s0:=pT2.cell 0
 have fs:=pT2.frozen 0
 have t0:=(pT2.set 0 (.slice ma mn mc)).cell 0
 have q0:=(pR2.off ⟨XT,0,none⟩ (.slice ma mn mc) hne).cell 0
 have q1:=(pR2.off ⟨XT,0,none⟩ (.slice ma mn mc) hne).cell 1
 simp only [List.set_cons_zero,List.getElem?_cons_zero,List.getElem?_cons_succ] at s0 t0 q0 q1
 have gS:=Ut w2 XT 0 (.slice ma mn mc)
 have hOM3:=hOM2.keptV gS pT2 (by decide) (by decide) (by decide)
 have hbug3:=World.ownsRow.kept hbug2 gS (.inr (Zk hbug2 pT2 (by decide)))
 have b3:=b2.grown gS b2.size (fun q e=>by cases e;omega)
 have HG:Hid (Wl (.returned (.tuple #[.agg #[.slice ba bz.length bc,.int .i64 (nz:Int)],.agg #[.slice ma mn mc],.int .i64 cz])) (w2.setCell ⟨XT,0,none⟩ (.slice ma mn mc)) w.heap.size bz nz ez cz):=⟨_,_,T9,rfl,hbug3,hTb,hOM3,hTl2⟩
 clear gS hOM2 hOM3 hbug2 hbug3 b2 pR2 pT2
 go_wp2
 refine bodyPost_ret (by simp [results,Tryz.results8,go_sem,t0,q0,q1];try rfl) rfl ?_
 exact ⟨HG.out,b3⟩


theorem Kg {w:World} {g:Nat} {e:E3} {s:Sl2} (hB:Blk w g 45 (YI e.1 s)) (hE:YK w s e):Y6 w (some ⟨g,0,none⟩) 1 1 [e]:=by
 refine ⟨rfl,Nat.le_refl _,by unfold maxLen;omega,.inr ⟨g,0,rfl,hB.lt,fun t ht=>?_⟩⟩
 obtain rfl:t=0:=by omega
 exact ⟨s,by simpa [YI] using hB.cell 0,by simpa [YI] using hB.cell 1,by simpa [YI] using hB.cell 2,hE⟩
theorem Rh (a:Option Addr) (len cap:Nat) (rows:List (List I3)) (e:E3) (s:Sl2) (w:World) (hC:YT w a len cap rows) (hE:YK w s e) (hV:ZN w) :
  Calls Tryz.prog 13 #[.agg #[.slice a len cap],ZW e.1 s] w fun x w'=>x=.returned (.tuple #[.bool (etB rows e),.int .i64 (etC rows e)])∧Below w.heap.size w w':=by
 have kP:=fun W (hb:Below w.heap.size w W)=>Ud a len cap rows W (hC.below hb)
 have kE:=fun W (hb:Below w.heap.size w W)=>Tc e s W (hE.below hb) (hV.below hb)
 have kT:Hid (∀ W,Below w.heap.size w W→∀ g,Blk W g 45 (YI e.1 s)→Zf rows=true→YY e=true→Calls Tryz.prog 39 #[.agg #[.slice a len cap],.slice (some ⟨g,0,none⟩) 1 1] W fun x w'=>x=.returned (.bool (Wu rows e))∧Below W.heap.size W w'):=by
  intro W hb g hB hp hok
  obtain ⟨h3,_⟩:=hC.rowsAt hp
  subst h3
  have k:=GR hp [e] W a (some ⟨g,0,none⟩) 1 1 (hC.below hb) (Kg hB (hE.below hb)) (fun x hx=>by rw [List.mem_singleton.1 hx];exact hok) (hV.below hb) (by omega)
  rw [show [e].all (Wu rows)=Wu rows e by simp] at k
  exact k
 unfold etB etC
 obtain ⟨ek,eb,ez⟩:=e
 obtain ⟨⟨s1a,s1n,s1c⟩,⟨s2a,s2n,s2c⟩⟩:=s
 generalize Zf rows=po at *
 generalize YY (ek,eb,ez)=eo at *
 generalize Wu rows (ek,eb,ez)=tr at *
 unfold ZW at kE ⊢
 unfold YI at kT
 simp only at kE kT ⊢
 clear hE hC hV
 have bw:Below w.heap.size w ((w.alloc (.cells #[.slice a len cap] 25)).alloc (.cells #[.string ek,.slice s1a s1n s1c,.slice s2a s2n s2c] 45)):=by go_grown
 have pP:Blk ((w.alloc (.cells #[.slice a len cap] 25)).alloc (.cells #[.string ek,.slice s1a s1n s1c,.slice s2a s2n s2c] 45)) w.heap.size 25 [.slice a len cap]:=Zl _ (Zj _ _ _ rfl)
 have pE:Blk ((w.alloc (.cells #[.slice a len cap] 25)).alloc (.cells #[.string ek,.slice s1a s1n s1c,.slice s2a s2n s2c] 45)) (w.heap.size+1) 45 [.string ek,.slice s1a s1n s1c,.slice s2a s2n s2c]:=Zj _ _ _ (by simp)
 go_enter Tryz.func13,Tryz.ntmps13
 go_wp2_with fail
 generalize ((w.alloc (.cells #[.slice a len cap] 25)).alloc (.cells #[.string ek,.slice s1a s1n s1c,.slice s2a s2n s2c] 45))=U at *
 have kPx:=kP U bw
 have c0:=pP.cell 0
 simp only [List.getElem?_cons_zero] at c0
 go_wp2_with fail
 refine kPx.mono ?_
 rintro e w1 ⟨rfl,hb⟩
 replace bw:=Zb bw hb
 replace pP:=pP.below hb
 replace pE:=pE.below hb
 clear kP kPx hb c0
 cases po
 ·clear kE kT pP pE
  go_wp2
  go_ret2
  exact ⟨rfl,bw⟩
 have kEx:=kE w1 bw
 have x0:=pE.cell 0
 have x1:=pE.cell 1
 have x2:=pE.cell 2
 simp only [List.getElem?_cons_zero,List.getElem?_cons_succ] at x0 x1 x2
 go_wp2_with fail
 refine kEx.mono ?_
 rintro e w2 ⟨rfl,hb⟩
 replace bw:=Zb bw hb
 replace pP:=pP.below hb
 replace pE:=pE.below hb
 clear kE kEx hb x0 x1 x2
 cases eo
 ·clear kT pP pE
  go_wp2
  go_ret2
  exact ⟨rfl,bw⟩
 have c0:=pP.cell 0
 simp only [List.getElem?_cons_zero] at c0
 have hal:Below w2.heap.size w2 (w2.alloc (.cells #[.string ek,.slice s1a s1n s1c,.slice s2a s2n s2c] 45)):=by go_grown
 have pQ:Blk (w2.alloc (.cells #[.string ek,.slice s1a s1n s1c,.slice s2a s2n s2c] 45)) w2.heap.size 45 [.string ek,.slice s1a s1n s1c,.slice s2a s2n s2c]:=Zj _ _ _ rfl
 have kTx:=kT.out _ (Zb bw hal) _ pQ (by simp) (by simp)
 clear pQ kT
 go_wp2_with (refine Zd rfl 45 _ rfl (w.heap.size+1) rfl pE _ Tryz.underlying45 rfl (by kernel_rfl) ?_)
 refine kTx.mono ?_
 rintro e w3 ⟨rfl,hb⟩
 have bz:=Zb (Zb bw hal) hb
 clear kTx hb hal pP pE c0
 go_wp2
 go_ret2
 exact ⟨rfl,bz⟩


theorem Py (a0 a1:Option Addr) (n c0 c1:Nat) (xs:List I3) (w:World) (h0:Zr w a0 n c0 xs) (h1:Zr w a1 n c1 xs) (hn:n≤1000000) :
  Calls Tryz.prog 17 #[.slice a0 n c0,.slice a1 n c1] w fun e w'=>e=.returned (.bool true)∧Below w.heap.size w w':=by
 have hl:=h0.1
 go_enter Tryz.func17,Tryz.ntmps17
 go_wp2_with fail
 go_loopw [5] (fun si wr=>∃ k:Nat,k≤n∧si=.int .i64 k∧Below w.heap.size w wr) (fun si _=>n - (intOf si).toNat)
 case atStart=>exact ⟨0,by omega,rfl,Below.refl _ _⟩
 case round =>
  obtain ⟨k,hk,rfl,bw⟩:=hrel
  by_cases hlt:k<n
  ·obtain ⟨_,_,_,_,hcase⟩:=h0.below bw
   rcases hcase with e0 | ⟨b,off,rfl,hb,hc⟩
   ·omega
   obtain ⟨d0,d1,d2⟩:=hc k hlt
   clear hc hb
   obtain ⟨_,_,_,_,hcase⟩:=h1.below bw
   rcases hcase with e0 | ⟨b',off',rfl,hb,hc⟩
   ·omega
   obtain ⟨f0,f1,f2⟩:=hc k hlt
   clear hc hb
   generalize xs.getD k (0,0,0)=x at d0 d1 d2 f0 f1 f2
   obtain ⟨x0,x1,x2⟩:=x
   simp only at d0 d1 d2 f0 f1 f2
   have hlt':(k:Int)<(n:Int):=by omega
   have hk0:(0:Int)≤(k:Int):=by omega
   have q0:(x0 == x0)=true:=by simp
   have q1:(x1 == x1)=true:=by simp
   have q2:(x2 == x2)=true:=by simp
   go_wp2_with fail
   go_quiet (fail)
   have bwd:=below_drewN bw nq
   generalize wr.drewN nq=U at *
   clear d0 d1 d2 f0 f1 f2 bw q0 q1 q2
   go_wp2
   go_roundw
   case rel=>exact ⟨k+1,by omega,by go_num,bwd⟩
   case measure=>simp [intOf];omega
  obtain rfl:k=n:=by omega
  go_wp2
  go_ret
  exact ⟨rfl,bw⟩


def GX (n:Int) (e:Ending):Prop:=∃ v:Nat,((v:Int)<n∨v=0)∧e=.returned (.int .i64 v)
theorem PH {n x:Int} (h0:0≤x) (h:x<n):GX n (.returned (.int .i64 x)):=⟨x.toNat,.inl (by omega),by rw [Int.toNat_of_nonneg h0]⟩

theorem CS (a:Option Addr) (len cap:Nat) (zs:List Int) (i n:Int) (w:World) (hI:IsRow .u8 w a len cap zs) (hlen:len≤1048576) (hi0:0≤i) (hi1:i≤1000000) (hn:n≤1000000000) :
  Calls Tryz.prog 18 #[.slice a len cap,.int .i64 i,.int .i64 n] w fun e w'=>GX n e∧∃ d,w'=w.drewN d:=by
 by_cases h1:n≤1
 ·go_enter Tryz.func18,Tryz.ntmps18
  go_wp2
  go_ret
  exact ⟨⟨0,.inr rfl,rfl⟩,0,rfl⟩
 by_cases h0:len=0
 ·subst h0
  go_enter Tryz.func18,Tryz.ntmps18
  go_wp2
  go_ret
  exact ⟨PH (Int.emod_nonneg (i*7) (by omega)) (Int.emod_lt_of_pos (i*7) (by omega)),0,rfl⟩
 have hbnd:∀ j,j<len→0≤(zs.take len).getD j 0∧(zs.take len).getD j 0≤255:=by
  intro j hj
  rcases hI with ⟨_,hl0,_,_⟩ | ⟨x,_,hlc,_,hzl,_,hw⟩
  ·exact absurd hl0 h0
  have hm:(zs.take len).getD j 0 ∈ zs:=by
   have hjz:j<zs.length:=by omega
   simp [List.getD,hj,List.getElem?_eq_getElem hjz]
  have hw':=hw _ hm
  generalize (zs.take len).getD j 0=y at hw' ⊢
  simp [Lit.wf,IntKind.min,IntKind.max,IntKind.signed,IntKind.bits] at hw'
  omega
 obtain ⟨hl,hlc,hcm,hcase⟩:=Yn.of_isRow hI
 unfold maxLen at hcm
 rcases hcase with h0' | ⟨b,off,rfl,hblt,hcell⟩
 ·exact absurd h0' h0
 obtain ⟨k,rfl⟩:=Int.eq_ofNat_of_zero_le hi0
 have hpos:0<len:=by omega
 obtain ⟨q,hq⟩:∃ q:Nat,q=k % len:=⟨_,rfl⟩
 obtain ⟨r,hr⟩:∃ r:Nat,r=(k+1) % len:=⟨_,rfl⟩
 obtain ⟨d,hd⟩:∃ d:Nat,d=k / len:=⟨_,rfl⟩
 have hql:q<len:=by rw [hq];exact Nat.mod_lt _ hpos
 have hrl:r<len:=by rw [hr];exact Nat.mod_lt _ hpos
 have hdk:d≤k:=by rw [hd];exact Nat.div_le_self _ _
 have t1:((k:Int)).tmod (len:Int)=(q:Int):=by rw [hq,Int.tmod_eq_emod_of_nonneg (by omega)];rfl
 have t2:((k:Int)+1).tmod (len:Int)=(r:Int):=by rw [hr,Int.tmod_eq_emod_of_nonneg (by omega)];rfl
 have t3:((k:Int)).tdiv (len:Int)=(d:Int):=by rw [hd,Int.tdiv_eq_ediv_of_nonneg (by omega)];rfl
 have cq:=hcell q hql
 have cr:=hcell r hrl
 obtain ⟨x1,x2⟩:=hbnd q hql
 obtain ⟨y1,y2⟩:=hbnd r hrl
 generalize (zs.take len).getD q 0=x at cq x1 x2
 generalize (zs.take len).getD r 0=y at cr y1 y2
 have hq1:(q:Int)<(len:Int):=by omega
 have hr1:(r:Int)<(len:Int):=by omega
 have w1:IntKind.i64.wrap ((k:Int)+1)=(k:Int)+1:=IntWalk.i64_in _ ⟨by omega,by omega⟩
 have w2:IntKind.i64.wrap (d:Int)=(d:Int):=IntWalk.i64_in _ ⟨by omega,by omega⟩
 have w3:IntKind.i64.wrap x=x:=IntWalk.i64_in _ ⟨by omega,by omega⟩
 have w4:IntKind.i64.wrap y=y:=IntWalk.i64_in _ ⟨by omega,by omega⟩
 have w5:IntKind.i64.wrap (x*31)=x*31:=IntWalk.i64_in _ ⟨by omega,by omega⟩
 have w6:IntKind.i64.wrap (x*31+y)=x*31+y:=IntWalk.i64_in _ ⟨by omega,by omega⟩
 have w7:IntKind.i64.wrap (x*31+y+(d:Int))=x*31+y+(d:Int):=IntWalk.i64_in _ ⟨by omega,by omega⟩
 have t4:(x*31+y+(d:Int)).tmod n=(x*31+y+(d:Int)) % n:=Int.tmod_eq_emod_of_nonneg (by omega)
 have hne:((len:Int) == 0)=false:=by simp;omega
 have hnn:(n == 0)=false:=by simp;omega
 have hne':¬ (len:Int)=0:=by omega
 have hnn':¬ n=0:=by omega
 clear hcell hbnd hI hq hr hd hl
 go_enter Tryz.func18,Tryz.ntmps18
 go_wp2
 go_quiet (fail)
 go_wp2
 go_ret
 exact ⟨PH (Int.emod_nonneg (x*31+y+(d:Int)) (by omega)) (Int.emod_lt_of_pos (x*31+y+(d:Int)) (by omega)),_,rfl⟩

open Go.RowKit Go.ChangeShapes

theorem MM:Tryz.prog.globalNamed "loop.example/g00632/impl.vmShape"=some 0:=by kernel_rfl
theorem Do:(Tryz.prog.globals[0]?).map (·.type)=some 218:=by kernel_rfl

section
variable {H : Type} {enc : TypeId × Value → H} {w : World} {base : Nat} {spare : Nat → Bool} {held : Bool}
theorem UG {fuel:Nat} {cs:List Value} {a b:Int} {p:List MemPlace} (h:DataW.trod enc Tryz.prog w base spare held fuel 217 cs=some (.agg [.lit (.int .i64 a),.lit (.int .i64 b)],p)):cs=[.int .i64 a,.int .i64 b]:=by
 obtain ⟨y0,y1,n,hx,hl,h0,h1⟩:=trod_struct2 Tryz.underlying217 h
 have hl2:cs.length=2:=hl.trans (by kernel_rfl)
 have hk:Tryz.prog.cellsOf 3=1:=by kernel_rfl
 match cs,hl2 with
 | [c0,c1],_ =>
  simp only [hk] at h0 h1
  obtain ⟨z0,e0,hy0,_⟩:=DataW.trod_int Tryz.underlying3 h0
  obtain ⟨z1,e1,hy1,_⟩:=DataW.trod_int Tryz.underlying3 h1
  simp at e0 e1
  subst hy0 hy1 e0 e1
  simp at hx
  simp [hx]
theorem Lx {fuel:Nat} {cs:List Value} {p:List MemPlace} (h:DataW.trod enc Tryz.prog w base spare held fuel 218 cs=some (Rows.laid_loop_example_g00632_impl_vmShape,p)):cs=[3,6,4,9,2,3,6,9].map (Value.int .i64):=by
 obtain ⟨xs,m,_,hx,hl,hn,hi⟩:=DataW.trod_array Tryz.underlying218 h
 have hk:Tryz.prog.cellsOf 217=2:=by kernel_rfl
 have hl8:cs.length=8:=hl.trans (by kernel_rfl)
 rw [hk] at hi
 match xs,hn with
 | [⟨x0,p0⟩,⟨x1,p1⟩,⟨x2,p2⟩,⟨x3,p3⟩],_ =>
  unfold Rows.laid_loop_example_g00632_impl_vmShape at hx
  simp at hx
  obtain ⟨⟨rfl,rfl,rfl,rfl⟩,_⟩:=hx
  match cs,hl8 with
  | [c0,c1,c2,c3,c4,c5,c6,c7],_ =>
   have g0:=UG (hi 0 (by decide))
   have g1:=UG (hi 1 (by decide))
   have g2:=UG (hi 2 (by decide))
   have g3:=UG (hi 3 (by decide))
   simp at g0 g1 g2 g3
   simp [g0,g1,g2,g3]
end

theorem R1 {W:World} {p:List (String × DataW Unit)} (hp:p=[("loop.example/g00632/impl.vmShape",Rows.laid_loop_example_g00632_impl_vmShape)]) (h:laidMetH Tryz.prog p W):ZN W:=by
 subst hp
 rw [MakeChecks.laidMetH_plain _ _ _ (by kernel_rfl)] at h
 obtain ⟨ps,⟨g0,t0,cs0,f0,p0,q0,hg0,ht0,hv0,hd0,_,_⟩,_,_⟩:=h
 obtain rfl:=Option.some.inj (MM.symm.trans hg0)
 obtain rfl:=Option.some.inj (Do.symm.trans ht0)
 have hcs:=Lx hd0
 unfold World.var? at hv0
 simp only [MM,Option.bind_some] at hv0
 cases hh:W.heap[0]? with
 | none=>rw [hh] at hv0;cases hv0
 | some o =>
  rw [hh] at hv0
  cases o with
  | cells cs t fr =>
   simp only [Option.some.injEq] at hv0
   subst hv0
   intro i v hi
   rw [← hcs] at hi
   simp only [World.cell?,hh]
   simpa using hi
  | _=>cases hv0


theorem IsRow.below {k:IntKind} {w w':World} {a:Option Addr} {len cap:Nat} {zs:List Int} (h:IsRow k w a len cap zs) (hb:Below w.heap.size w w'):IsRow k w' a len cap zs:=by
 rcases h with h | ⟨x,h1,h2,h3,h4,h5,h6⟩
 ·exact .inl h
 refine .inr ⟨x,h1,h2,h3,h4,fun i hi=>?_,h6⟩
 have hc:=h5 i hi
 have hlt:(x.add i).block<w.heap.size:=by
  rcases Nat.lt_or_ge (x.add i).block w.heap.size with h' | h'
  ·exact h'
  simp [World.cell?,Array.getElem?_eq_none h'] at hc
 rw [hb.cell hlt]
 exact hc
theorem IsRow.len_le {k:IntKind} {w:World} {a:Option Addr} {len cap:Nat} {zs:List Int} (h:IsRow k w a len cap zs):len≤maxLen:=by
 rcases h with ⟨_,rfl,_,_⟩ | ⟨x,h1,h2,h3,_⟩
 ·omega
 omega


theorem Hb {P:List (List I3)} (hP:Vs P):PI P=0∧TP P=UU P (ZL P)∧TQ P=(ZL P).length∧(Vd P).length=(ZL P).length∧1≤(ZL P).length∧(ZL P).length≤2000∧∀ e ∈ Vd P,etB P e=true∧etC P e=0:=by
 obtain ⟨fc,fm,fe⟩:=RD hP
 have hP2:=hP
 obtain ⟨hp,h0,h1,h2⟩:=hP
 have hr:=Sa hp h0 h1 h2
 obtain ⟨k0,_,_,k3,k4,k5⟩:=Re hp (by omega)
 have hpos:1≤(ZL P).length:=by
  have:=VA P
  rcases Nat.eq_zero_or_pos (ZL P).length with e | e
  ·rw [List.getElem?_eq_none (by omega)] at this
   cases this
  exact e
 refine ⟨by unfold PI;rw [if_pos hp,if_pos (by omega)],by unfold TP;rw [if_pos fc];exact k5,by unfold TQ;rw [if_pos fc];exact k3,by unfold Vd;rw [if_pos fc];exact k4,hpos,by omega,fun e he=>?_⟩
 obtain ⟨m,hs,rfl⟩:=fe e he
 refine MW hP2 hp hs ?_
 cases hb:Bb (Yr P 18 m).2.2 (Fg P P)
 ·rfl
 obtain ⟨y,_,hy⟩:=List.any_eq_true.1 hb
 obtain ⟨x,hx,_⟩:=List.mem_map.1 (of_decide_eq_true hy)
 exact absurd rfl (Mx.1 hx).2.2
theorem LB {es:List E3} (h:Yl es=true):Cn es es=true:=by
 unfold Cn
 rw [h,decide_eq_true rfl]
 rfl
theorem NR {P:List (List I3)} (hP:Vs P):(∀ x ∈ UU P (ZL P),I3.fits x)∧(UU P (ZL P)).length≤1000000:=by
 obtain ⟨hp,h0,h1,h2⟩:=hP
 have hr:=Sa hp h0 h1 h2
 obtain ⟨_,k1,_,_,_,k5⟩:=Re hp (by omega)
 have ho:YY (Yr P 18 Zu)=true:=NX hp ZJ
 rw [← k5,k1]
 exact ⟨(Sq ho).2.1,by have:=(Wd ho).2.2.2;omega⟩
theorem T6 {w:World} {B c:Nat} {a:Option Addr} {xs:List I3} (h:w.ownsRow B 103 3 (.slice a xs.length c) xs.length (Zn xs)) (hf:∀ x ∈ xs,I3.fits x):Zr w a xs.length c xs:=by
 obtain ⟨a',c',e,hI⟩:=Zr.of_ownB9 h hf
 injection e with e1 _ e3
 rw [e1,e3]
 exact hI
theorem PF (w:World) (o:Obj):Below w.heap.size w (w.alloc o):=(Below.refl _ w).alloc (Nat.le_refl _) _
theorem LX {P:List (List I3)} (hP:Vs P):(∀ x ∈ UU P (ZL P),I3.fits x)∧(UU P (ZL P)).length≤1000000:=by
 obtain ⟨h1,h2⟩:=NR hP
 exact ⟨h1,h2⟩

theorem fnFresh_walk (a0:Option Addr) (len0 cap0:Nat) (z0:List Int) (a1:Option Addr) (len1 cap1:Nat) (z1:List Int) (w:World) (h0:IsRow .u8 w a0 len0 cap0 z0) (h1:IsRow .u8 w a1 len1 cap1 z1) (hV:ZN w) :
  Calls Tryz.prog 4 #[.slice a0 len0 cap0,.slice a1 len1 cap1] w fun e w'=>e=.returned (.bool true)∧Below w.heap.size w w':=by
 have m0:=h0.len_le
 have m1:=h1.len_le
 unfold maxLen at m0 m1
 by_cases b0:1048576<len0
 ·clear h0 h1
  go_enter Tryz.func4,Tryz.ntmps4
  go_wp2
  go_ret
  exact ⟨rfl,Below.refl _ _⟩
 by_cases b1:1048576<len1
 ·clear h0 h1
  go_enter Tryz.func4,Tryz.ntmps4
  go_wp2
  go_ret
  exact ⟨rfl,Below.refl _ _⟩
 have n0:len0≤1048576:=by omega
 have n1:len1≤1048576:=by omega
 clear m0 m1 b0 b1
 have kA:=Q7 a0 len0 cap0 z0 w h0 n0
 have hV9:∀ W,Below w.heap.size w W→ZN W:=fun W hb=>hV.below hb
 clear h0 hV
 go_enter Tryz.func4,Tryz.ntmps4
 go_wp2_with fail
 refine kA.mono ?_
 rintro e w1 ⟨⟨v,P,hP,rfl,oP⟩,bw⟩
 have hI1:=h1.below bw
 have hp3:=(Xo hP.1).1
 have hpf:∀ r ∈ P,∀ x ∈ r,I3.fits x:=fun r hr x hx=>FP (((Xo hP.1).2 r hr).2 x hx)
 obtain ⟨pa,pc,rfl⟩:=oP.slice
 rw [hp3] at oP ⊢
 have cP:=oP.codes hpf
 clear kA h1 oP hpf hp3
 have bx:Below w1.heap.size w1 (w1.alloc (.cells #[.slice pa 3 pc] 25)):=by go_grown
 have pB:=Blk.new w1 25 [.slice pa 3 pc]
 replace bw:=Zo bw bx
 replace cP:=cP.below bx
 replace hI1:=hI1.below bx
 have g5:=pB.cell 0
 simp only [List.getElem?_cons_zero,List.getElem?_cons_succ,List.toArray] at g5
 clear pB bx
 go_wp2_with fail
 generalize w1.alloc (.cells #[.slice pa 3 pc] 25)=W1 at *
 generalize w1.heap.size=X5 at *
 obtain ⟨fc,fm,_⟩:=RD hP
 obtain ⟨hcf,fb,fn,fl,hN1,hN2,fe⟩:=Hb hP
 obtain ⟨hbf,hbn⟩:=LX hP
 have hfit:=Me fm
 have kC:=fun W hb (c:YT W pa 3 pc P)=>SA pa 3 pc P W c (hV9 W hb)
 have kD:=fun W (c:YT W pa 3 pc P)=>SX pa 3 pc P W c
 rw [fc,fb,fn] at kC kD
 have kB:=fun W hb (c:YT W pa 3 pc P)=>Qy pa 3 pc P W c (hV9 W hb) hcf
 have kE:=fun W hb (c:YT W pa 3 pc P)=>Rg pa 3 pc P W c (hV9 W hb) hcf
 have hkl:Hid ((Xq (ZL P)).length=(ZL P).length):=List.length_map ..
 have kS:=fun W hb xa xn xc ya yn yc (i1:Y6 W xa xn xc (Vd P)) (i2:Y6 W ya yn yc (Vd P))=>RY xa xn xc _ ya yn yc _ W i1 i2 (hV9 W hb)
 rw [LB fm] at kS
 have kT:=fun W hb (e:E3) (s:Sl2) (c:YT W pa 3 pc P) (hE:YK W s e)=>Rh pa 3 pc P e s W c hE (hV9 W hb)
 have kEnt:Hid (∀ e ∈ Vd P,etB P e=true∧etC P e=0):=fe
 clear fc fb fn fm fe hcf hP
 generalize UU P (ZL P)=bz at *
 generalize Xq (ZL P)=ks at *
 generalize (ZL P).length=N at *
 generalize Vd P=es at *
 have hfl:Hid (es.length=N):=fl
 clear fl
 refine (kC _ bw cP).mono ?_
 rintro e w3 ⟨⟨vb,vm,T,rfl,ob,_,oM,_⟩,hb⟩
 replace bw:=Zo bw hb
 replace cP:=cP.below hb
 replace hI1:=hI1.below hb
 replace g5:=ZM hb g5
 clear hb
 obtain ⟨ua,uc,rfl⟩:=ZY ob
 have iu:=T6 ob hbf
 clear ob
 obtain ⟨iMx,iMy,rfl⟩:=oM.slice9
 have iM:=oM.ents hfit
 clear oM
 rw [hfl.out] at iM ⊢
 have bx:Below w3.heap.size w3 ((w3.alloc (.cells #[.slice ua bz.length uc,.int .i64 (N:Int)] 30)).alloc (.cells #[.slice iMx N iMy] 33)):=by go_grown
 have pA:=(Blk.new w3 30 [.slice ua bz.length uc,.int .i64 (N:Int)]).below (PF _ (.cells #[.slice iMx N iMy] 33))
 have pB:=Blk.new (w3.alloc (.cells #[.slice ua bz.length uc,.int .i64 (N:Int)] 30)) 33 [.slice iMx N iMy]
 rw [show (w3.alloc (.cells #[.slice ua bz.length uc,.int .i64 (N:Int)] 30)).heap.size=w3.heap.size+1 from by simp] at pB
 replace bw:=Zo bw bx
 replace cP:=cP.below bx
 replace hI1:=hI1.below bx
 replace g5:=ZM bx g5
 replace iu:=iu.below bx
 replace iM:=iM.below bx
 have gab:=pA.cell 0
 have gan:=pA.cell 1
 have gam:=pB.cell 0
 simp only [List.getElem?_cons_zero,List.getElem?_cons_succ,List.toArray] at gab gan gam
 clear pA pB bx
 go_wp2_with fail
 generalize (w3.alloc (.cells #[.slice ua bz.length uc,.int .i64 (N:Int)] 30)).alloc (.cells #[.slice iMx N iMy] 33)=WX6 at *
 generalize w3.heap.size+1=X7 at *
 generalize w3.heap.size=X6 at *
 refine (kD _ cP).mono ?_
 rintro e w4 ⟨⟨vb,vm,rfl,ob,oM⟩,hb⟩
 replace bw:=Zo bw hb
 replace cP:=cP.below hb
 replace hI1:=hI1.below hb
 replace g5:=ZM hb g5
 replace iu:=iu.below hb
 replace iM:=iM.below hb
 replace gab:=ZM hb gab
 replace gan:=ZM hb gan
 replace gam:=ZM hb gam
 clear hb
 obtain ⟨ya,yc,rfl⟩:=ZY ob
 have iy:=T6 ob hbf
 clear ob
 obtain ⟨iDx,iDy,rfl⟩:=oM.slice9
 have iD:=oM.ents hfit
 clear oM
 rw [hfl.out] at iD ⊢
 have bx:Below w4.heap.size w4 ((w4.alloc (.cells #[.slice ya bz.length yc,.int .i64 (N:Int)] 30)).alloc (.cells #[.slice iDx N iDy] 33)):=by go_grown
 have pA:=(Blk.new w4 30 [.slice ya bz.length yc,.int .i64 (N:Int)]).below (PF _ (.cells #[.slice iDx N iDy] 33))
 have pB:=Blk.new (w4.alloc (.cells #[.slice ya bz.length yc,.int .i64 (N:Int)] 30)) 33 [.slice iDx N iDy]
 rw [show (w4.alloc (.cells #[.slice ya bz.length yc,.int .i64 (N:Int)] 30)).heap.size=w4.heap.size+1 from by simp] at pB
 replace bw:=Zo bw bx
 replace cP:=cP.below bx
 replace hI1:=hI1.below bx
 replace g5:=ZM bx g5
 replace iu:=iu.below bx
 replace iM:=iM.below bx
 replace gab:=ZM bx gab
 replace gan:=ZM bx gan
 replace gam:=ZM bx gam
 replace iy:=iy.below bx
 replace iD:=iD.below bx
 have gbb:=pA.cell 0
 have gbn:=pA.cell 1
 have gbm:=pB.cell 0
 simp only [List.getElem?_cons_zero,List.getElem?_cons_succ,List.toArray] at gbb gbn gbm
 clear pA pB bx
 go_wp2_with fail
 generalize (w4.alloc (.cells #[.slice ya bz.length yc,.int .i64 (N:Int)] 30)).alloc (.cells #[.slice iDx N iDy] 33)=WX9 at *
 generalize w4.heap.size+1=X10 at *
 generalize w4.heap.size=X9 at *
 refine (kB _ bw cP).mono ?_
 rintro e w5 ⟨⟨v,rfl,ob⟩,hb⟩
 replace bw:=Zo bw hb
 replace cP:=cP.below hb
 replace hI1:=hI1.below hb
 replace g5:=ZM hb g5
 replace iu:=iu.below hb
 replace iM:=iM.below hb
 replace gab:=ZM hb gab
 replace gan:=ZM hb gan
 replace gam:=ZM hb gam
 replace iy:=iy.below hb
 replace iD:=iD.below hb
 replace gbb:=ZM hb gbb
 replace gbn:=ZM hb gbn
 replace gbm:=ZM hb gbm
 clear hb
 obtain ⟨ra,rc,rfl⟩:=ZY ob
 have ir:=T6 ob hbf
 clear ob
 go_wp2_with fail
 refine (kE _ bw cP).mono ?_
 rintro e w6 ⟨⟨v,rfl,ok⟩,hb⟩
 replace bw:=Zo bw hb
 replace cP:=cP.below hb
 replace hI1:=hI1.below hb
 replace g5:=ZM hb g5
 replace iu:=iu.below hb
 replace iM:=iM.below hb
 replace gab:=ZM hb gab
 replace gan:=ZM hb gan
 replace gam:=ZM hb gam
 replace iy:=iy.below hb
 replace iD:=iD.below hb
 replace gbb:=ZM hb gbb
 replace gbn:=ZM hb gbn
 replace gbm:=ZM hb gbm
 replace ir:=ir.below hb
 clear hb
 obtain ⟨ta,tc,rfl⟩:=ZY ok
 clear ok
 rw [hkl.out]
 clear kC kD kB kE
 have hNp:((N:Int) == 0)=false:=by simp;omega
 go_wp2_with fail
 refine (kS _ bw _ _ _ _ _ _ iM iD).mono ?_
 rintro e w7 ⟨rfl,hb⟩
 replace bw:=Zo bw hb
 replace cP:=cP.below hb
 replace hI1:=hI1.below hb
 replace g5:=ZM hb g5
 replace iu:=iu.below hb
 replace iM:=iM.below hb
 replace gab:=ZM hb gab
 replace gan:=ZM hb gan
 replace gam:=ZM hb gam
 replace iy:=iy.below hb
 replace iD:=iD.below hb
 replace gbb:=ZM hb gbb
 replace gbn:=ZM hb gbn
 replace gbm:=ZM hb gbm
 replace ir:=ir.below hb
 clear hb kS
 obtain ⟨bn,hbn9⟩:∃ n,n=bz.length:=⟨_,rfl⟩
 rw [← hbn9] at iu iy ir gab gbb hbn ⊢
 clear hbn9
 go_wp2_with fail
 refine (Py _ _ bn _ _ bz w7 iu ir hbn).mono ?_
 rintro e w8 ⟨rfl,hb⟩
 replace bw:=Zo bw hb
 replace cP:=cP.below hb
 replace hI1:=hI1.below hb
 replace g5:=ZM hb g5
 replace iu:=iu.below hb
 replace iM:=iM.below hb
 replace gab:=ZM hb gab
 replace gan:=ZM hb gan
 replace gam:=ZM hb gam
 replace iy:=iy.below hb
 replace iD:=iD.below hb
 replace gbb:=ZM hb gbb
 replace gbn:=ZM hb gbn
 replace gbm:=ZM hb gbm
 replace ir:=ir.below hb
 clear hb
 clear iy iu ir iD gbb gbn gbm
 go_wp2_with fail
 have hdr:Below w8.heap.size w8 w8.drew:=by go_grown
 refine wp_region_held_drew (S:=(fun w'=>w'.cell? ⟨X5,0,none⟩=some (.slice pa 3 pc)∧w'.cell? ⟨X7,0,none⟩=some (.slice iMx N iMy))) (by kernel_rfl) ⟨g5,gam⟩ (fun hS0=>?_)
 replace bw:=Zo bw hdr
 replace cP:=cP.below hdr
 replace hI1:=hI1.below hdr
 replace g5:=ZM hdr g5
 replace iM:=iM.below hdr
 replace gab:=ZM hdr gab
 replace gan:=ZM hdr gan
 replace gam:=ZM hdr gam
 clear hdr
 generalize w8.drew=V at *
 refine tkw 0 101 (.agg #[.slice pa 3 pc]) ?_
 try simp only [Act.put,tka,tkb,tkc]
 refine tkw 1 102 (.pointer (some ⟨X7,0,none⟩)) ?_
 try simp only [Act.put,tka,tkb,tkc]
 refine tkw 2 103 (.slice iMx N iMy) ?_
 try simp only [Act.put,tka,tkb,tkc]
 refine tkw 3 104 (.slice a1 len1 cap1) ?_
 try simp only [Act.put,tka,tkb,tkc]
 refine tkw 4 105 (.pointer (some ⟨X7,0,none⟩)) ?_
 try simp only [Act.put,tka,tkb,tkc]
 refine tkw 5 106 (.slice iMx N iMy) ?_
 try simp only [Act.put,tka,tkb,tkc]
 refine tkw 6 107 (.int .i64 (N:Int)) ?_
 try simp only [Act.put,tka,tkb,tkc]
 refine tkr 7 108 (fun K hK=>?_)
 go_simp
 refine (CS a1 len1 cap1 z1 0 (N:Int) V hI1 n1 (by omega) (by omega) (by omega)).mono ?_
 rintro e V1 ⟨⟨t,ht,rfl⟩,d,rfl⟩
 have hdr:Below V.heap.size V (V.drewN d):=⟨rfl,rfl,rfl,Nat.le_refl _,fun _ _=>rfl⟩
 replace bw:=Zo bw hdr
 replace cP:=cP.below hdr
 replace hI1:=hI1.below hdr
 replace g5:=ZM hdr g5
 replace iM:=iM.below hdr
 replace gab:=ZM hdr gab
 replace gan:=ZM hdr gan
 replace gam:=ZM hdr gam
 clear hdr
 generalize V.drewN d=V1 at *
 go_wp2_with fail
 refine hK.out _ _ ⟨g5,gam⟩ (fun hS1=>?_)
 clear hK hS0
 try simp only [Act.put,tka,tkb,tkc]
 have htN:t<N:=by omega
 have ht':(t:Int)<(N:Int):=by omega
 have ht0:(0:Int)≤(t:Int):=by omega
 have hq:=iM
 obtain ⟨_,_,_,hcase⟩:=hq
 rcases hcase with e0 | ⟨b,off,rfl,hbl,hc⟩
 ·omega
 obtain ⟨s,x0,x1,x2,hm⟩:=hc t htN
 clear hc hbl
 have hmem:es.getD t e3d ∈ es:=by rw [List.getD,List.getElem?_eq_getElem (by have:=hfl.out;omega)];exact List.getElem_mem _
 obtain ⟨hE1,hE2⟩:=kEnt.out _ hmem
 have kT9:=fun W hb (c2:YT W pa 3 pc P) (hE:YK W s (es.getD t e3d))=>kT W hb _ s c2 hE
 rw [hE1,hE2] at kT9
 clear hE1 hE2 hmem
 generalize es.getD t e3d=x at *
 obtain ⟨xk,xb,xz⟩:=x
 obtain ⟨⟨a1',n1',c1'⟩,⟨a2',n2',c2'⟩⟩:=s
 unfold ZW at kT9
 simp only at x0 x1 x2 kT9
 refine tkw 8 109 (.pointer (some ⟨b,off+t*3,none⟩)) ?_
 try simp only [Act.put,tka,tkb,tkc]
 refine tkr 9 110 (fun K hK=>?_)
 go_simp
 refine hK.out _ _ ⟨g5,gam⟩ (fun hS2=>?_)
 clear hK
 try simp only [Act.put,tka,tkb,tkc]
 refine tkr 10 111 (fun K hK=>?_)
 go_simp
 refine (kT9 _ bw cP hm).mono ?_
 rintro e V2 ⟨rfl,hb⟩
 replace bw:=Zo bw hb
 replace cP:=cP.below hb
 replace hI1:=hI1.below hb
 replace g5:=ZM hb g5
 replace iM:=iM.below hb
 replace gab:=ZM hb gab
 replace gan:=ZM hb gan
 replace gam:=ZM hb gam
 go_wp2_with fail
 refine hK.out _ _ ⟨g5,gam⟩ (fun hS3=>?_)
 clear hK hb
 try simp only [Act.put,tka,tkb,tkc]
 refine tkw 11 100 (.tuple #[.bool true,.int .i64 0]) ?_
 try simp only [Act.put,tka,tkb,tkc]
 refine tkw 12 112 (.bool true) ?_
 try simp only [Act.put,tka,tkb,tkc]
 refine tkw 13 113 (.int .i64 0) ?_
 try simp only [Act.put,tka,tkb,tkc]
 refine tkw 14 16 (.bool true) ?_
 try simp only [Act.put,tka,tkb,tkc]
 refine tkw 15 17 (.int .i64 0) ?_
 try simp only [Act.put,tka,tkb,tkc]
 refine wpAnyH_done (by kernel_rfl) ?_ _
 go_wp2
 go_ret
 exact ⟨rfl,bw⟩
theorem fnFresh_laid {W:World} (h:laidMetH Tryz.prog Rows.fnFreshRow.laid W):ZN W:=R1 rfl h
theorem fnFresh_door_met (os:Os) (args:Array Value):laidMetH Tryz.prog Rows.fnFreshRow.laid ((World.doorLaid Tryz.prog 400 os).forCall (fun _ _=>0) ⟨#[],args,[]⟩).memory:=
 laidMetH_of_parts3 (fuel:=8) (laidMet_of_run' 8 (by kernel_rfl) (by kernel_rfl)) (by kernel_rfl) (by kernel_rfl)


def JG (P:Program) (ns:List String):Bool:=ns.all fun n =>
 match P.globalNamed n with
 | some g=>match (P.globals[g]?).map (·.type) with
  | some t=>P.readableRec t && decide (t<P.types.size)
  | none=>false
 | none=>false

theorem var?_lt {P:Program} {W:World} {n:String} {g:Nat} {cs:Array Value} (hg:P.globalNamed n=some g) (hv:W.var? P n=some cs):g<W.heap.size:=by
 rcases Nat.lt_or_ge g W.heap.size with h | h
 ·exact h
 unfold World.var? at hv
 simp [hg,Array.getElem?_eq_none h] at hv

theorem vars_below {H:Type} {enc:TypeId × Value→H} {P:Program} {W W':World} (hl:laidOutB P=true) (bel:Below W.heap.size W W') :
  ∀ {ns:List String} {gs:List (DataW H)} {ps:List MemPlace},JG P ns=true→DataW.TrodVars enc P W (fun _=>true) ns gs ps→DataW.TrodVars enc P W' (fun b=>decide (b<W.heap.size)) ns gs ps
 | [],[],ps,_,h=>h
 | [],_::_,_,_,h=>by cases h
 | _::_,[],_,_,h=>by cases h
 | n::ns,d::ds,ps,hf,h=>by
  obtain ⟨g,t,cs,fuel,p,q,hg,ht,hv,hd,hr,e⟩:=h
  simp only [JG,List.all_cons,Bool.and_eq_true] at hf
  obtain ⟨hf1,hf2⟩:=hf
  rw [hg] at hf1
  simp only [ht,Bool.and_eq_true,decide_eq_true_eq] at hf1
  obtain ⟨fuel',hd'⟩:=Below.trod hl hf1.1 hf1.2 (v:=.agg cs) (⟨fuel,by simpa [Value.cells] using hd⟩:DataW.Trod enc P W 0 (fun _=>true) true t (.agg cs) d p) bel (DataW.trod_lt fuel _ _ _ hd)
  exact ⟨g,t,cs,fuel',p,q,hg,ht,var?_below bel hg (var?_lt hg hv) hv,by simpa [Value.cells] using hd',vars_below hl bel hf2 hr,e⟩

theorem vars_len {H:Type} {enc:TypeId × Value→H} {P:Program} {W:World} {spare:Nat→Bool}:∀ {ns:List String} {gs:List (DataW H)} {ps:List MemPlace},DataW.TrodVars enc P W spare ns gs ps→gs.length=ns.length
 | [],[],_,_=>rfl
 | [],_::_,_,h=>by cases h
 | _::_,[],_,h=>by cases h
 | _::_,_::_,_,h=>by
  obtain ⟨_,_,_,_,_,_,_,_,_,_,hr,_⟩:=h
  simp [vars_len hr]
end Go.Proofs.YtgmhhegckcionaaGreatDoor
