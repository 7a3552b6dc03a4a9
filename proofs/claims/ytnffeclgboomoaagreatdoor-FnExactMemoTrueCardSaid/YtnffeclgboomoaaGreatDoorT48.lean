/-
  Joined: MokI, MtrS, MttW.
-/
import Derived.Test.YtnffeclgboomoaaGreatDoorT45

namespace Go.Proofs.YtnffeclgboomoaaGreatDoor
set_option maxRecDepth 100000
set_option maxHeartbeats 16000000
open Go.RowKit
set_option linter.unusedVariables false
set_option linter.unusedSimpArgs false

theorem PN (a:Option Addr) (n cap:Nat) (w:World) :
  Calls Tryz.prog 74 #[.agg #[.slice a n cap]] w fun e w'=>e=.returned (.agg #[.slice a n cap])∧Below w.heap.size w w':=by
 have pR:Blk ((w.alloc (.cells #[.slice a n cap] 33)).alloc (.cells #[.slice none 0 0] 140)) (w.heap.size+1) 140 [.slice none 0 0]:=Zi _ _ _ (by simp)
 have r0:=pR.cell 0
 have fr0:=pR.frozen 0
 have pZ:=pR.set 0 (.slice a n cap)
 simp only [List.set_cons_zero] at pZ
 have z0:=pZ.cell 0
 simp only [List.getElem?_cons_zero] at z0 r0
 clear pR pZ
 go_enter Tryz.func74,Tryz.ntmps74
 go_wp2
 refine bodyPost_ret (by simp [results,Tryz.results74,go_sem,z0];try rfl) rfl ?_
 exact ⟨rfl,by go_grown⟩
theorem Qu (a:Option Addr) (n cap:Nat) (es:List E3) (w:World) (h:Yo w a n cap es) :
  Calls Tryz.prog 102 #[.agg #[.slice a n cap]] w fun e w'=>e=.returned (.bool (upE es))∧Below w.heap.size w w':=by
 have bu:Below w.heap.size w (w.alloc (.cells #[.slice a n cap] 140)):=by go_grown
 have k:=Jz a n cap es _ (h.below bu)
 go_enter Tryz.func102,Tryz.ntmps102
 go_wp2_with fail
 refine k.mono ?_
 rintro e w1 ⟨rfl,hb⟩
 replace bu:=Zh bu hb
 go_wp2
 go_ret
 exact ⟨rfl,bu⟩

theorem Qn (a:Option Addr) (n cap:Nat) (es:List E3) (w:World) (h:Yo w a n cap es) (hV:ZL w) :
  Calls Tryz.prog 50 #[.agg #[.slice a n cap]] w fun e w'=>e=.returned (.bool (Yu es))∧Below w.heap.size w w':=by
 rw [NL]
 have hl:=h.1
 rw [hl]
 have bu:Below w.heap.size w (w.alloc (.cells #[.slice a n cap] 33)):=by go_grown
 have g0:(w.alloc (.cells #[.slice a n cap] 33)).cell? ⟨w.heap.size,0,none⟩=some (.slice a n cap):=by first | (simp [go_sem];done) | (simp [World.cell?];done)
 by_cases h2:n≤2000
 ·rw [decide_eq_true h2,Bool.true_and]
  have h3:¬ (2000:Int)<(n:Int):=by omega
  have kT:=fun W=>PN a n cap W
  have kU:=fun W (hb:Below w.heap.size w W)=>Qu a n cap es W (h.below hb)
  obtain ⟨r,hr⟩:∃ r,r=(Rb es && upE es):=⟨_,rfl⟩
  rw [← hr]
  have HR:Hid (r=(Rb (es.drop 0) && upE es)):=by rw [Hid];simpa using hr
  clear hr
  generalize upE es=ue at *
  go_enter Tryz.func50,Tryz.ntmps50
  go_wp2_with fail
  generalize (w.alloc (.cells #[.slice a n cap] 33))=U at *
  go_loopw [12] (fun si wr=>∃ k:Nat,k≤n∧si=.int .i64 k∧Hid (r=(Rb (es.drop k) && ue))∧Below U.heap.size U wr) (fun si _=>n - (intOf si).toNat)
  case atStart=>exact ⟨0,by omega,rfl,HR,Below.refl _ _⟩
  case round =>
   clear HR
   obtain ⟨k,hk,rfl,HR,bw⟩:=hrel
   have bx:Below w.heap.size w wr:=Zh bu bw
   by_cases hlt:k<n
   ·obtain ⟨_,_,_,hcase⟩:=h.below bx
    rcases hcase with e0 | ⟨b,off,rfl,hb,hc⟩
    ·omega
    obtain ⟨s,x0,x1,x2,hm⟩:=hc k hlt
    clear hc hb
    have hst:=Kl (es:=es) (k:=k) (by omega)
    have kE:=fun W (hb:Below wr.heap.size wr W)=>VT (es.getD k e3d) s W (hm.below hb) ((hV.below bx).below hb)
    generalize es.getD k e3d=x at *
    have HS:Hid (Rb (es.drop k)=(ZS x && Rb (es.drop (k+1)))):=hst
    clear hst hm
    obtain ⟨xk,xb,xz⟩:=x
    obtain ⟨⟨a1,n1,c1⟩,⟨a2,n2,c2⟩⟩:=s
    unfold ZR at kE
    simp only at x0 x1 x2 kE
    have hlt':(k:Int)<(n:Int):=by omega
    have hk0:(0:Int)≤(k:Int):=by omega
    cases hx:ZS (xk,xb,xz)
    ·have HF:Hid (r=false):=by rw [Hid,HR.out,HS.out,hx];rfl
     rw [hx] at kE
     clear hx HS HR
     go_wp2_with fail
     refine (kE _ (by go_grown)).mono ?_
     rintro e w1 ⟨rfl,hb1⟩
     have bw1:=Zh bx (Zh (by go_grown) hb1)
     clear hb1 x0 x1 x2 kE
     go_wp2
     go_ret
     exact ⟨by rw [HF.out];rfl,bw1⟩
    have HF:Hid (r=(Rb (es.drop (k+1)) && ue)):=by rw [Hid,HR.out,HS.out,hx];rfl
    rw [hx] at kE
    clear hx HS HR
    go_wp2_with fail
    refine (kE _ (by go_grown)).mono ?_
    rintro e w1 ⟨rfl,hb1⟩
    have bw1:=Zh bw (Zh (by go_grown) hb1)
    clear hb1 x0 x1 x2 kE
    go_wp2
    go_roundw
    case rel=>exact ⟨k+1,by omega,by go_num,HF,bw1⟩
    case measure=>simp [intOf];omega
   obtain rfl:k=n:=by omega
   have HF:Hid (r=ue):=by rw [Hid,HR.out,List.drop_of_length_le (by omega)];rfl
   have g1:=ZE bw g0
   clear HR
   go_wp2_with fail
   refine (kT _).mono ?_
   rintro e w1 ⟨rfl,hb1⟩
   replace bx:=Zh bx hb1
   clear hb1 g1
   go_wp2_with fail
   refine (kU _ bx).mono ?_
   rintro e w2 ⟨rfl,hb1⟩
   replace bx:=Zh bx hb1
   clear hb1
   go_wp2
   go_ret
   exact ⟨by rw [HF.out];rfl,bx⟩
 rw [decide_eq_false h2,Bool.false_and]
 have h3:(2000:Int)<(n:Int):=by omega
 go_enter Tryz.func50,Tryz.ntmps50
 go_wp2
 go_ret
 exact ⟨rfl,bu⟩


def mtB (rows:List (List I3)) (es:List E3):Bool:=Zj rows && (Yu es && es.all (YB rows))
def mtC (rows:List (List I3)) (es:List E3):Int:=if (Zj rows && Yu es)=true then 0 else 1
theorem Km {rows:List (List I3)} {es:List E3} {k:Nat} (h:k<es.length):(es.drop k).all (YB rows)=(YB rows (es.getD k e3d) && (es.drop (k+1)).all (YB rows)):=by
 rw [List.drop_eq_getElem_cons h,List.all_cons,Y0 h]
theorem SR (a:Option Addr) (len cap:Nat) (rows:List (List I3)) (am:Option Addr) (n c:Nat) (es:List E3) (w:World) (hC:ZZ w a len cap rows) (hA:Yo w am n c es) :
  Calls Tryz.prog 43 #[.agg #[.slice a len cap],.agg #[.slice am n c]] w fun x w'=>x=.returned (.tuple #[.bool (mtB rows es),.int .i64 (mtC rows es)])∧Below w.heap.size w w':=by
 have kO:=fun (W:World) (b:Below w.heap.size w W)=>XT a len cap rows W (hC.below b)
 have kM:=fun (W:World) (b:Below w.heap.size w W)=>Qt am n c es W (hA.below b)
 have hl:=hA.1
 obtain ⟨rb,hrb⟩:∃ rb,rb=mtB rows es:=⟨_,rfl⟩
 obtain ⟨rc,hrc⟩:∃ rc,rc=mtC rows es:=⟨_,rfl⟩
 rw [← hrb,← hrc]
 have HB:Hid (rb=(Zj rows && (Yu es && es.all (YB rows)))):=hrb
 have HC:Hid (rc=if (Zj rows && Yu es)=true then 0 else 1):=hrc
 clear hrb hrc
 have bw:Below w.heap.size w ((w.alloc (.cells #[.slice a len cap] 25)).alloc (.cells #[.slice am n c] 33)):=by go_grown
 have pP:Blk ((w.alloc (.cells #[.slice a len cap] 25)).alloc (.cells #[.slice am n c] 33)) w.heap.size 25 [.slice a len cap]:=Zg _ (Zi _ _ _ rfl)
 have pM:Blk ((w.alloc (.cells #[.slice a len cap] 25)).alloc (.cells #[.slice am n c] 33)) (w.heap.size+1) 33 [.slice am n c]:=Zi _ _ _ (by simp)
 have c0:=pP.cell 0
 have g0:=pM.cell 0
 simp only [List.getElem?_cons_zero] at c0 g0
 go_enter Tryz.func43,Tryz.ntmps43
 go_wp2_with fail
 generalize ((w.alloc (.cells #[.slice a len cap] 25)).alloc (.cells #[.slice am n c] 33))=U at *
 refine (kO U bw).mono ?_
 rintro x w1 ⟨rfl,hb⟩
 clear c0 g0
 replace bw:=Zh bw hb
 replace pP:=pP.below hb
 replace pM:=pM.below hb
 clear hb
 have c0:=pP.cell 0
 have g0:=pM.cell 0
 simp only [List.getElem?_cons_zero] at c0 g0
 cases hp:Zj rows
 ·have HR:Hid (rb=false∧rc=1):=⟨by rw [HB.out,hp];rfl,by rw [HC.out,hp];rfl⟩
  clear HB HC kM kO
  go_wp2
  go_ret2
  exact ⟨by rw [HR.out.1,HR.out.2];rfl,bw⟩
 go_wp2_with fail
 refine (kM w1 bw).mono ?_
 rintro x w2 ⟨rfl,hb⟩
 clear c0 g0
 replace bw:=Zh bw hb
 replace pP:=pP.below hb
 replace pM:=pM.below hb
 clear hb
 have c0:=pP.cell 0
 have g0:=pM.cell 0
 simp only [List.getElem?_cons_zero] at c0 g0
 cases hok:Yu es
 ·have HR:Hid (rb=false∧rc=1):=⟨by rw [HB.out,hp,hok];rfl,by rw [HC.out,hp,hok];rfl⟩
  clear HB HC kM kO
  go_wp2
  go_ret2
  exact ⟨by rw [HR.out.1,HR.out.2];rfl,bw⟩
 have HR:Hid (rb=es.all (YB rows)∧rc=0):=⟨by rw [HB.out,hp,hok];rfl,by rw [HC.out,hp,hok];rfl⟩
 have hn2:=Xs hok
 obtain ⟨hl3,cs,hR⟩:=hC.rowsAt hp
 subst hl3
 have kT:=fun (k:Nat) (hk:k<n) (s:Sl2) (W:World) (b:Below w.heap.size w W) (hE:Z1 W s (es.getD k e3d))=>Rz (cap:=cap) hp (es.getD k e3d) s W a cs (hC.below b) (hR.below b) hE (QS hok (by omega))
 clear HB HC kM kO
 have H0:Hid (es.all (YB rows)=(es.drop 0).all (YB rows)):=by rw [Hid,List.drop_zero]
 have wK:∀ wr,wr=w2→wr=w2:=fun wr h9=>h9
 clear wK c0 g0
 go_wp2_with fail
 go_loopw [6] (fun s6 wr=>∃ k:Nat,s6=.int .i64 k∧k≤n∧Hid (es.all (YB rows)=(es.drop k).all (YB rows))∧Below w.heap.size w wr∧Blk wr w.heap.size 25 [.slice a 3 cap]∧Blk wr (w.heap.size+1) 33 [.slice am n c]) (fun s6 _=>n - (Go.RowKit.intOf s6).toNat)
 case atStart=>exact ⟨0,rfl,Nat.zero_le _,H0,bw,pP,pM⟩
 case round =>
  clear H0
  obtain ⟨k,rfl,hkn,HK,bw,pP,pM⟩:=hrel
  have g0:=pM.cell 0
  have c0:=pP.cell 0
  simp only [List.getElem?_cons_zero] at g0 c0
  by_cases hlt:k<n
  ·have hlt3:(k:Int)<(n:Int):=by omega
   have hk0:(0:Int)≤(k:Int):=by omega
   obtain ⟨_,_,_,hcase⟩:=hA.below bw
   rcases hcase with e0 | ⟨b,off,rfl,hb9,hc9⟩
   ·omega
   obtain ⟨s,x0,x1,x2,hm⟩:=hc9 k hlt
   have kTx:=fun (W:World) (b:Below wr.heap.size wr W)=>kT k hlt s W (Zh bw b) (hm.below b)
   rw [Km (show k<es.length by omega)] at HK
   obtain ⟨te,hte⟩:∃ te,te=YB rows (es.getD k e3d):=⟨_,rfl⟩
   rw [← hte] at HK kTx
   clear hc9 hm hte
   generalize es.getD k e3d=xe at *
   obtain ⟨ek,eb,ez⟩:=xe
   obtain ⟨⟨e1,m1,d1⟩,⟨e2,m2,d2⟩⟩:=s
   unfold ZR at kTx
   simp only at kTx x0 x1 x2
   go_wp2_with fail
   refine wp_region_held_drew (S:=(fun w'=>w'.cell? ⟨w.heap.size,0,none⟩=some (.slice a 3 cap)∧w'.cell? ⟨w.heap.size+1,0,none⟩=some (.slice (some ⟨b,off,none⟩) n c)∧w'.cell? ⟨b,off+k*3,none⟩=some (.string ek)∧w'.cell? ⟨b,off+k*3+1,none⟩=some (.slice e1 m1 d1)∧w'.cell? ⟨b,off+k*3+2,none⟩=some (.slice e2 m2 d2))) (by kernel_rfl) ⟨c0,g0,x0,x1,x2⟩ (fun hS0=>?_)
   refine tkx 0 22 (.agg #[.slice a 3 cap]) ?_ ?_
   ·(intro w' hSw;(try dsimp only at hSw);go_simp;first | done | rfl | omega | (intro h9;omega) | (rw [IntKind.wrap_i64];omega))
   simp only [Act.put,tka,tkb,tkc]
   refine tkx 1 23 (.pointer (some ⟨w.heap.size+1,0,none⟩)) ?_ ?_
   ·(intro w' hSw;(try dsimp only at hSw);go_simp;first | done | rfl | omega | (intro h9;omega) | (rw [IntKind.wrap_i64];omega))
   simp only [Act.put,tka,tkb,tkc]
   refine tkx 2 24 (.slice (some ⟨b,off,none⟩) n c) ?_ ?_
   ·(intro w' hSw;(try dsimp only at hSw);go_simp;first | done | rfl | omega | (intro h9;omega) | (rw [IntKind.wrap_i64];omega))
   simp only [Act.put,tka,tkb,tkc]
   refine tkx 3 25 (.int .i64 (k:Int)) ?_ ?_
   ·(intro w' hSw;(try dsimp only at hSw);go_simp;first | done | rfl | omega | (intro h9;omega) | (rw [IntKind.wrap_i64];omega))
   simp only [Act.put,tka,tkb,tkc]
   refine tkx 4 26 (.pointer (some ⟨b,off+k*3,none⟩)) ?_ ?_
   ·(intro w' hSw;(try dsimp only at hSw);go_simp;first | done | rfl | omega | (intro h9;omega) | (rw [IntKind.wrap_i64];omega))
   simp only [Act.put,tka,tkb,tkc]
   refine tkx 5 27 (.agg #[.string ek,.slice e1 m1 d1,.slice e2 m2 d2]) ?_ ?_
   ·(intro w' hSw;(try dsimp only at hSw);go_simp;first | done | rfl | omega | (intro h9;omega) | (rw [IntKind.wrap_i64];omega))
   simp only [Act.put,tka,tkb,tkc]
   have bd:Below wr.heap.size wr wr.drew:=by go_grown
   have kx:=kTx _ bd
   replace bw:=Zh bw bd
   replace pP:=pP.below bd
   replace pM:=pM.below bd
   clear bd kTx c0 g0 x0 x1 x2
   generalize wr.drew=V at *
   refine tkr 6 28 (fun K hK=>?_)
   go_simp
   refine kx.mono ?_
   rintro x V2 ⟨rfl,hb⟩
   go_wp2_with fail
   refine hK.out _ _ ⟨Za hb _ _ hS0.1,Za hb _ _ hS0.2.1,Za hb _ _ hS0.2.2.1,Za hb _ _ hS0.2.2.2.1,Za hb _ _ hS0.2.2.2.2⟩ (fun hS0=>?_)
   clear hK kx
   replace bw:=Zh bw hb
   replace pP:=pP.below hb
   replace pM:=pM.below hb
   clear hb
   try simp only [Act.put,tka,tkb,tkc]
   refine tkx 7 29 (.bool (!te)) ?_ ?_
   ·(intro w' hSw;(try dsimp only at hSw);go_simp;first | done | rfl | omega | (intro h9;omega) | (rw [IntKind.wrap_i64];omega))
   simp only [Act.put,tka,tkb,tkc]
   refine wpAnyH_done (by kernel_rfl) ?_ _
   clear hS0
   cases te
   ·have HR2:Hid (rb=false):=by rw [Hid,HR.out.1,HK.out];rfl
    go_wp2
    go_ret2
    exact ⟨by rw [HR2.out,HR.out.2];rfl,bw⟩
   replace HK:Hid (es.all (YB rows)=(es.drop (k+1)).all (YB rows)):=by rw [Hid,HK.out];rfl
   go_wp2
   go_roundw
   case rel=>exact ⟨k+1,by go_num,by omega,HK,bw,pP,pM⟩
   case measure=>simp [Go.RowKit.intOf];omega
  have hge:¬ (k:Int)<(n:Int):=by omega
  have HR2:Hid (rb=true):=by
   rw [Hid,HR.out.1,HK.out,List.drop_of_length_le (by omega)]
   rfl
  clear HK
  go_wp2
  go_ret2
  exact ⟨by rw [HR2.out,HR.out.2];rfl,bw⟩


theorem UP (a0:Option Addr) (n0 c0:Nat) (z0:List (List I3)) (a1:Option Addr) (n1 c1:Nat) (z1:List E3) (x0:Bool) (x1:Int) (w:World) (h0:ZZ w a0 n0 c0 z0) (h1:Yo w a1 n1 c1 z1) (hG0:ZL w)
  (kS:∀ (a0:Option Addr) (n0 c0:Nat) (a1:Option Addr) (n1 c1:Nat) (w:World),ZZ w a0 n0 c0 z0→Yo w a1 n1 c1 z1→Calls Tryz.prog 43 #[.agg #[.slice a0 n0 c0],.agg #[.slice a1 n1 c1]] w fun e w'=>e=.returned (.tuple #[.bool x0,.int .i64 x1])∧Below w.heap.size w w')
  (kI:∀ (a0:Option Addr) (n0 c0:Nat) (a1:Option Addr) (n1 c1:Nat) (w:World),ZZ w a0 n0 c0 z0→Yo w a1 n1 c1 z1→ZL w→Calls Tryz.prog 44 #[.agg #[.slice a0 n0 c0],.agg #[.slice a1 n1 c1]] w fun e w'=>e=.returned (.tuple #[.bool x0,.int .i64 x1])∧Below w.heap.size w w') :
  Calls Tryz.prog 9 #[.agg #[.slice a0 n0 c0],.agg #[.slice a1 n1 c1]] w fun e w'=>e=.returned (.bool true)∧Below w.heap.size w w':=by
 have kT0:=fun w h=>Um a0 n0 c0 z0 w h
 have f1:=h1.fits
 have kZ1:=fun left w h=>Lh a1 n1 c1 z1 left w h
 have kT1:=fun w h l1 l2=>Ll a1 n1 c1 z1 w h l1 l2
 have hc1:n1≤n1+Xz z1∧∀ t,t<n1→(z1.getD t e3d).2.1.length≤n1+Xz z1∧(z1.getD t e3d).2.2.length≤n1+Xz z1:=⟨by omega,fun t ht=>by
  have:=GE (es:=z1) (t:=t) (by rw [h1.1];exact ht)
  unfold VN at this
  omega⟩
 have bw:Below w.heap.size w ((w.alloc (.cells #[.slice a0 n0 c0] 59)).alloc (.cells #[.slice a1 n1 c1] 70)):=by go_grown
 have p0:Blk ((w.alloc (.cells #[.slice a0 n0 c0] 59)).alloc (.cells #[.slice a1 n1 c1] 70)) (w.heap.size) 59 [.slice a0 n0 c0]:=Zg _ (Zi _ _ _ rfl)
 have p1:Blk ((w.alloc (.cells #[.slice a0 n0 c0] 59)).alloc (.cells #[.slice a1 n1 c1] 70)) (w.heap.size+1) 70 [.slice a1 n1 c1]:=Zi _ _ _ (by simp)
 go_enter Tryz.func9,Tryz.ntmps9
 go_wp2_with fail
 generalize ((w.alloc (.cells #[.slice a0 n0 c0] 59)).alloc (.cells #[.slice a1 n1 c1] 70))=W0 at *
 have hz:=Ui z0 1048576 (by omega)
 have hbd:=SE (rows:=z0) (left:=1048576) (by omega)
 refine (Ul a0 n0 c0 z0 1048576 _ (h0.below bw) (by omega) (by omega)).mono ?_
 rintro e wz0 ⟨rfl,hb⟩
 generalize Y2 1048576 z0=r0 at hz hbd
 replace bw:=Zh bw hb
 replace p0:=p0.below hb
 replace p1:=p1.below hb
 clear hb
 rcases hz with rfl | ⟨hr0,hr1⟩
 ·clear hbd
  go_wp2
  go_ret
  exact ⟨rfl,bw⟩
 obtain ⟨hr8,hr9⟩:=hbd hr0 (by omega)
 have hn0:decide (r0<0)=false:=by simp;omega
 have hle0:r0≤1048576:=by omega
 replace kT0:=fun w h=>kT0 w h (by rw [← h0.1];exact hr8) (fun t _=>hr9 t)
 clear hr1 hbd hr8 hr9
 have cc0:=p1.cell 0
 simp only [List.getElem?_cons_zero,List.getElem?_cons_succ] at cc0
 go_wp2_with fail
 clear cc0
 refine (kZ1 r0 _ (h1.below bw) (by omega) (by omega)).mono ?_
 rintro e wz1 ⟨⟨r1,rfl,hz⟩,hb⟩
 replace bw:=Zh bw hb
 replace p0:=p0.below hb
 replace p1:=p1.below hb
 clear hb kZ1
 rcases hz with rfl | ⟨hr0,hr1⟩
 ·go_wp2
  go_ret
  exact ⟨rfl,bw⟩
 have hn1:decide (r1<0)=false:=by simp;omega
 have hle1:r1≤1048576:=by omega
 replace kT1:=fun w h=>kT1 w h (by omega) (fun t ht=>by have:=hc1.2 t ht;omega)
 clear hr1 hc1
 have g0_0:=p0.cell 0
 simp only [List.getElem?_cons_zero,List.getElem?_cons_succ] at g0_0
 have g1_0:=p1.cell 0
 simp only [List.getElem?_cons_zero,List.getElem?_cons_succ] at g1_0
 go_wp2_with fail
 have bd:Below w.heap.size w wz1.drew:=Zh bw (by go_grown)
 refine wp_region_held_drew (S:=(fun w'=>w'.cell? ⟨w.heap.size,0,none⟩=some (.slice a0 n0 c0)∧w'.cell? ⟨w.heap.size+1,0,none⟩=some (.slice a1 n1 c1))) (by kernel_rfl) ⟨g0_0,g1_0⟩ (fun hS0=>?_)
 refine tkm 0 23 (.agg #[.slice a0 n0 c0]) ?_
 refine tkm 2 25 (.agg #[.slice a1 n1 c1]) ?_
 refine tkr 1 24 (fun K hK=>?_)
 go_simp
 refine (kT0 _ (h0.below bd)).mono ?_
 rintro e wq0 ⟨rfl,hO0,hq0⟩
 go_wp2_with fail
 refine hK.out _ _ ?_ (fun hS1=>?_)
 ·exact ⟨Za hq0 _ _ hS0.1,Za hq0 _ _ hS0.2⟩
 clear hK
 refine tkr 3 26 (fun K hK=>?_)
 go_simp
 refine (kT1 _ (h1.below (Zh bd hq0))).mono ?_
 rintro e wq1 ⟨rfl,hO1,hq1⟩
 go_wp2_with fail
 refine hK.out _ _ ?_ (fun hS2=>?_)
 ·exact ⟨Za hq1 _ _ hS1.1,Za hq1 _ _ hS1.2⟩
 clear hK
 refine tkr 4 27 (fun K hK=>?_)
 go_simp
 refine (kS _ _ _ _ _ _ _ ((hO0.codes).below hq1) (hO1.ents f1)).mono ?_
 rintro e wr ⟨rfl,hr⟩
 go_wp2_with fail
 refine hK.out _ _ ?_ (fun hSr=>?_)
 ·exact ⟨Za hr _ _ hS2.1,Za hr _ _ hS2.2⟩
 clear hK
 refine tkm 5 22 (.tuple #[.bool x0,.int .i64 x1]) ?_
 refine tkm 6 28 (.bool x0) ?_
 refine tkm 7 29 (.int .i64 x1) ?_
 refine tkm 8 6 (.bool x0) ?_
 refine tkm 9 7 (.int .i64 x1) ?_
 refine wpAnyH_done (by kernel_rfl) ?_ _
 have hbr:Below wz1.heap.size wz1 wr:=Zh (by go_grown) (Zh hq0 (Zh hq1 hr))
 replace bw:=Zh bw hbr
 replace p0:=p0.below hbr
 replace p1:=p1.below hbr
 clear hbr hS0 hSr hr bd kS hS1 hq0 hO0 hS2 hq1 hO1 g0_0 g1_0
 have cc0:=p0.cell 0
 simp only [List.getElem?_cons_zero,List.getElem?_cons_succ] at cc0
 go_wp2_with fail
 clear cc0
 refine (kT0 _ (h0.below bw)).mono ?_
 rintro e wx0 ⟨rfl,hO,hb⟩
 skip
 have hX0:=hO.codes
 clear hO
 generalize wr.heap.size+3=gg0 at *
 have hbx:Below wx0.heap.size wx0 (wx0.alloc (.cells #[.slice (some ⟨gg0,0,none⟩) n0 n0] 25)):=by go_grown
 have pX0:Blk (wx0.alloc (.cells #[.slice (some ⟨gg0,0,none⟩) n0 n0] 25)) wx0.heap.size 25 [.slice (some ⟨gg0,0,none⟩) n0 n0]:=Zi _ _ _ rfl
 replace hX0:=hX0.below hbx
 have hbb:=Zh hb hbx
 replace bw:=Zh bw hbb
 replace p0:=p0.below hbb
 replace p1:=p1.below hbb
 clear hb hbx hbb
 have cc0:=p1.cell 0
 simp only [List.getElem?_cons_zero,List.getElem?_cons_succ] at cc0
 go_wp2_with fail
 clear cc0
 generalize (wx0.alloc (.cells #[.slice (some ⟨gg0,0,none⟩) n0 n0] 25))=wy0 at *
 generalize wx0.heap.size=GX0 at *
 refine (kT1 _ (h1.below bw)).mono ?_
 rintro e wx1 ⟨rfl,hO,hb⟩
 skip
 have hX1:=hO.ents f1
 clear hO
 generalize wy0.heap.size+3=gg1 at *
 have hbx:Below wx1.heap.size wx1 (wx1.alloc (.cells #[.slice (some ⟨gg1,0,none⟩) n1 n1] 33)):=by go_grown
 have pX1:Blk (wx1.alloc (.cells #[.slice (some ⟨gg1,0,none⟩) n1 n1] 33)) wx1.heap.size 33 [.slice (some ⟨gg1,0,none⟩) n1 n1]:=Zi _ _ _ rfl
 replace hX1:=hX1.below hbx
 have hbb:=Zh hb hbx
 replace bw:=Zh bw hbb
 replace p0:=p0.below hbb
 replace p1:=p1.below hbb
 replace hX0:=hX0.below hbb
 replace pX0:=pX0.below hbb
 clear hb hbx hbb
 have cx0_0:=pX0.cell 0
 simp only [List.getElem?_cons_zero,List.getElem?_cons_succ] at cx0_0
 have cx1_0:=pX1.cell 0
 simp only [List.getElem?_cons_zero,List.getElem?_cons_succ] at cx1_0
 go_wp2_with fail
 clear cx0_0 cx1_0
 generalize (wx1.alloc (.cells #[.slice (some ⟨gg1,0,none⟩) n1 n1] 33))=wi at *
 generalize wx1.heap.size=GX1 at *
 have hne0:(x0 != x0)=false:=by simp
 have hne1:(x1 != x1)=false:=by simp
 refine (kI _ _ _ _ _ _ _ hX0 hX1 (hG0.below bw)).mono ?_
 rintro e wj ⟨rfl,hb⟩
 replace bw:=Zh bw hb
 replace hX0:=hX0.below hb
 replace p0:=p0.below hb
 replace pX0:=pX0.below hb
 replace hX1:=hX1.below hb
 replace p1:=p1.below hb
 replace pX1:=pX1.below hb
 clear hb kI
 have cV0:=pX0.cell 0
 simp only [List.getElem?_cons_zero,List.getElem?_cons_succ] at cV0
 have cC0:=p0.cell 0
 simp only [List.getElem?_cons_zero,List.getElem?_cons_succ] at cC0
 go_wp2_with fail
 have hP:ZZ wj.drew a0 n0 c0 z0:=h0.below (Zh bw (by go_grown))
 have hV:ZZ wj.drew (some ⟨gg0,0,none⟩) n0 n0 z0:=hX0.below (by go_grown)
 have c8:(fun w':World=>w'.cell? ⟨GX0,0,none⟩=some (.slice (some ⟨gg0,0,none⟩) n0 n0)∧w'.cell? ⟨w.heap.size,0,none⟩=some (.slice a0 n0 c0)) wj:=⟨cV0,cC0⟩
 clear cV0 cC0
 go_region_held3 (fun w'=>w'.cell? ⟨GX0,0,none⟩=some (.slice (some ⟨gg0,0,none⟩) n0 n0)∧w'.cell? ⟨w.heap.size,0,none⟩=some (.slice a0 n0 c0)) (first | (exact c8) | (exact c9) | (exact ⟨Za hl _ _ c9.1,Za hl _ _ c9.2⟩))
  (first | (go_at_call 28;refine (kT0 _ hP).mono ?_;rintro e wk0 ⟨rfl,hOk,hk⟩;have hD:=hV.below hk;have c9:=(show (fun w':World=>w'.cell? ⟨GX0,0,none⟩=some (.slice (some ⟨gg0,0,none⟩) n0 n0)∧w'.cell? ⟨w.heap.size,0,none⟩=some (.slice a0 n0 c0)) wk0 from ⟨Za hk _ _ c8.1,Za hk _ _ c8.2⟩)) | (go_at_call 31;refine (VQ _ _ _ _ _ z0 _ hD hOk.codes).mono ?_;rintro e wl0 ⟨rfl,hl⟩))
 have hbw:Below wj.heap.size wj wl0:=Zh (by go_grown) (Zh hk hl)
 replace bw:=Zh bw hbw
 replace hX1:=hX1.below hbw
 replace p1:=p1.below hbw
 replace pX1:=pX1.below hbw
 clear hbw hk hl hD hOk c8 c9 hP hV hX0 pX0 p0
 have cV0:=pX1.cell 0
 simp only [List.getElem?_cons_zero,List.getElem?_cons_succ] at cV0
 have cC0:=p1.cell 0
 simp only [List.getElem?_cons_zero,List.getElem?_cons_succ] at cC0
 go_wp2_with fail
 have hP:Yo wl0.drew a1 n1 c1 z1:=h1.below (Zh bw (by go_grown))
 have hV:Yo wl0.drew (some ⟨gg1,0,none⟩) n1 n1 z1:=hX1.below (by go_grown)
 have c8:(fun w':World=>w'.cell? ⟨GX1,0,none⟩=some (.slice (some ⟨gg1,0,none⟩) n1 n1)∧w'.cell? ⟨w.heap.size+1,0,none⟩=some (.slice a1 n1 c1)) wl0:=⟨cV0,cC0⟩
 clear cV0 cC0
 go_region_held3 (fun w'=>w'.cell? ⟨GX1,0,none⟩=some (.slice (some ⟨gg1,0,none⟩) n1 n1)∧w'.cell? ⟨w.heap.size+1,0,none⟩=some (.slice a1 n1 c1)) (first | (exact c8) | (exact c9) | (exact ⟨Za hl _ _ c9.1,Za hl _ _ c9.2⟩))
  (first | (go_at_call 38;refine (kT1 _ hP).mono ?_;rintro e wk1 ⟨rfl,hOk,hk⟩;have hD:=hV.below hk;have c9:=(show (fun w':World=>w'.cell? ⟨GX1,0,none⟩=some (.slice (some ⟨gg1,0,none⟩) n1 n1)∧w'.cell? ⟨w.heap.size+1,0,none⟩=some (.slice a1 n1 c1)) wk1 from ⟨Za hk _ _ c8.1,Za hk _ _ c8.2⟩)) | (go_at_call 30;refine (Nk _ _ _ _ _ z1 _ hD (hOk.ents f1)).mono ?_;rintro e wl1 ⟨rfl,hl⟩))
 have hbw:Below wl0.heap.size wl0 wl1:=Zh (by go_grown) (Zh hk hl)
 replace bw:=Zh bw hbw
 clear hbw hk hl hD hOk c8 c9 hP hV hX1 pX1 p1
 go_wp2
 go_ret
 exact ⟨rfl,bw⟩
end Go.Proofs.YtnffeclgboomoaaGreatDoor
