/-
  Joined: MachE, SpecC, SpecE, SmlP.
-/
import Derived.Test.YtmhlokahmblboaaGreatDoorK12

namespace Go.Proofs.YtmhlokahmblboaaGreatDoor
set_option maxRecDepth 100000
set_option maxHeartbeats 16000000
open Go.RowKit

theorem Um {rows:List (List I3)} {m:V4} {k:Nat} (h:YA rows m k=true):Zj rows m (k+1)=Zj rows m k++[(k:Int)]:=by simp [Zj,h]
theorem Vm {rows:List (List I3)} {m:V4} {k:Nat} (h:YA rows m k=false):Zj rows m (k+1)=Zj rows m k:=by simp [Zj,h]
theorem YD (rows:List (List I3)) (m:V4):∀ k,(Zj rows m k).length≤k
 | 0=>by simp [Zj]
 | k+1=>by
  have:=YD rows m k
  unfold Zj
  split
  ·simp;omega
  omega

theorem VA (g:Nat) (cs:Sl × Sl × Sl) (rows:List (List I3)) (m:V4) (w:World) (h:Yj w g cs rows m) (hp:Zn rows=true) (hs:Zk m=true) :
  Calls Tryz.prog 36 #[.pointer (some ⟨g,0,none⟩)] w fun e w'=>(∃ s:Sl,e=.returned (.slice s.1 s.2.1 s.2.2)∧ZG w' w.heap.size s (Zj rows m 3))∧Below w.heap.size w w':=by
 obtain ⟨i0,hi,hz0,hz1,hz2⟩:=info_parts Xc
 have kD:=fun (W:World) (hM:Yj W g cs rows m) (k:Nat) (hk:k<3)=>Nd hM hk
 have kW:=fun (W:World) (hM:Yj W g cs rows m) (k:Nat) (hk:k<3)=>GI hM hp hs hk
 go_enter Tryz.func36,Tryz.ntmps36
 go_wp2_with fail
 go_loopw [3,5] (fun so si wr=>∃ (k:Nat) (n:Nat) (v:Value),v=so∧k≤3∧si=.int .i64 k∧Hid (n=(Zj rows m k).length)∧wr.ownsRow w.heap.size 3 1 v n ((Zj rows m k).map (Value.int .i64))∧Below w.heap.size w wr) (fun _ si _=>3 - (intOf si).toNat)
 case atStart=>exact ⟨0,0,_,rfl,by omega,rfl,rfl,World.ownsRow_nil _ _ _ _,Below.refl _ _⟩
 case round =>
  obtain ⟨k,n,so,rfl,hk,rfl,HN,hr,hbw⟩:=hrel
  have hM:=h.below hbw
  by_cases hlt:k<3
  ·have hk3:(k:Int)<3:=by omega
   have kD1:=kD _ hM k hlt
   have hsz:=hbw.size
   cases hd:Z1 rows m k
   ·rw [hd] at kD1
    go_wp2_with fail
    refine kD1.mono ?_
    rintro e w1 ⟨rfl,d,rfl⟩
    replace hM:Yj (wr.drewN d) g cs rows m:=hM.below (Z3 _)
    replace hr:(wr.drewN d).ownsRow w.heap.size 3 1 so n ((Zj rows m k).map (Value.int .i64)):=hr
    replace hbw:Below w.heap.size w (wr.drewN d):=Zb hbw (Z3 _)
    replace hsz:w.heap.size≤(wr.drewN d).heap.size:=hsz
    generalize wr.drewN d=W1 at *
    have kW1:=kW _ hM k hlt
    clear kD1
    cases hw:Qm rows m k
    ·have hcan:YA rows m k=true:=by
      unfold Qm at hw
      unfold YA
      rw [hd] at hw ⊢
      simpa using hw
     rw [hw] at kW1
     go_wp2_with fail
     refine kW1.mono ?_
     rintro e w2 ⟨rfl,hb⟩
     replace hM:=hM.below hb
     replace hr:=Ze hr hb
     replace hbw:=Zb hbw hb
     replace hsz:=hbw.size
     clear hb kW1
     have hn3:n≤3:=by have:=YD rows m k;have:=HN.out;omega
     have HN2:Hid (n+1=(Zj rows m (k+1)).length):=by rw [Hid,Um hcan,List.length_append,← HN.out];rfl
     have HX:Hid (Zj rows m (k+1)=Zj rows m k++[(k:Int)]):=Um hcan
     go_wp2_with (at_builtin;refine wpList_append_own _ rfl _ _ 72 rfl w.heap.size 3 i0 (.int .i64 0) 1 8 Tryz.underlying72 hi hz0 hz1 hz2 rfl (by decide) _ _ _ rfl (hr.alloc _) ⟨w2.heap.size,0,none⟩ 1 1 [.int .i64 (k:Int)] rfl rfl (cell_one_new _ _ _) (by simp [Value.oneCell']) ?c3 ?c4 ?c5 ?_)
     case c3=>unfold maxLen;omega
     case c4=>omega
     case c5=>simp;omega
     intro v' wn hown' hgrow _
     have R:wn.ownsRow w.heap.size 3 1 v' (n+1) ((Zj rows m (k+1)).map (Value.int .i64)):=by
      rw [HX.out,List.map_append]
      exact hown'
     have bn:Below w.heap.size w wn:=(hbw.alloc hsz _).grown hgrow (by simp;omega) (fun k hk=>(hr.lt k hk).1)
     clear hown' hgrow hr hbw hM HX
     go_wp2
     go_roundw
     case rel=>exact ⟨k+1,n+1,_,rfl,by omega,by go_num,HN2,R,bn⟩
     case measure=>simp [intOf];omega
    have hcan:YA rows m k=false:=by
     unfold Qm at hw
     unfold YA
     rw [hd] at hw ⊢
     simpa using hw
    rw [hw] at kW1
    have HN2:Hid (n=(Zj rows m (k+1)).length):=by rw [Hid,Vm hcan];exact HN.out
    rw [← Vm hcan] at hr
    go_wp2_with fail
    refine kW1.mono ?_
    rintro e w2 ⟨rfl,hb⟩
    replace hM:=hM.below hb
    replace hr:=Ze hr hb
    replace hbw:=Zb hbw hb
    clear hb kW1
    go_wp2
    go_roundw
    case rel=>exact ⟨k+1,n,_,rfl,by omega,by go_num,HN2,hr,hbw⟩
    case measure=>simp [intOf];omega
   have hcan:YA rows m k=false:=by unfold YA;rw [hd];rfl
   rw [hd] at kD1
   have HN2:Hid (n=(Zj rows m (k+1)).length):=by rw [Hid,Vm hcan];exact HN.out
   rw [← Vm hcan] at hr
   go_wp2_with fail
   refine kD1.mono ?_
   rintro e w1 ⟨rfl,d,rfl⟩
   replace hM:Yj (wr.drewN d) g cs rows m:=hM.below (Z3 _)
   replace hr:(wr.drewN d).ownsRow w.heap.size 3 1 so n ((Zj rows m (k+1)).map (Value.int .i64)):=hr
   replace hbw:Below w.heap.size w (wr.drewN d):=Zb hbw (Z3 _)
   generalize wr.drewN d=W1 at *
   go_wp2
   go_roundw
   case rel=>exact ⟨k+1,n,_,rfl,by omega,by go_num,HN2,hr,hbw⟩
   case measure=>simp [intOf];omega
  obtain rfl:k=3:=by omega
  obtain ⟨a,c,rfl⟩:∃ a c,so=.slice a n c:=by
   rcases hr.2 with ⟨rfl,rfl⟩ | ⟨g',cap,cur,hv,_⟩
   ·exact ⟨none,0,rfl⟩
   exact ⟨_,cap,hv⟩
  clear kD kW hM
  go_wp2
  go_ret
  exact ⟨⟨(a,n,c),rfl,hr⟩,hbw⟩

theorem GC (g:Nat) (cs:Sl × Sl × Sl) (rows:List (List I3)) (m:V4) (w:World) (h:Yj w g cs rows m) (hp:Zn rows=true) (hs:Zk m=true) :
  Calls Tryz.prog 37 #[.pointer (some ⟨g,0,none⟩)] w fun e w'=>e=.returned (.bool (Xh rows m))∧Below w.heap.size w w':=by
 have kE:=VA g cs rows m w h hp hs
 have kD:=fun (W:World) (hM:Yj W g cs rows m) (k:Nat) (hk:k<3)=>Nd hM hk
 obtain ⟨fin,hfin⟩:∃ fin,fin=Xh rows m:=⟨_,rfl⟩
 rw [← hfin]
 have HF:Hid (fin=(decide (Zj rows m 3=[]) && XX rows m 0)):=hfin
 clear hfin
 go_enter Tryz.func37,Tryz.ntmps37
 go_wp2_with fail
 refine kE.mono ?_
 rintro e w1 ⟨⟨⟨a,n,c⟩,rfl,ho⟩,hb⟩
 have hn:(Zj rows m 3).length=n:=by
  have:=ho.1
  simpa using this
 clear ho kE
 simp only
 by_cases h0:n=0
 ·subst h0
  have HL:Hid (fin=XX rows m 0):=by rw [Hid,HF.out,List.eq_nil_of_length_eq_zero hn];rfl
  clear HF hn
  go_wp2_with fail
  go_loopw [8] (fun si wr=>∃ k:Nat,k≤3∧si=.int .i64 k∧Hid (fin=XX rows m k)∧Below w.heap.size w wr) (fun si _=>3 - (intOf si).toNat)
  case atStart=>exact ⟨0,by omega,rfl,HL,hb⟩
  case round =>
   clear hb HL
   obtain ⟨k,hk,rfl,HL,hbw⟩:=hrel
   by_cases hlt:k<3
   ·have hk3:(k:Int)<3:=by omega
    have kD1:=kD _ (h.below hbw) k hlt
    have hst:=RO rows m hlt
    have HS:Hid (XX rows m k=(!Z1 rows m k || XX rows m (k+1))):=hst
    clear hst
    cases hd:Z1 rows m k
    ·rw [hd] at kD1
     obtain rfl:fin=true:=by rw [HL.out,HS.out,hd];rfl
     clear HL HS
     go_wp2_with fail
     refine kD1.mono ?_
     rintro e w2 ⟨rfl,d,rfl⟩
     replace hbw:Below w.heap.size w (wr.drewN d):=Zb hbw (Z3 _)
     go_wp2
     go_ret
     exact ⟨rfl,hbw⟩
    rw [hd] at kD1
    have HL2:Hid (fin=XX rows m (k+1)):=by rw [Hid,HL.out,HS.out,hd];rfl
    clear HL HS
    go_wp2_with fail
    refine kD1.mono ?_
    rintro e w2 ⟨rfl,d,rfl⟩
    replace hbw:Below w.heap.size w (wr.drewN d):=Zb hbw (Z3 _)
    generalize wr.drewN d=W1 at *
    go_wp2
    go_roundw
    case rel=>exact ⟨k+1,by omega,by go_num,HL2,hbw⟩
    case measure=>simp [intOf];omega
   obtain rfl:k=3:=by omega
   obtain rfl:fin=false:=HL.out.trans (QO _ _)
   clear kD HL
   go_wp2
   go_ret
   exact ⟨rfl,hbw⟩
 obtain rfl:fin=false:=by
  rw [HF.out,decide_eq_false]
  ·rfl
  intro e
  rw [e] at hn
  exact h0 hn.symm
 have hpos:(0:Int)<(n:Int):=by omega
 clear HF hn kD
 go_wp2
 go_ret
 exact ⟨rfl,hb⟩


theorem VY (b off len cap b0 o0 c0:Nat) (a1:Option Addr) (n1 c1:Nat) (a2:Option Addr) (n2 c2:Nat) (a3:Option Addr) (n3 c3 k:Nat) (ca:Option Addr) (cn cc:Nat) (pc:Int) (w:World) (hk:k<3) (hlen:len=3)
  (r0:w.cell? ⟨b,off+k,none⟩=some (.slice ca cn cc)) (r1:w.cell? ⟨b0,o0+k,none⟩=some (.int .i64 pc)) :
  Calls Tryz.prog 178 #[.agg #[.slice (some ⟨b,off,none⟩) len cap],.agg #[.slice (some ⟨b0,o0,none⟩) 3 c0,.slice a1 n1 c1,.slice a2 n2 c2,.slice a3 n3 c3],.int .i64 k] w fun e w'=>e=.returned (.bool (decide ((cn:Int)≤pc)))∧Below w.heap.size w w':=by
 obtain ⟨x,hx⟩:∃ x,x=decide ((cn:Int)≤pc):=⟨_,rfl⟩
 have hd:decide ((cn:Int)≤pc)=x:=hx.symm
 rw [← hx]
 clear hx
 have hk3:(k:Int)<3:=by omega
 have hkl:(k:Int)<(len:Int):=by omega
 clear hlen
 have bw:Below w.heap.size w ((w.alloc (.cells #[.slice (some ⟨b,off,none⟩) len cap] 25)).alloc (.cells #[.slice (some ⟨b0,o0,none⟩) 3 c0,.slice a1 n1 c1,.slice a2 n2 c2,.slice a3 n3 c3] 74)):=by go_grown
 have g0:((w.alloc (.cells #[.slice (some ⟨b,off,none⟩) len cap] 25)).alloc (.cells #[.slice (some ⟨b0,o0,none⟩) 3 c0,.slice a1 n1 c1,.slice a2 n2 c2,.slice a3 n3 c3] 74)).cell? ⟨w.heap.size,0,none⟩=some (.slice (some ⟨b,off,none⟩) len cap):=by simp [go_sem]
 have g1:((w.alloc (.cells #[.slice (some ⟨b,off,none⟩) len cap] 25)).alloc (.cells #[.slice (some ⟨b0,o0,none⟩) 3 c0,.slice a1 n1 c1,.slice a2 n2 c2,.slice a3 n3 c3] 74)).cell? ⟨w.heap.size+1,0,none⟩=some (.slice (some ⟨b0,o0,none⟩) 3 c0):=by simp [go_sem]
 replace r0:=Za bw _ _ r0
 replace r1:=Za bw _ _ r1
 go_enter Tryz.func178,Tryz.ntmps178
 go_wp2_with fail
 generalize ((w.alloc (.cells #[.slice (some ⟨b,off,none⟩) len cap] 25)).alloc (.cells #[.slice (some ⟨b0,o0,none⟩) 3 c0,.slice a1 n1 c1,.slice a2 n2 c2,.slice a3 n3 c3] 74))=W at *
 go_quiet (fail)
 have bz:Below w.heap.size w (W.drewN nq):=Zb bw (Z3 _)
 go_wp2
 go_ret
 exact ⟨rfl,bz⟩

theorem UQ {w:World} {a:Option Addr} {len cap:Nat} {cs:Sl × Sl × Sl} {rows:List (List I3)} {s:S4} {m:V4} (hl:len=3) (hR:Z6 w a cs rows) (h:Yk w s m) (hs:Zk m=true) {k:Nat} (hk:k<3) :
  Calls Tryz.prog 178 #[.agg #[.slice a len cap],s.val,.int .i64 k] w fun e w'=>e=.returned (.bool (Z1 rows m k))∧Below w.heap.size w w':=by
 obtain ⟨b,off,rfl,_,hrow⟩:=hR
 obtain ⟨r0,hI⟩:=hrow k hk
 obtain ⟨⟨j0,_⟩,_⟩:=h
 obtain ⟨l0,_⟩:=ZT hs
 obtain ⟨⟨a0,n0,c0⟩,⟨a1,n1,c1⟩,⟨a2,n2,c2⟩,⟨a3,n3,c3⟩⟩:=s
 simp only at j0
 obtain ⟨rfl,b0,o0,rfl⟩:=Zw j0 l0 (by decide)
 have r1:=Yz j0 (t:=k) hk
 unfold Z1
 rw [hI.1]
 exact VY b off len cap b0 o0 c0 a1 n1 c1 a2 n2 c2 a3 n3 c3 k _ _ _ _ w hk hl r0 r1

theorem Ny (b off len cap b0 o0 c0:Nat) (a1:Option Addr) (n1 c1:Nat) (a2:Option Addr) (n2 c2:Nat) (a3:Option Addr) (n3 c3 k:Nat) (cb co cn cc p:Nat) (x0 x1 x2:Int) (w:World) (hk:k<3) (hlen:len=3) (hp:p<cn)
  (e0:w.cell? ⟨b,off+k,none⟩=some (.slice (some ⟨cb,co,none⟩) cn cc)) (e1:w.cell? ⟨b0,o0+k,none⟩=some (.int .i64 p)) (q0:w.cell? ⟨cb,co+p*3,none⟩=some (.int .i64 x0)) (q1:w.cell? ⟨cb,co+p*3+1,none⟩=some (.int .i64 x1)) (q2:w.cell? ⟨cb,co+p*3+2,none⟩=some (.int .i64 x2)) (hx:x0≠5) :
  Calls Tryz.prog 132 #[.agg #[.slice (some ⟨b,off,none⟩) len cap],.agg #[.slice (some ⟨b0,o0,none⟩) 3 c0,.slice a1 n1 c1,.slice a2 n2 c2,.slice a3 n3 c3],.int .i64 k] w fun e w'=>e=.returned (.bool true)∧Below w.heap.size w w':=by
 have kD:=fun w r0 r1=>VY b off len cap b0 o0 c0 a1 n1 c1 a2 n2 c2 a3 n3 c3 k (some ⟨cb,co,none⟩) cn cc p w hk hlen r0 r1
 rw [decide_eq_false (by omega)] at kD
 have hk3:(k:Int)<3:=by omega
 have hkl:(k:Int)<(len:Int):=by omega
 have hpn:(p:Int)<(cn:Int):=by omega
 clear hlen
 have bw:Below w.heap.size w ((w.alloc (.cells #[.slice (some ⟨b,off,none⟩) len cap] 25)).alloc (.cells #[.slice (some ⟨b0,o0,none⟩) 3 c0,.slice a1 n1 c1,.slice a2 n2 c2,.slice a3 n3 c3] 74)):=by go_grown
 have g0:((w.alloc (.cells #[.slice (some ⟨b,off,none⟩) len cap] 25)).alloc (.cells #[.slice (some ⟨b0,o0,none⟩) 3 c0,.slice a1 n1 c1,.slice a2 n2 c2,.slice a3 n3 c3] 74)).cell? ⟨w.heap.size,0,none⟩=some (.slice (some ⟨b,off,none⟩) len cap):=by simp [go_sem]
 have g1:((w.alloc (.cells #[.slice (some ⟨b,off,none⟩) len cap] 25)).alloc (.cells #[.slice (some ⟨b0,o0,none⟩) 3 c0,.slice a1 n1 c1,.slice a2 n2 c2,.slice a3 n3 c3] 74)).cell? ⟨w.heap.size+1,0,none⟩=some (.slice (some ⟨b0,o0,none⟩) 3 c0):=by simp [go_sem]
 have g2:((w.alloc (.cells #[.slice (some ⟨b,off,none⟩) len cap] 25)).alloc (.cells #[.slice (some ⟨b0,o0,none⟩) 3 c0,.slice a1 n1 c1,.slice a2 n2 c2,.slice a3 n3 c3] 74)).cell? ⟨w.heap.size+1,2,none⟩=some (.slice a2 n2 c2):=by simp [go_sem]
 replace e0:=Za bw _ _ e0
 replace e1:=Za bw _ _ e1
 replace q0:=Za bw _ _ q0
 replace q1:=Za bw _ _ q1
 replace q2:=Za bw _ _ q2
 go_enter Tryz.func132,Tryz.ntmps132
 go_wp2_with fail
 refine (kD _ e0 e1).mono ?_
 rintro e w1 ⟨rfl,hb⟩
 replace bw:=Zb bw hb
 replace g0:=Za hb _ _ g0
 replace g1:=Za hb _ _ g1
 replace g2:=Za hb _ _ g2
 replace e0:=Za hb _ _ e0
 replace e1:=Za hb _ _ e1
 replace q0:=Za hb _ _ q0
 replace q1:=Za hb _ _ q1
 replace q2:=Za hb _ _ q2
 clear hb kD
 go_wp2_with fail
 refine wp_region_held_drew (S:=(fun w'=>w'.cell? ⟨w.heap.size,0,none⟩=some (.slice (some ⟨b,off,none⟩) len cap)∧w'.cell? ⟨w.heap.size+1,0,none⟩=some (.slice (some ⟨b0,o0,none⟩) 3 c0)∧w'.cell? ⟨b,off+k,none⟩=some (.slice (some ⟨cb,co,none⟩) cn cc)∧w'.cell? ⟨b0,o0+k,none⟩=some (.int .i64 p)∧w'.cell? ⟨cb,co+p*3,none⟩=some (.int .i64 x0)∧w'.cell? ⟨cb,co+p*3+1,none⟩=some (.int .i64 x1)∧w'.cell? ⟨cb,co+p*3+2,none⟩=some (.int .i64 x2))) (by kernel_rfl) ⟨g0,g1,e0,e1,q0,q1,q2⟩ (fun hS0=>?_)
 refine tkm 0 12 (.pointer (some ⟨w.heap.size,0,none⟩)) ?_
 refine tkm 1 13 (.slice (some ⟨b,off,none⟩) len cap) ?_
 refine tkm 2 14 (.int .i64 k) ?_
 refine tkm 3 15 (.pointer (some ⟨b,off+k,none⟩)) ?_
 refine tkm 4 16 (.slice (some ⟨cb,co,none⟩) cn cc) ?_
 refine tkm 5 17 (.pointer (some ⟨w.heap.size+1,0,none⟩)) ?_
 refine tkm 6 18 (.slice (some ⟨b0,o0,none⟩) 3 c0) ?_
 refine tkm 7 19 (.int .i64 k) ?_
 refine tkm 8 20 (.pointer (some ⟨b0,o0+k,none⟩)) ?_
 refine tkm 9 21 (.int .i64 p) ?_
 refine tkm 10 22 (.pointer (some ⟨cb,co+p*3,none⟩)) ?_
 refine tkm 11 23 (.agg #[.int .i64 x0,.int .i64 x1,.int .i64 x2]) ?_
 refine tkr 12 7 (fun K hK=>?_)
 have hal:Below w1.drew.heap.size w1.drew (w1.drew.alloc (.cells #[.int .i64 0,.int .i64 0,.int .i64 0] 122)):=by go_grown
 go_simp
 refine hK.out _ _ ?_ (fun hS1=>?_)
 ·exact ⟨Za hal _ _ hS0.1,Za hal _ _ hS0.2.1,Za hal _ _ hS0.2.2.1,Za hal _ _ hS0.2.2.2.1,Za hal _ _ hS0.2.2.2.2.1,Za hal _ _ hS0.2.2.2.2.2.1,Za hal _ _ hS0.2.2.2.2.2.2⟩
 clear hK
 try simp only [Act.put,tka,tkb,tkc]
 refine tkz 13 (fun K hK=>?_)
 have hal2:Below w1.drew.heap.size w1.drew (w1.drew.alloc (.cells #[.int .i64 x0,.int .i64 x1,.int .i64 x2] 122)):=by go_grown
 go_simp
 refine hK.out _ _ ?_ (fun hS2=>?_)
 ·exact ⟨Za hal2 _ _ hS0.1,Za hal2 _ _ hS0.2.1,Za hal2 _ _ hS0.2.2.1,Za hal2 _ _ hS0.2.2.2.1,Za hal2 _ _ hS0.2.2.2.2.1,Za hal2 _ _ hS0.2.2.2.2.2.1,Za hal2 _ _ hS0.2.2.2.2.2.2⟩
 clear hK
 try simp only [Act.put,tka,tkb,tkc]
 refine wpAnyH_done (by kernel_rfl) ?_ _
 have bx:Below w1.heap.size w1 (w1.alloc (.cells #[.int .i64 x0,.int .i64 x1,.int .i64 x2] 122)).drew:=by go_grown
 have pX:Blk (w1.alloc (.cells #[.int .i64 x0,.int .i64 x1,.int .i64 x2] 122)).drew w1.heap.size 122 [.int .i64 x0,.int .i64 x1,.int .i64 x2]:=Blk.new w1 122 [.int .i64 x0,.int .i64 x1,.int .i64 x2]
 replace bw:=Zb bw bx
 replace g2:=Za bx _ _ g2
 have u0:=pX.cell 0
 have u1:=pX.cell 1
 simp only [List.getElem?_cons_zero,List.getElem?_cons_succ] at u0 u1
 clear bx hal hal2 hS0 hS1 hS2 e0 e1 q0 q1 q2 g0 g1 pX
 have hx5:(x0 != 5)=true:=by simp [hx]
 go_wp2_with fail
 generalize (w1.alloc (.cells #[.int .i64 x0,.int .i64 x1,.int .i64 x2] 122)).drew=W3 at *
 go_wp2
 go_ret
 exact ⟨rfl,bw⟩

theorem Nz (b off len cap b0 o0 c0:Nat) (a1:Option Addr) (n1 c1:Nat) (c2:Nat) (a3:Option Addr) (n3 c3 k:Nat) (cb co cn cc p:Nat) (x2:Int) (b2 o2 q:Nat) (hv:Int) (w:World) (hk:k<3) (hlen:len=3) (hp:p<cn)
  (e0:w.cell? ⟨b,off+k,none⟩=some (.slice (some ⟨cb,co,none⟩) cn cc)) (e1:w.cell? ⟨b0,o0+k,none⟩=some (.int .i64 p)) (q0:w.cell? ⟨cb,co+p*3,none⟩=some (.int .i64 5)) (q1:w.cell? ⟨cb,co+p*3+1,none⟩=some (.int .i64 q)) (q2:w.cell? ⟨cb,co+p*3+2,none⟩=some (.int .i64 x2)) (hq:q<2) (h6:w.cell? ⟨b2,o2+q,none⟩=some (.int .i64 hv)) (z:Bool) (hz:z=decide (hv=0)) :
  Calls Tryz.prog 132 #[.agg #[.slice (some ⟨b,off,none⟩) len cap],.agg #[.slice (some ⟨b0,o0,none⟩) 3 c0,.slice a1 n1 c1,.slice (some ⟨b2,o2,none⟩) 2 c2,.slice a3 n3 c3],.int .i64 k] w fun e w'=>e=.returned (.bool z)∧Below w.heap.size w w':=by
 have kD:=fun w r0 r1=>VY b off len cap b0 o0 c0 a1 n1 c1 (some ⟨b2,o2,none⟩) 2 c2 a3 n3 c3 k (some ⟨cb,co,none⟩) cn cc p w hk hlen r0 r1
 rw [decide_eq_false (by omega)] at kD
 have hk3:(k:Int)<3:=by omega
 have hkl:(k:Int)<(len:Int):=by omega
 have hpn:(p:Int)<(cn:Int):=by omega
 clear hlen
 have bw:Below w.heap.size w ((w.alloc (.cells #[.slice (some ⟨b,off,none⟩) len cap] 25)).alloc (.cells #[.slice (some ⟨b0,o0,none⟩) 3 c0,.slice a1 n1 c1,.slice (some ⟨b2,o2,none⟩) 2 c2,.slice a3 n3 c3] 74)):=by go_grown
 have g0:((w.alloc (.cells #[.slice (some ⟨b,off,none⟩) len cap] 25)).alloc (.cells #[.slice (some ⟨b0,o0,none⟩) 3 c0,.slice a1 n1 c1,.slice (some ⟨b2,o2,none⟩) 2 c2,.slice a3 n3 c3] 74)).cell? ⟨w.heap.size,0,none⟩=some (.slice (some ⟨b,off,none⟩) len cap):=by simp [go_sem]
 have g1:((w.alloc (.cells #[.slice (some ⟨b,off,none⟩) len cap] 25)).alloc (.cells #[.slice (some ⟨b0,o0,none⟩) 3 c0,.slice a1 n1 c1,.slice (some ⟨b2,o2,none⟩) 2 c2,.slice a3 n3 c3] 74)).cell? ⟨w.heap.size+1,0,none⟩=some (.slice (some ⟨b0,o0,none⟩) 3 c0):=by simp [go_sem]
 have g2:((w.alloc (.cells #[.slice (some ⟨b,off,none⟩) len cap] 25)).alloc (.cells #[.slice (some ⟨b0,o0,none⟩) 3 c0,.slice a1 n1 c1,.slice (some ⟨b2,o2,none⟩) 2 c2,.slice a3 n3 c3] 74)).cell? ⟨w.heap.size+1,2,none⟩=some (.slice (some ⟨b2,o2,none⟩) 2 c2):=by simp [go_sem]
 replace e0:=Za bw _ _ e0
 replace e1:=Za bw _ _ e1
 replace q0:=Za bw _ _ q0
 replace q1:=Za bw _ _ q1
 replace q2:=Za bw _ _ q2
 replace h6:=Za bw _ _ h6
 go_enter Tryz.func132,Tryz.ntmps132
 go_wp2_with fail
 refine (kD _ e0 e1).mono ?_
 rintro e w1 ⟨rfl,hb⟩
 replace bw:=Zb bw hb
 replace g0:=Za hb _ _ g0
 replace g1:=Za hb _ _ g1
 replace g2:=Za hb _ _ g2
 replace e0:=Za hb _ _ e0
 replace e1:=Za hb _ _ e1
 replace q0:=Za hb _ _ q0
 replace q1:=Za hb _ _ q1
 replace q2:=Za hb _ _ q2
 replace h6:=Za hb _ _ h6
 clear hb kD
 go_wp2_with fail
 refine wp_region_held_drew (S:=(fun w'=>w'.cell? ⟨w.heap.size,0,none⟩=some (.slice (some ⟨b,off,none⟩) len cap)∧w'.cell? ⟨w.heap.size+1,0,none⟩=some (.slice (some ⟨b0,o0,none⟩) 3 c0)∧w'.cell? ⟨b,off+k,none⟩=some (.slice (some ⟨cb,co,none⟩) cn cc)∧w'.cell? ⟨b0,o0+k,none⟩=some (.int .i64 p)∧w'.cell? ⟨cb,co+p*3,none⟩=some (.int .i64 5)∧w'.cell? ⟨cb,co+p*3+1,none⟩=some (.int .i64 q)∧w'.cell? ⟨cb,co+p*3+2,none⟩=some (.int .i64 x2))) (by kernel_rfl) ⟨g0,g1,e0,e1,q0,q1,q2⟩ (fun hS0=>?_)
 refine tkm 0 12 (.pointer (some ⟨w.heap.size,0,none⟩)) ?_
 refine tkm 1 13 (.slice (some ⟨b,off,none⟩) len cap) ?_
 refine tkm 2 14 (.int .i64 k) ?_
 refine tkm 3 15 (.pointer (some ⟨b,off+k,none⟩)) ?_
 refine tkm 4 16 (.slice (some ⟨cb,co,none⟩) cn cc) ?_
 refine tkm 5 17 (.pointer (some ⟨w.heap.size+1,0,none⟩)) ?_
 refine tkm 6 18 (.slice (some ⟨b0,o0,none⟩) 3 c0) ?_
 refine tkm 7 19 (.int .i64 k) ?_
 refine tkm 8 20 (.pointer (some ⟨b0,o0+k,none⟩)) ?_
 refine tkm 9 21 (.int .i64 p) ?_
 refine tkm 10 22 (.pointer (some ⟨cb,co+p*3,none⟩)) ?_
 refine tkm 11 23 (.agg #[.int .i64 5,.int .i64 q,.int .i64 x2]) ?_
 refine tkr 12 7 (fun K hK=>?_)
 have hal:Below w1.drew.heap.size w1.drew (w1.drew.alloc (.cells #[.int .i64 0,.int .i64 0,.int .i64 0] 122)):=by go_grown
 go_simp
 refine hK.out _ _ ?_ (fun hS1=>?_)
 ·exact ⟨Za hal _ _ hS0.1,Za hal _ _ hS0.2.1,Za hal _ _ hS0.2.2.1,Za hal _ _ hS0.2.2.2.1,Za hal _ _ hS0.2.2.2.2.1,Za hal _ _ hS0.2.2.2.2.2.1,Za hal _ _ hS0.2.2.2.2.2.2⟩
 clear hK
 try simp only [Act.put,tka,tkb,tkc]
 refine tkz 13 (fun K hK=>?_)
 have hal2:Below w1.drew.heap.size w1.drew (w1.drew.alloc (.cells #[.int .i64 5,.int .i64 q,.int .i64 x2] 122)):=by go_grown
 go_simp
 refine hK.out _ _ ?_ (fun hS2=>?_)
 ·exact ⟨Za hal2 _ _ hS0.1,Za hal2 _ _ hS0.2.1,Za hal2 _ _ hS0.2.2.1,Za hal2 _ _ hS0.2.2.2.1,Za hal2 _ _ hS0.2.2.2.2.1,Za hal2 _ _ hS0.2.2.2.2.2.1,Za hal2 _ _ hS0.2.2.2.2.2.2⟩
 clear hK
 try simp only [Act.put,tka,tkb,tkc]
 refine wpAnyH_done (by kernel_rfl) ?_ _
 have bx:Below w1.heap.size w1 (w1.alloc (.cells #[.int .i64 5,.int .i64 q,.int .i64 x2] 122)).drew:=by go_grown
 have pX:Blk (w1.alloc (.cells #[.int .i64 5,.int .i64 q,.int .i64 x2] 122)).drew w1.heap.size 122 [.int .i64 5,.int .i64 q,.int .i64 x2]:=Blk.new w1 122 [.int .i64 5,.int .i64 q,.int .i64 x2]
 replace bw:=Zb bw bx
 replace g2:=Za bx _ _ g2
 replace h6:=Za bx _ _ h6
 have u0:=pX.cell 0
 have u1:=pX.cell 1
 simp only [List.getElem?_cons_zero,List.getElem?_cons_succ] at u0 u1
 clear bx hal hal2 hS0 hS1 hS2 e0 e1 q0 q1 q2 g0 g1 pX
 have hq2:(q:Int)<2:=by omega
 have hv0:(hv == 0)=z:=by rw [hz];by_cases h:hv=0<;>simp [h]
 clear hz
 go_wp2_with fail
 generalize (w1.alloc (.cells #[.int .i64 5,.int .i64 q,.int .i64 x2] 122)).drew=W3 at *
 go_wp2
 go_ret
 exact ⟨rfl,bw⟩

theorem Nx {w:World} {a:Option Addr} {len cap:Nat} {cs:Sl × Sl × Sl} {rows:List (List I3)} {s:S4} {m:V4} (hl:len=3) (hR:Z6 w a cs rows) (h:Yk w s m) (hs:Zk m=true) {k:Nat} (hk:k<3) (hd:Z1 rows m k=true) :
  Calls Tryz.prog 132 #[.agg #[.slice a len cap],s.val,.int .i64 k] w fun e w'=>e=.returned (.bool false)∧Below w.heap.size w w':=by
 have kD:=fun (W:World) (hR:Z6 W a cs rows) (h:Yk W s m)=>UQ (cap:=cap) hl hR h hs hk
 rw [hd] at kD
 have hM:=fun (W:World) (hb:Below w.heap.size w W)=>h.below hb
 obtain ⟨⟨a0,n0,c0⟩,⟨a1,n1,c1⟩,⟨a2,n2,c2⟩,⟨a3,n3,c3⟩⟩:=s
 have uA:S4.val ((a0,n0,c0),(a1,n1,c1),(a2,n2,c2),(a3,n3,c3))=.agg #[.slice a0 n0 c0,.slice a1 n1 c1,.slice a2 n2 c2,.slice a3 n3 c3]:=rfl
 rw [uA] at kD ⊢
 clear uA h hl
 have bw:Below w.heap.size w ((w.alloc (.cells #[.slice a len cap] 25)).alloc (.cells #[.slice a0 n0 c0,.slice a1 n1 c1,.slice a2 n2 c2,.slice a3 n3 c3] 74)):=by go_grown
 go_enter Tryz.func132,Tryz.ntmps132
 go_wp2_with fail
 refine (kD _ (hR.below bw) (hM _ bw)).mono ?_
 rintro e w1 ⟨rfl,hb⟩
 replace bw:=Zb bw hb
 go_wp2
 go_ret
 exact ⟨rfl,bw⟩

theorem QL {w:World} {a:Option Addr} {len cap:Nat} {cs:Sl × Sl × Sl} {rows:List (List I3)} {s:S4} {m:V4} (hl:len=3) (hR:Z6 w a cs rows) (h:Yk w s m) (hp:Zn rows=true) (hs:Zk m=true) {k:Nat} (hk:k<3) :
  Calls Tryz.prog 132 #[.agg #[.slice a len cap],s.val,.int .i64 k] w fun e w'=>e=.returned (.bool (YA rows m k))∧Below w.heap.size w w':=by
 unfold YA
 cases hd:Z1 rows m k
 ·obtain ⟨p,ep,hlt,hi,hok⟩:=X0 hp hs hk hd
  obtain ⟨b,off,rfl,_,hrow⟩:=hR
  obtain ⟨r0,hI⟩:=hrow k hk
  obtain ⟨⟨j0,_⟩,⟨j1,_⟩,⟨j2,_⟩,⟨j3,_⟩⟩:=h
  obtain ⟨l0,l1,l2,l3,_⟩:=ZT hs
  obtain ⟨⟨a0,n0,c0⟩,⟨a1,n1,c1⟩,⟨a2,n2,c2⟩,⟨a3,n3,c3⟩⟩:=s
  simp only at j0 j1 j2 j3
  obtain ⟨rfl,b0,o0,rfl⟩:=Zw j0 l0 (by decide)
  have r1:=Yz j0 (t:=k) hk
  rw [ep] at r1
  obtain ⟨cb,co,ea,hpn,q0,q1,q2⟩:=T9 hI hlt
  rw [← hi] at q0 q1 q2
  rw [ea] at r0
  by_cases h5:(Yq rows m k).1=5
  ·obtain ⟨q,hq,hq2⟩:=NR hok h5
   rw [h5] at q0
   rw [hq] at q1
   obtain ⟨rfl,b2,o2,rfl⟩:=Zw j2 l2 (by decide)
   have hh:=Yz j2 (t:=q) hq2
   have e:(!XP m (Yq rows m k))=decide (m.2.2.1.getD q 0=0):=by
    unfold XP
    rw [h5,hq]
    simp
   rw [e]
   exact Nz b off len cap b0 o0 c0 a1 n1 c1 c2 a3 n3 c3 k cb co _ _ p _ b2 o2 q _ w hk hl hpn r0 r1 q0 q1 q2 hq2 hh _ rfl
  have e:XP m (Yq rows m k)=false:=by unfold XP;simp [h5]
  rw [e]
  exact Ny b off len cap b0 o0 c0 a1 n1 c1 a2 n2 c2 a3 n3 c3 k cb co _ _ p _ _ _ w hk hl hpn r0 r1 q0 q1 q2 h5
 exact Nx hl hR h hs hk hd

set_option linter.unusedVariables false

theorem Z4 {w:World} {B e s n g t:Nat} {v:Value} {xs cs:List Value} (h:w.ownsRow B e s v n xs) (hB:Blk w g t cs) (he:e≠t):v.ownBlock≠some g:=by
 rcases h.2 with ⟨rfl,_⟩ | ⟨g',cap,cur,rfl,_,hg,_⟩
 ·simp [Value.ownBlock]
 simp only [Value.ownBlock,ne_eq,Option.some.injEq]
 rintro rfl
 unfold Blk at hB
 rw [hg] at hB
 simp at hB
 exact he hB.2

theorem Xw (a:Option Addr) (len cap:Nat) (rows:List (List I3)) (s:S4) (m:V4) (cs:Sl × Sl × Sl) (w:World) (hl:len=3) (hR:Z6 w a cs rows) (h:Yk w s m) (hp:Zn rows=true) (hs:Zk m=true) :
  Calls Tryz.prog 77 #[.agg #[.slice a len cap],s.val] w fun e w'=>(∃ s9:Sl,e=.returned (.slice s9.1 s9.2.1 s9.2.2)∧ZG w' w.heap.size s9 (Zj rows m 3))∧Below w.heap.size w w':=by
 obtain ⟨i0,hi,hz0,hz1,hz2⟩:=info_parts Xc
 have kC:=fun (W:World) (hR:Z6 W a cs rows) (h:Yk W s m) (k:Nat) (hk:k<3)=>QL (cap:=cap) hl hR h hp hs hk
 have hM:=fun (W:World) (hb:Below w.heap.size w W)=>h.below hb
 obtain ⟨⟨a0,n0,c0⟩,⟨a1,n1,c1⟩,⟨a2,n2,c2⟩,⟨a3,n3,c3⟩⟩:=s
 have uA:S4.val ((a0,n0,c0),(a1,n1,c1),(a2,n2,c2),(a3,n3,c3))=.agg #[.slice a0 n0 c0,.slice a1 n1 c1,.slice a2 n2 c2,.slice a3 n3 c3]:=rfl
 rw [uA] at kC ⊢
 clear uA h hl
 have bw:Below w.heap.size w (((w.alloc (.cells #[.slice a len cap] 25)).alloc (.cells #[.slice a0 n0 c0,.slice a1 n1 c1,.slice a2 n2 c2,.slice a3 n3 c3] 74)).alloc (.cells #[] 3)):=by go_grown
 have pP:Blk (((w.alloc (.cells #[.slice a len cap] 25)).alloc (.cells #[.slice a0 n0 c0,.slice a1 n1 c1,.slice a2 n2 c2,.slice a3 n3 c3] 74)).alloc (.cells #[] 3)) w.heap.size 25 [.slice a len cap]:=Zq _ (Zq _ (Zo _ _ _ rfl))
 have pS:Blk (((w.alloc (.cells #[.slice a len cap] 25)).alloc (.cells #[.slice a0 n0 c0,.slice a1 n1 c1,.slice a2 n2 c2,.slice a3 n3 c3] 74)).alloc (.cells #[] 3)) (w.heap.size+1) 74 [.slice a0 n0 c0,.slice a1 n1 c1,.slice a2 n2 c2,.slice a3 n3 c3]:=Zq _ (Zo _ _ _ (by simp))
 have hq:(((w.alloc (.cells #[.slice a len cap] 25)).alloc (.cells #[.slice a0 n0 c0,.slice a1 n1 c1,.slice a2 n2 c2,.slice a3 n3 c3] 74)).alloc (.cells #[] 3)).ownsRow w.heap.size 3 1 (.slice (some ⟨w.heap.size+1+1,0,none⟩) 0 0) 0 ((Zj rows m 0).map (Value.int .i64)):=by
  have h9:=X4 ((w.alloc (.cells #[.slice a len cap] 25)).alloc (.cells #[.slice a0 n0 c0,.slice a1 n1 c1,.slice a2 n2 c2,.slice a3 n3 c3] 74)) 3 1 w.heap.size (by simp;omega)
  simp only [World.size_alloc] at h9
  exact h9
 go_enter Tryz.func77,Tryz.ntmps77
 go_wp2_with fail
 generalize ((w.alloc (.cells #[.slice a len cap] 25)).alloc (.cells #[.slice a0 n0 c0,.slice a1 n1 c1,.slice a2 n2 c2,.slice a3 n3 c3] 74)).alloc (.cells #[] 3)=W0 at *
 go_loopw [5,6] (fun so si wr=>∃ (k:Nat) (n:Nat) (v:Value),v=so∧k≤3∧si=.int .i64 k∧Hid (n=(Zj rows m k).length)∧wr.ownsRow w.heap.size 3 1 v n ((Zj rows m k).map (Value.int .i64))∧Blk wr w.heap.size 25 [.slice a len cap]∧Blk wr (w.heap.size+1) 74 [.slice a0 n0 c0,.slice a1 n1 c1,.slice a2 n2 c2,.slice a3 n3 c3]∧Below w.heap.size w wr) (fun _ si _=>3 - (intOf si).toNat)
 case atStart=>exact ⟨0,0,_,rfl,by omega,rfl,rfl,hq,pP,pS,bw⟩
 case round =>
  clear hq pP pS bw
  obtain ⟨k,n,so,rfl,hk,rfl,HN,hr,pP,pS,hbw⟩:=hrel
  by_cases hlt:k<3
  ·have hk3:(k:Int)<3:=by omega
   have kC1:=kC _ (hR.below hbw) (hM _ hbw) k hlt
   have gP:=pP.cell 0
   have gS0:=pS.cell 0
   have gS1:=pS.cell 1
   have gS2:=pS.cell 2
   have gS3:=pS.cell 3
   simp only [List.getElem?_cons_zero,List.getElem?_cons_succ] at gP gS0 gS1 gS2 gS3
   cases hcan:YA rows m k
   ·rw [hcan] at kC1
    have HN2:Hid (n=(Zj rows m (k+1)).length):=by rw [Hid,Vm hcan];exact HN.out
    rw [← Vm hcan] at hr
    go_wp2_with fail
    refine kC1.mono ?_
    rintro e w1 ⟨rfl,hb⟩
    replace hr:=Ze hr hb
    replace pP:=pP.below hb
    replace pS:=pS.below hb
    replace hbw:=Zb hbw hb
    clear hb gP gS0 gS1 gS2 gS3 kC1
    go_wp2
    go_roundw
    case rel=>exact ⟨k+1,n,_,rfl,by omega,by go_num,HN2,hr,pP,pS,hbw⟩
    case measure=>simp [intOf];omega
   rw [hcan] at kC1
   have hn3:n≤3:=by have:=YD rows m k;have:=HN.out;omega
   have HN2:Hid (n+1=(Zj rows m (k+1)).length):=by rw [Hid,Um hcan,List.length_append,← HN.out];rfl
   have HX:Hid (Zj rows m (k+1)=Zj rows m k++[(k:Int)]):=Um hcan
   go_wp2_with fail
   refine kC1.mono ?_
   rintro e w2 ⟨rfl,hb⟩
   replace hr:=Ze hr hb
   replace pP:=pP.below hb
   replace pS:=pS.below hb
   replace hbw:=Zb hbw hb
   have hsz:=hbw.size
   clear hb gP gS0 gS1 gS2 gS3 kC1
   go_wp2_with (at_builtin;refine wpList_append_own _ rfl _ _ 72 rfl w.heap.size 3 i0 (.int .i64 0) 1 8 Tryz.underlying72 hi hz0 hz1 hz2 rfl (by decide) _ _ _ rfl (hr.alloc _) ⟨w2.heap.size,0,none⟩ 1 1 [.int .i64 (k:Int)] rfl rfl (cell_one_new _ _ _) (by simp [Value.oneCell']) ?c3 ?c4 ?c5 ?_)
   case c3=>unfold maxLen;omega
   case c4=>omega
   case c5=>simp;omega
   intro v' wn hown' hgrow _
   have R:wn.ownsRow w.heap.size 3 1 v' (n+1) ((Zj rows m (k+1)).map (Value.int .i64)):=by
    rw [HX.out,List.map_append]
    exact hown'
   have bn:Below w.heap.size w wn:=(hbw.alloc hsz _).grown hgrow (by simp;omega) (fun k hk=>(hr.lt k hk).1)
   have pP2:Blk wn w.heap.size 25 [.slice a len cap]:=(Zq _ pP).kept hgrow (Z4 hr pP (by decide))
   have pS2:Blk wn (w.heap.size+1) 74 [.slice a0 n0 c0,.slice a1 n1 c1,.slice a2 n2 c2,.slice a3 n3 c3]:=(Zq _ pS).kept hgrow (Z4 hr pS (by decide))
   clear hown' hgrow hr hbw HX pP pS
   go_wp2
   go_roundw
   case rel=>exact ⟨k+1,n+1,_,rfl,by omega,by go_num,HN2,R,pP2,pS2,bn⟩
   case measure=>simp [intOf];omega
  obtain rfl:k=3:=by omega
  obtain ⟨a',c',rfl⟩:∃ a c,so=.slice a n c:=by
   rcases hr.2 with ⟨rfl,rfl⟩ | ⟨g',cap',cur,hv,_⟩
   ·exact ⟨none,0,rfl⟩
   exact ⟨_,cap',hv⟩
  clear kC hM
  go_wp2
  go_ret
  exact ⟨⟨(a',n,c'),rfl,hr⟩,hbw⟩

theorem SE (a:Option Addr) (len cap:Nat) (rows:List (List I3)) (s:S4) (m:V4) (cs:Sl × Sl × Sl) (w:World) (hl:len=3) (hR:Z6 w a cs rows) (h:Yk w s m) (hp:Zn rows=true) (hs:Zk m=true) :
  Calls Tryz.prog 179 #[.agg #[.slice a len cap],s.val] w fun e w'=>e=.returned (.bool (Xh rows m))∧Below w.heap.size w w':=by
 have kE:=fun (W:World) (hR:Z6 W a cs rows) (h:Yk W s m)=>Xw a len cap rows s m cs W hl hR h hp hs
 have kD:=fun (W:World) (hR:Z6 W a cs rows) (h:Yk W s m) (k:Nat) (hk:k<3)=>UQ (cap:=cap) hl hR h hs hk
 have hM:=fun (W:World) (hb:Below w.heap.size w W)=>h.below hb
 obtain ⟨fin,hfin⟩:∃ fin,fin=Xh rows m:=⟨_,rfl⟩
 rw [← hfin]
 have HF:Hid (fin=(decide (Zj rows m 3=[]) && XX rows m 0)):=hfin
 clear hfin
 obtain ⟨⟨a0,n0,c0⟩,⟨a1,n1,c1⟩,⟨a2,n2,c2⟩,⟨a3,n3,c3⟩⟩:=s
 have uA:S4.val ((a0,n0,c0),(a1,n1,c1),(a2,n2,c2),(a3,n3,c3))=.agg #[.slice a0 n0 c0,.slice a1 n1 c1,.slice a2 n2 c2,.slice a3 n3 c3]:=rfl
 rw [uA] at kE kD ⊢
 clear uA h hl
 have bw:Below w.heap.size w ((w.alloc (.cells #[.slice a len cap] 25)).alloc (.cells #[.slice a0 n0 c0,.slice a1 n1 c1,.slice a2 n2 c2,.slice a3 n3 c3] 74)):=by go_grown
 have pP:Blk ((w.alloc (.cells #[.slice a len cap] 25)).alloc (.cells #[.slice a0 n0 c0,.slice a1 n1 c1,.slice a2 n2 c2,.slice a3 n3 c3] 74)) w.heap.size 25 [.slice a len cap]:=Zq _ (Zo _ _ _ rfl)
 have pS:Blk ((w.alloc (.cells #[.slice a len cap] 25)).alloc (.cells #[.slice a0 n0 c0,.slice a1 n1 c1,.slice a2 n2 c2,.slice a3 n3 c3] 74)) (w.heap.size+1) 74 [.slice a0 n0 c0,.slice a1 n1 c1,.slice a2 n2 c2,.slice a3 n3 c3]:=Zo _ _ _ (by simp)
 go_enter Tryz.func179,Tryz.ntmps179
 go_wp2_with fail
 refine (kE _ (hR.below bw) (hM _ bw)).mono ?_
 rintro e w1 ⟨⟨⟨a',n,c'⟩,rfl,ho⟩,hb⟩
 have hn:(Zj rows m 3).length=n:=by
  have:=ho.1
  simpa using this
 replace bw:=Zb bw hb
 replace pP:=pP.below hb
 replace pS:=pS.below hb
 clear ho kE hb
 simp only
 by_cases h0:n=0
 ·subst h0
  have HL:Hid (fin=XX rows m 0):=by rw [Hid,HF.out,List.eq_nil_of_length_eq_zero hn];rfl
  clear HF hn
  go_wp2_with fail
  go_loopw [5] (fun si wr=>∃ k:Nat,k≤3∧si=.int .i64 k∧Hid (fin=XX rows m k)∧Blk wr w.heap.size 25 [.slice a len cap]∧Blk wr (w.heap.size+1) 74 [.slice a0 n0 c0,.slice a1 n1 c1,.slice a2 n2 c2,.slice a3 n3 c3]∧Below w.heap.size w wr) (fun si _=>3 - (intOf si).toNat)
  case atStart=>exact ⟨0,by omega,rfl,HL,pP,pS,bw⟩
  case round =>
   clear pP pS bw HL
   obtain ⟨k,hk,rfl,HL,pP,pS,bw⟩:=hrel
   by_cases hlt:k<3
   ·have hk3:(k:Int)<3:=by omega
    have kD1:=kD _ (hR.below bw) (hM _ bw) k hlt
    have hst:=RO rows m hlt
    have HS:Hid (XX rows m k=(!Z1 rows m k || XX rows m (k+1))):=hst
    clear hst
    have gP:=pP.cell 0
    have gS0:=pS.cell 0
    have gS1:=pS.cell 1
    have gS2:=pS.cell 2
    have gS3:=pS.cell 3
    simp only [List.getElem?_cons_zero,List.getElem?_cons_succ] at gP gS0 gS1 gS2 gS3
    cases hd:Z1 rows m k
    ·rw [hd] at kD1
     obtain rfl:fin=true:=by rw [HL.out,HS.out,hd];rfl
     clear HL HS
     go_wp2_with fail
     refine kD1.mono ?_
     rintro e w2 ⟨rfl,hb⟩
     replace bw:=Zb bw hb
     clear hb gP gS0 gS1 gS2 gS3 kD1
     go_wp2
     go_ret
     exact ⟨rfl,bw⟩
    rw [hd] at kD1
    have HL2:Hid (fin=XX rows m (k+1)):=by rw [Hid,HL.out,HS.out,hd];rfl
    clear HL HS
    go_wp2_with fail
    refine kD1.mono ?_
    rintro e w2 ⟨rfl,hb⟩
    replace bw:=Zb bw hb
    replace pP:=pP.below hb
    replace pS:=pS.below hb
    clear hb gP gS0 gS1 gS2 gS3 kD1
    go_wp2
    go_roundw
    case rel=>exact ⟨k+1,by omega,by go_num,HL2,pP,pS,bw⟩
    case measure=>simp [intOf];omega
   obtain rfl:k=3:=by omega
   obtain rfl:fin=false:=HL.out.trans (QO _ _)
   clear kD HL hM
   go_wp2
   go_ret
   exact ⟨rfl,bw⟩
 obtain rfl:fin=false:=by
  rw [HF.out,decide_eq_false]
  ·rfl
  intro e
  rw [e] at hn
  exact h0 hn.symm
 have hpos:(0:Int)<(n:Int):=by omega
 clear HF hn kD hM
 go_wp2
 go_ret
 exact ⟨rfl,bw⟩

set_option linter.unusedSimpArgs false

def smI (n:Int) (x:I3):I3:=if x.1=7 then (x.1,x.2.1,n) else x
def smN (r:List I3):Nat:=(r.take 2).length
def smR (r:List I3):List I3:=(r.take 2).map (smI (smN r))
def smJ (r:List I3) (j:Nat):List I3:=((r.take 2).take j).map (smI (smN r))++(r.take 2).drop j
theorem M2 (r:List I3):smN r≤2:=by unfold smN;rw [List.length_take];omega
theorem Ug (r:List I3):smN r=min r.length 2:=by unfold smN;rw [List.length_take];omega
theorem TQ (r:List I3) (j:Nat):(smJ r j).length=smN r:=by unfold smJ smN;simp;omega
theorem Gj (r:List I3):smJ r 0=r.take 2:=by unfold smJ;simp
theorem Fl {r:List I3} {j:Nat} (h:smN r≤j):smJ r j=smR r:=by
 unfold smJ smR
 unfold smN at h
 rw [List.take_of_length_le h,List.drop_of_length_le h,List.append_nil]
theorem M1 {r:List I3} {j:Nat} (h:j<smN r):(smJ r j).getD j (0,0,0)=(r.take 2).getD j (0,0,0):=by
 unfold smJ
 unfold smN at h
 have hl:(((r.take 2).take j).map (smI (smN r))).length=j:=by rw [List.length_map,List.length_take];omega
 simp only [List.getD]
 rw [List.getElem?_append_right (by omega),hl,Nat.sub_self,List.getElem?_drop,Nat.add_zero]
theorem Md {r:List I3} {j:Nat} (h:j<smN r):smJ r (j+1)=(smJ r j).set j (smI (smN r) ((r.take 2).getD j (0,0,0))):=by
 have h':=h
 unfold smN at h'
 have hl:(((r.take 2).take j).map (smI (smN r))).length=j:=by rw [List.length_map,List.length_take];omega
 have e:(r.take 2).getD j (0,0,0)=(r.take 2)[j]:=by simp only [List.getD,List.getElem?_eq_getElem h',Option.getD_some]
 unfold smJ
 rw [e,List.set_append_right _ _ (by omega),hl,Nat.sub_self,List.drop_eq_getElem_cons h',List.set_cons_zero,List.take_succ_eq_append_getElem h',List.map_append]
 simp
theorem M0 {x:I3} {n:Int} (h:okI x=true) (h1:1≤n) (h6:n≤6):okI (smI n x)=true:=by
 unfold smI
 split
 ·rename_i e
  unfold okI inB at h ⊢
  simp [e] at h ⊢
  omega
 exact h
theorem Sn {x:I3} {n k:Int} (h:k<n):Wn (smI n x) k n=true:=by
 unfold smI Wn
 split
 ·rename_i e
  simp only [e,if_true]
  unfold inB
  simp
  omega
 rfl
theorem FT {r:List I3} (h:ZN r=true):ZN (smR r)=true:=by
 match r,h with
 | [],_=>rfl
 | [x],h =>
  have h1:okI x=true:=by
   unfold ZN Z2 at h
   simp only [Bool.and_eq_true] at h
   exact h.2.1.1
  show ZN [smI 1 x]=true
  unfold ZN Z2 Z2
  rw [M0 h1 (by omega) (by omega)]
  have:=Sn (x:=x) (n:=1) (k:=0) (by omega)
  simp only [List.length_cons,List.length_nil]
  simp [this]
 | x::y::rs,h =>
  have h1:okI x=true∧okI y=true:=by
   unfold ZN Z2 Z2 at h
   simp only [Bool.and_eq_true] at h
   exact ⟨h.2.1.1,h.2.2.1.1⟩
  show ZN [smI 2 x,smI 2 y]=true
  unfold ZN Z2 Z2 Z2
  rw [M0 h1.1 (by omega) (by omega),M0 h1.2 (by omega) (by omega)]
  have a:=Sn (x:=x) (n:=2) (k:=0) (by omega)
  have b:=Sn (x:=y) (n:=2) (k:=1) (by omega)
  simp only [List.length_cons,List.length_nil]
  simp [a,b]
def smK (rows:List (List I3)) (k:Nat):List (List I3):=(rows.take k).map smR++rows.drop k
theorem PV (rows:List (List I3)) (k:Nat):(smK rows k).length=rows.length:=by unfold smK;simp;omega
theorem Gl (rows:List (List I3)):smK rows 0=rows:=by unfold smK;simp
theorem FS {rows:List (List I3)} {k:Nat} (h:k<rows.length):(smK rows k).getD k []=rows.getD k []:=by
 have hl:((rows.take k).map smR).length=k:=by rw [List.length_map,List.length_take];omega
 unfold smK
 simp only [List.getD]
 rw [List.getElem?_append_right (by omega),hl,Nat.sub_self,List.getElem?_drop,Nat.add_zero]
theorem Gk {rows:List (List I3)} {k:Nat} (h:k<rows.length):smK rows (k+1)=(smK rows k).set k (smR (rows.getD k [])):=by
 have hl:((rows.take k).map smR).length=k:=by rw [List.length_map,List.length_take];omega
 unfold smK
 rw [List.set_append_right _ _ (by omega),hl,Nat.sub_self,List.drop_eq_getElem_cons h,List.set_cons_zero,List.take_succ_eq_append_getElem h,List.map_append]
 simp [List.getD,h]
theorem Fm {rows:List (List I3)} (h:Zn rows=true):Te (smK rows 3):=by
 unfold Zn at h
 simp only [Bool.and_eq_true,decide_eq_true_eq,List.all_eq_true] at h
 have e:smK rows 3=rows.map smR:=by
  unfold smK
  rw [List.take_of_length_le (by omega),List.drop_of_length_le (by omega),List.append_nil]
 have hs:∀ k,(Yn (smK rows 3) k).length≤2:=fun k=>by
  rw [e]
  unfold Yn
  simp only [List.getD,List.getElem?_map]
  cases rows[k]? with
  | none=>simp
  | some r=>simp [smR,List.length_take];omega
 refine ⟨?_,Nat.le_trans (hs 0) (by omega),Nat.le_trans (hs 1) (by omega),hs 2⟩
 unfold Zn
 simp only [Bool.and_eq_true,decide_eq_true_eq,List.all_eq_true]
 rw [e]
 refine ⟨by simpa using h.1,fun r hr=>?_⟩
 obtain ⟨q,hq,rfl⟩:=List.mem_map.1 hr
 exact FT (h.2 q hq)

theorem QG:∀ (xs:List I3) (i:Nat) (z:Int),i<xs.length→(Zr xs).set (i*3+2) (.int .i64 z)=Zr (xs.set i ((xs.getD i (0,0,0)).1,(xs.getD i (0,0,0)).2.1,z))
 | [],i,z,h=>by simp at h
 | x::xs,0,z,_=>by simp [Zr,I3.cells]
 | x::xs,i+1,z,h=>by
  have ih:=QG xs i z (by simpa using h)
  have e2:(i+1)*3+2=(i*3+2)+1+1+1:=by omega
  simp only [Zr,List.flatMap_cons,I3.cells,List.cons_append,List.nil_append] at ih ⊢
  rw [e2]
  simp only [List.set_cons_succ,List.flatMap_cons,I3.cells,List.cons_append,List.nil_append]
  rw [ih]
  simp
theorem W6 {w:World} {B B' e e' s s' n n' g c:Nat} {v:Value} {xs ys:List Value} (h:w.ownsRow B e s v n xs) (h':w.ownsRow B' e' s' (.slice (some ⟨g,0,none⟩) n' c) n' ys) (he:e≠e'):v.ownBlock≠some g:=by
 rcases h'.2 with ⟨q,_⟩ | ⟨g',c',cur',q,_,hh',_⟩
 ·cases q
 cases q
 rcases h.2 with ⟨q,_⟩ | ⟨g2,c2,cur2,q,_,hh,_⟩
 ·rw [q];simp [Value.ownBlock]
 rw [q]
 simp only [Value.ownBlock,ne_eq,Option.some.injEq]
 rintro rfl
 rw [hh] at hh'
 simp at hh'
 exact he hh'.2
theorem Xo {α:Type} (l:List α) (k t:Nat) (x d:α):(l.set k x).getD t d=if t=k∧k<l.length then x else l.getD t d:=by
 simp only [List.getD,List.getElem?_set]
 by_cases h:k=t
 ·subst h
  by_cases h2:k<l.length
  ·simp [h2]
  simp [h2]
 rw [if_neg h,if_neg (fun q=>h q.1.symm)]
theorem XM.put {w:World} {B:Nat} {vs:List Value} {rows:List (List I3)} (h:XM w B vs rows) {k:Nat} (hk:k<rows.length) {nv:Value} {xs:List I3} (hn:w.ownsRow B 122 3 nv xs.length (Zr xs)) (hd:∀ t,t<rows.length→t≠k→nv.ownBlock=none∨nv.ownBlock≠(vs.getD t undef).ownBlock):XM w B (vs.set k nv) (rows.set k xs):=by
 obtain ⟨h1,h2,h3⟩:=h
 refine ⟨by simp [h1],fun t ht=>?_,fun t t' ht ht' hne=>?_⟩
 ·rw [List.length_set] at ht
  rw [Xo,Xo]
  by_cases e:t=k
  ·rw [if_pos ⟨e,by omega⟩,if_pos ⟨e,hk⟩];exact hn
  rw [if_neg (fun q=>e q.1),if_neg (fun q=>e q.1)];exact h2 t ht
 rw [List.length_set] at ht ht'
 rw [Xo,Xo]
 by_cases e:t=k
 ·rw [if_pos ⟨e,by omega⟩,if_neg (fun q=>hne (e.trans q.1.symm))]
  exact hd t' ht' (fun q=>hne (e.trans q.symm))
 rw [if_neg (fun q=>e q.1)]
 by_cases e':t'=k
 ·rw [if_pos ⟨e',by omega⟩]
  rcases hd t ht e with q | q
  ·rw [q]
   cases hb:(vs.getD t undef).ownBlock with
   | none=>exact .inl rfl
   | some x=>exact .inr (by simp)
  exact .inr (fun x=>q x.symm)
 rw [if_neg (fun q=>e' q.1)];exact h3 t t' ht ht' hne
theorem XM.grown6 {w w':World} {B:Nat} {vs:List Value} {rows:List (List I3)} {g:Nat} (h:XM w B vs rows) (hg:w.grownBy w' (some g)) (hne:∀ t,t<rows.length→(vs.getD t undef).ownBlock≠some g):XM w' B vs rows:=
 ⟨h.1,fun t ht=>(h.2.1 t ht).kept hg (.inr (hne t ht)),h.2.2⟩
def Z5 (w:World) (B g c:Nat) (vs:List Value) (rows:List (List I3)):Prop:=w.ownsRow B 62 1 (.slice (some ⟨g,0,none⟩) 3 c) 3 vs∧XM w B vs rows∧rows.length=3
theorem Z5.below {w w':World} {B g c:Nat} {vs:List Value} {rows:List (List I3)} (h:Z5 w B g c vs rows) (hb:Below w.heap.size w w'):Z5 w' B g c vs rows:=⟨Ze h.1 hb,h.2.1.below hb,h.2.2⟩
theorem Z5.cell {w:World} {B g c:Nat} {vs:List Value} {rows:List (List I3)} (h:Z5 w B g c vs rows) {k:Nat} (hk:k<3):w.cell? ⟨g,k,none⟩=some (vs.getD k undef):=by
 rw [h.1.cellAt k (by omega)]
 have:=h.2.1.1
 have:=h.2.2
 simp [List.getD,show k<vs.length by omega]
theorem Z5.own {w:World} {B g c:Nat} {vs:List Value} {rows:List (List I3)} (h:Z5 w B g c vs rows):YU w B (.slice (some ⟨g,0,none⟩) 3 c) rows:=by
 obtain ⟨h1,h2,h3⟩:=h
 exact ⟨vs,by rw [h3];exact h1,h2⟩
theorem Z5.of {w:World} {B:Nat} {v:Value} {rows:List (List I3)} (h:YU w B v rows) (h3:rows.length=3):∃ g c vs,v=.slice (some ⟨g,0,none⟩) 3 c∧Z5 w B g c vs rows:=by
 obtain ⟨vs,h1,h2⟩:=h
 rw [h3] at h1
 rcases h1.2 with ⟨q,q0⟩ | ⟨g,c,cur,q,_⟩
 ·omega
 subst q
 exact ⟨g,c,vs,rfl,h1,h2,h3⟩
theorem Z5.lay {w:World} {B g c:Nat} {vs:List Value} {rows:List (List I3)} (h:Z5 w B g c vs rows) {k:Nat} (hk:k<3) {nv:Value} {xs:List I3} (hn:w.ownsRow B 122 3 nv xs.length (Zr xs)) (hd:∀ t,t<3→nv.ownBlock=none∨nv.ownBlock≠(vs.getD t undef).ownBlock):Z5 (w.setCell ⟨g,k,none⟩ nv) B g c (vs.set k nv) (rows.set k xs):=by
 obtain ⟨h1,h2,h3⟩:=h
 have hg:=(h1.stored k nv).2
 refine ⟨(h1.stored k nv).1,(h2.put (by omega) hn (fun t ht _=>hd t (by omega))).grown6 hg (fun t ht=>?_),by simp [h3]⟩
 rw [Xo]
 split
 ·exact W6 hn h1 (by decide)
 rw [List.length_set] at ht
 exact W6 (h2.2.1 t ht) h1 (by decide)
theorem Z5.turn {w:World} {B g c b n cc:Nat} {vs:List Value} {rows:List (List I3)} (h:Z5 w B g c vs rows) {k i:Nat} (hk:k<3) (hv:vs.getD k undef=.slice (some ⟨b,0,none⟩) n cc) (hi:i<(rows.getD k []).length) (z:Int) :
  Z5 (w.setCell ⟨b,i*3+2,none⟩ (.int .i64 z)) B g c vs (rows.set k ((rows.getD k []).set i (((rows.getD k []).getD i (0,0,0)).1,((rows.getD k []).getD i (0,0,0)).2.1,z))):=by
 obtain ⟨h1,h2,h3⟩:=h
 have hr:=h2.2.1 k (by omega)
 rw [hv] at hr
 have hn:n=(rows.getD k []).length:=by
  rcases hr.2 with ⟨q,_⟩ | ⟨g',c',cur',q,_⟩
  ·cases q
  cases q;rfl
 subst hn
 obtain ⟨s1,s2⟩:=hr.stored (i*3+2) (.int .i64 z)
 rw [QG _ _ _ hi] at s1
 have hbg:b≠g:=fun e=>W6 hr h1 (by decide) (by simp [Value.ownBlock,e])
 have hvs:vs.length=3:=by rw [h2.1];exact h3
 refine ⟨h1.kept s2 (.inr (by simp [Value.ownBlock];omega)),⟨by simp [h2.1],fun t ht=>?_,fun t t' ht ht' hne=>h2.2.2 t t' (by simpa using ht) (by simpa using ht') hne⟩,by simp [h3]⟩
 rw [List.length_set] at ht
 rw [Xo]
 by_cases e:t=k
 ·rw [if_pos ⟨e,by omega⟩,e,hv,List.length_set]
  exact s1
 rw [if_neg (fun q=>e q.1)]
 refine (h2.2.1 t ht).kept s2 (.inr ?_)
 rcases h2.2.2 t k ht (by omega) e with q | q
 ·rw [q];simp
 rw [hv] at q;exact q
theorem Ki (xs:List I3):∀ u ∈ Zr xs,u.oneCell'=true:=fun u hu=>by
 unfold Zr at hu
 obtain ⟨x,_,hx⟩:=List.mem_flatMap.1 hu
 simp [I3.cells] at hx
 rcases hx with rfl | rfl | rfl<;>rfl
theorem QE:∀ (xs:List I3) (j:Nat),j<xs.length→(Zr xs)[j*3]?=some (.int .i64 (xs.getD j (0,0,0)).1)
 | [],j,h=>by simp at h
 | x::xs,0,_=>by simp [Zr,I3.cells]
 | x::xs,j+1,h=>by
  have ih:=QE xs j (by simpa using h)
  have e2:(j+1)*3=j*3+1+1+1:=by omega
  simp only [Zr,List.flatMap_cons,I3.cells,List.cons_append,List.nil_append] at ih ⊢
  rw [e2]
  simp only [List.getElem?_cons_succ]
  rw [ih]
  simp
theorem K4 {w:World} {B b n c:Nat} {r:List I3} (h:w.ownsRow B 122 3 (.slice (some ⟨b,0,none⟩) n c) n (Zr r)):∀ j u,(Zr (r.take 2))[j]?=some u→w.cell? ((⟨b,0,none⟩:Addr).add j)=some u:=fun j u hj=>by
 have e:Zr r=Zr (r.take 2)++Zr (r.drop 2):=by unfold Zr;rw [← List.flatMap_append,List.take_append_drop]
 have hl:=(List.getElem?_eq_some_iff.1 hj).1
 have h1:(Zr r)[j]?=some u:=by rw [e,List.getElem?_append_left hl];exact hj
 have h2:=(List.getElem?_eq_some_iff.1 h1).1
 have h3:=h.1
 have h4:=h.cellAt j (by omega)
 rw [h1] at h4
 by_cases e0:j=0
 ·subst e0;simpa [Addr.add] using h4
 simpa [Addr.add,e0] using h4
theorem Gh {r:List I3} {j:Nat} (h:j<smN r) (h7:((r.take 2).getD j (0,0,0)).1≠7):smJ r (j+1)=smJ r j:=by
 rw [Md h]
 have e:smI (smN r) ((r.take 2).getD j (0,0,0))=(smJ r j).getD j (0,0,0):=by rw [M1 h];unfold smI;rw [if_neg h7]
 rw [e]
 have hl:j<(smJ r j).length:=by rw [TQ];exact h
 simp only [List.getD,List.getElem?_eq_getElem hl,Option.getD_some]
 exact List.set_getElem_self hl
theorem Gi {r:List I3} {j:Nat} (h:j<smN r) (h7:((r.take 2).getD j (0,0,0)).1=7):(smJ r j).set j (((smJ r j).getD j (0,0,0)).1,((smJ r j).getD j (0,0,0)).2.1,(smN r:Int))=smJ r (j+1):=by
 rw [Md h,M1 h]
 unfold smI
 rw [if_pos h7]
theorem Z5.low {w w':World} {B g c R:Nat} {vs:List Value} {rows:List (List I3)} (h:Z5 w B g c vs rows) (hg:w.grownBy w' (some R)) (hR:R<B):Z5 w' B g c vs rows:=by
 obtain ⟨h1,h2,h3⟩:=h
 refine ⟨h1.kept hg (.inr fun e=>?_),h2.grown6 hg (fun t ht e=>?_),h3⟩
 ·have:=(h1.lt R e).1;omega
 have:=((h2.2.1 t ht).lt R e).1;omega
theorem Hx {w:World} {B N n:Nat} {v:Value} {xs:List Value} (h:w.ownsRow B 122 3 v n xs) (hb:v.ownBlock=some N):∃ c,v=.slice (some ⟨N,0,none⟩) n c:=by
 rcases h.2 with ⟨q,_⟩ | ⟨g,c,cur,q,_⟩
 ·rw [q] at hb;cases hb
 subst q;simp [Value.ownBlock] at hb;subst hb;exact ⟨c,rfl⟩
theorem Z5.apart {w:World} {B g c N t:Nat} {vs:List Value} {rows:List (List I3)} (h:Z5 w B g c vs rows) (hN:w.heap.size≤N) (ht:t<3):(some N:Option Nat)=none∨some N≠(vs.getD t undef).ownBlock:=by
 obtain ⟨h1,h2,h3⟩:=h
 exact .inr fun e=>by have:=((h2.2.1 t (by omega)).lt N e.symm).2;omega
theorem Z5.row {w:World} {B g c:Nat} {vs:List Value} {rows:List (List I3)} {k:Nat} {r:List I3} (h:Z5 w B g c vs (rows.set k r)) (hk:k<rows.length):w.ownsRow B 122 3 (vs.getD k undef) r.length (Zr r):=by
 have:=h.2.1.2.1 k (by rw [List.length_set];exact hk)
 rwa [Xo,if_pos ⟨rfl,hk⟩] at this
theorem Z5.turn7 {w:World} {B g c b n cc:Nat} {vs:List Value} {rows:List (List I3)} {k j:Nat} {r:List I3} (h:Z5 w B g c vs (rows.set k (smJ r j))) (hk:k<3) (hl:rows.length=3) (hv:vs.getD k undef=.slice (some ⟨b,0,none⟩) n cc) (hj:j<smN r) (h7:((r.take 2).getD j (0,0,0)).1=7) :
  Z5 (w.setCell ⟨b,j*3+2,none⟩ (.int .i64 (smN r:Int))) B g c vs (rows.set k (smJ r (j+1))):=by
 have e:(rows.set k (smJ r j)).getD k []=smJ r j:=by rw [Xo,if_pos ⟨rfl,by omega⟩]
 have h2:=h.turn (i:=j) hk hv (by rw [e,TQ];exact hj) (smN r:Int)
 rw [e,Gi hj h7,List.set_set] at h2
 exact h2
end Go.Proofs.YtmhlokahmblboaaGreatDoor
