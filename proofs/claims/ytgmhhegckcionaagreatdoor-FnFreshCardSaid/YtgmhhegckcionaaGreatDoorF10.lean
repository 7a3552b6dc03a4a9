/-
  Joined: MachE, SpecC, SpecE.
-/
import Derived.Test.YtgmhhegckcionaaGreatDoorF09

namespace Go.Proofs.YtgmhhegckcionaaGreatDoor
set_option maxRecDepth 100000
set_option maxHeartbeats 16000000
open Go.RowKit

theorem Vl {rows:List (List I3)} {m:V4} {k:Nat} (h:YH rows m k=true):Zm rows m (k+1)=Zm rows m k++[(k:Int)]:=by simp [Zm,h]
theorem XN {rows:List (List I3)} {m:V4} {k:Nat} (h:YH rows m k=false):Zm rows m (k+1)=Zm rows m k:=by simp [Zm,h]
theorem YM (rows:List (List I3)) (m:V4):∀ k,(Zm rows m k).length≤k
 | 0=>by simp [Zm]
 | k+1=>by
  have:=YM rows m k
  unfold Zm
  split
  ·simp;omega
  omega

theorem Vx (g:Nat) (cs:Sl × Sl × Sl) (rows:List (List I3)) (m:V4) (w:World) (h:ZO w g cs rows m) (hp:Zf rows=true) (hs:Zc m=true) :
  Calls Tryz.prog 124 #[.pointer (some ⟨g,0,none⟩)] w fun e w'=>(∃ s:Sl,e=.returned (.slice s.1 s.2.1 s.2.2)∧Z0 w' w.heap.size s (Zm rows m 3))∧Below w.heap.size w w':=by
 obtain ⟨i0,hi,hz0,hz1,hz2⟩:=info_parts XQ
 have kD:=fun (W:World) (hM:ZO W g cs rows m) (k:Nat) (hk:k<3)=>U9 hM hk
 have kW:=fun (W:World) (hM:ZO W g cs rows m) (k:Nat) (hk:k<3)=>Po hM hp hs hk
 go_enter Tryz.func124,Tryz.ntmps124
 go_wp2_with fail
 go_loopw [3,5] (fun so si wr=>∃ (k:Nat) (n:Nat) (v:Value),v=so∧k≤3∧si=.int .i64 k∧Hid (n=(Zm rows m k).length)∧wr.ownsRow w.heap.size 3 1 v n ((Zm rows m k).map (Value.int .i64))∧Below w.heap.size w wr) (fun _ si _=>3 - (intOf si).toNat)
 case atStart=>exact ⟨0,0,_,rfl,by omega,rfl,rfl,World.ownsRow_nil _ _ _ _,Below.refl _ _⟩
 case round =>
  obtain ⟨k,n,so,rfl,hk,rfl,HN,hr,hbw⟩:=hrel
  have hM:=h.below hbw
  by_cases hlt:k<3
  ·have hk3:(k:Int)<3:=by omega
   have kD1:=kD _ hM k hlt
   have hsz:=hbw.size
   cases hd:Ya rows m k
   ·rw [hd] at kD1
    go_wp2_with fail
    refine kD1.mono ?_
    rintro e w1 ⟨rfl,d,rfl⟩
    replace hM:ZO (wr.drewN d) g cs rows m:=hM.below (ZU _)
    replace hr:(wr.drewN d).ownsRow w.heap.size 3 1 so n ((Zm rows m k).map (Value.int .i64)):=hr
    replace hbw:Below w.heap.size w (wr.drewN d):=Zb hbw (ZU _)
    replace hsz:w.heap.size≤(wr.drewN d).heap.size:=hsz
    generalize wr.drewN d=W1 at *
    have kW1:=kW _ hM k hlt
    clear kD1
    cases hw:UO rows m k
    ·have hcan:YH rows m k=true:=by
      unfold UO at hw
      unfold YH
      rw [hd] at hw ⊢
      simpa using hw
     rw [hw] at kW1
     go_wp2_with fail
     refine kW1.mono ?_
     rintro e w2 ⟨rfl,hb⟩
     replace hM:=hM.below hb
     replace hr:=Zs hr hb
     replace hbw:=Zb hbw hb
     replace hsz:=hbw.size
     clear hb kW1
     have hn3:n≤3:=by have:=YM rows m k;have:=HN.out;omega
     have HN2:Hid (n+1=(Zm rows m (k+1)).length):=by rw [Hid,Vl hcan,List.length_append,← HN.out];rfl
     have HX:Hid (Zm rows m (k+1)=Zm rows m k++[(k:Int)]):=Vl hcan
     go_wp2_with (at_builtin;refine wpList_append_own _ rfl _ _ 36 rfl w.heap.size 3 i0 (.int .i64 0) 1 8 Tryz.underlying36 hi hz0 hz1 hz2 rfl (by decide) _ _ _ rfl (hr.alloc _) ⟨w2.heap.size,0,none⟩ 1 1 [.int .i64 (k:Int)] rfl rfl (cell_one_new _ _ _) (by simp [Value.oneCell']) ?c3 ?c4 ?c5 ?_)
     case c3=>unfold maxLen;omega
     case c4=>omega
     case c5=>simp;omega
     intro v' wn hown' hgrow _
     have R:wn.ownsRow w.heap.size 3 1 v' (n+1) ((Zm rows m (k+1)).map (Value.int .i64)):=by
      rw [HX.out,List.map_append]
      exact hown'
     have bn:Below w.heap.size w wn:=(hbw.alloc hsz _).grown hgrow (by simp;omega) (fun k hk=>(hr.lt k hk).1)
     clear hown' hgrow hr hbw hM HX
     go_wp2
     go_roundw
     case rel=>exact ⟨k+1,n+1,_,rfl,by omega,by go_num,HN2,R,bn⟩
     case measure=>simp [intOf];omega
    have hcan:YH rows m k=false:=by
     unfold UO at hw
     unfold YH
     rw [hd] at hw ⊢
     simpa using hw
    rw [hw] at kW1
    have HN2:Hid (n=(Zm rows m (k+1)).length):=by rw [Hid,XN hcan];exact HN.out
    rw [← XN hcan] at hr
    go_wp2_with fail
    refine kW1.mono ?_
    rintro e w2 ⟨rfl,hb⟩
    replace hM:=hM.below hb
    replace hr:=Zs hr hb
    replace hbw:=Zb hbw hb
    clear hb kW1
    go_wp2
    go_roundw
    case rel=>exact ⟨k+1,n,_,rfl,by omega,by go_num,HN2,hr,hbw⟩
    case measure=>simp [intOf];omega
   have hcan:YH rows m k=false:=by unfold YH;rw [hd];rfl
   rw [hd] at kD1
   have HN2:Hid (n=(Zm rows m (k+1)).length):=by rw [Hid,XN hcan];exact HN.out
   rw [← XN hcan] at hr
   go_wp2_with fail
   refine kD1.mono ?_
   rintro e w1 ⟨rfl,d,rfl⟩
   replace hM:ZO (wr.drewN d) g cs rows m:=hM.below (ZU _)
   replace hr:(wr.drewN d).ownsRow w.heap.size 3 1 so n ((Zm rows m (k+1)).map (Value.int .i64)):=hr
   replace hbw:Below w.heap.size w (wr.drewN d):=Zb hbw (ZU _)
   generalize wr.drewN d=W1 at *
   go_wp2
   go_roundw
   case rel=>exact ⟨k+1,n,_,rfl,by omega,by go_num,HN2,hr,hbw⟩
   case measure=>simp [intOf];omega
  obtain rfl:k=3:=by omega
  obtain ⟨a,c,rfl⟩:∃ a c,so=.slice a n c:=by
   rcases hr.2 with ⟨rfl,rfl⟩ | ⟨g',cap,cur,hv,_⟩
   ·exact ⟨none,0,rfl⟩
   exact ⟨_,cap,hv⟩
  clear kD kW hM
  go_wp2
  go_ret
  exact ⟨⟨(a,n,c),rfl,hr⟩,hbw⟩

theorem stuck_is (g:Nat) (cs:Sl × Sl × Sl) (rows:List (List I3)) (m:V4) (w:World) (h:ZO w g cs rows m) (hp:Zf rows=true) (hs:Zc m=true) :
  Calls Tryz.prog 159 #[.pointer (some ⟨g,0,none⟩)] w fun e w'=>e=.returned (.bool (YS rows m))∧Below w.heap.size w w':=by
 have kE:=Vx g cs rows m w h hp hs
 have kD:=fun (W:World) (hM:ZO W g cs rows m) (k:Nat) (hk:k<3)=>U9 hM hk
 obtain ⟨fin,hfin⟩:∃ fin,fin=YS rows m:=⟨_,rfl⟩
 rw [← hfin]
 have HF:Hid (fin=(decide (Zm rows m 3=[]) && XD rows m 0)):=hfin
 clear hfin
 go_enter Tryz.func159,Tryz.ntmps159
 go_wp2_with fail
 refine kE.mono ?_
 rintro e w1 ⟨⟨⟨a,n,c⟩,rfl,ho⟩,hb⟩
 have hn:(Zm rows m 3).length=n:=by
  have:=ho.1
  simpa using this
 clear ho kE
 simp only
 by_cases h0:n=0
 ·subst h0
  have HL:Hid (fin=XD rows m 0):=by rw [Hid,HF.out,List.eq_nil_of_length_eq_zero hn];rfl
  clear HF hn
  go_wp2_with fail
  go_loopw [8] (fun si wr=>∃ k:Nat,k≤3∧si=.int .i64 k∧Hid (fin=XD rows m k)∧Below w.heap.size w wr) (fun si _=>3 - (intOf si).toNat)
  case atStart=>exact ⟨0,by omega,rfl,HL,hb⟩
  case round =>
   clear hb HL
   obtain ⟨k,hk,rfl,HL,hbw⟩:=hrel
   by_cases hlt:k<3
   ·have hk3:(k:Int)<3:=by omega
    have kD1:=kD _ (h.below hbw) k hlt
    have hst:=Xm rows m hlt
    have HS:Hid (XD rows m k=(!Ya rows m k || XD rows m (k+1))):=hst
    clear hst
    cases hd:Ya rows m k
    ·rw [hd] at kD1
     obtain rfl:fin=true:=by rw [HL.out,HS.out,hd];rfl
     clear HL HS
     go_wp2_with fail
     refine kD1.mono ?_
     rintro e w2 ⟨rfl,d,rfl⟩
     replace hbw:Below w.heap.size w (wr.drewN d):=Zb hbw (ZU _)
     go_wp2
     go_ret
     exact ⟨rfl,hbw⟩
    rw [hd] at kD1
    have HL2:Hid (fin=XD rows m (k+1)):=by rw [Hid,HL.out,HS.out,hd];rfl
    clear HL HS
    go_wp2_with fail
    refine kD1.mono ?_
    rintro e w2 ⟨rfl,d,rfl⟩
    replace hbw:Below w.heap.size w (wr.drewN d):=Zb hbw (ZU _)
    generalize wr.drewN d=W1 at *
    go_wp2
    go_roundw
    case rel=>exact ⟨k+1,by omega,by go_num,HL2,hbw⟩
    case measure=>simp [intOf];omega
   obtain rfl:k=3:=by omega
   obtain rfl:fin=false:=HL.out.trans (Ue _ _)
   clear kD HL
   go_wp2
   go_ret
   exact ⟨rfl,hbw⟩
 obtain rfl:fin=false:=by
  rw [HF.out,decide_eq_false]
  ·rfl
  intro e
  rw [e] at hn
  exact h0 hn.symm
 have hpos:(0:Int)<(n:Int):=by omega
 clear HF hn kD
 go_wp2
 go_ret
 exact ⟨rfl,hb⟩


theorem Te (b off len cap b0 o0 c0:Nat) (a1:Option Addr) (n1 c1:Nat) (a2:Option Addr) (n2 c2:Nat) (a3:Option Addr) (n3 c3 k:Nat) (ca:Option Addr) (cn cc:Nat) (pc:Int) (w:World) (hk:k<3) (hlen:len=3)
  (r0:w.cell? ⟨b,off+k,none⟩=some (.slice ca cn cc)) (r1:w.cell? ⟨b0,o0+k,none⟩=some (.int .i64 pc)) :
  Calls Tryz.prog 169 #[.agg #[.slice (some ⟨b,off,none⟩) len cap],.agg #[.slice (some ⟨b0,o0,none⟩) 3 c0,.slice a1 n1 c1,.slice a2 n2 c2,.slice a3 n3 c3],.int .i64 k] w fun e w'=>e=.returned (.bool (decide ((cn:Int)≤pc)))∧Below w.heap.size w w':=by
 obtain ⟨x,hx⟩:∃ x,x=decide ((cn:Int)≤pc):=⟨_,rfl⟩
 have hd:decide ((cn:Int)≤pc)=x:=hx.symm
 rw [← hx]
 clear hx
 have hk3:(k:Int)<3:=by omega
 have hkl:(k:Int)<(len:Int):=by omega
 clear hlen
 have bw:Below w.heap.size w ((w.alloc (.cells #[.slice (some ⟨b,off,none⟩) len cap] 25)).alloc (.cells #[.slice (some ⟨b0,o0,none⟩) 3 c0,.slice a1 n1 c1,.slice a2 n2 c2,.slice a3 n3 c3] 88)):=by go_grown
 have g0:((w.alloc (.cells #[.slice (some ⟨b,off,none⟩) len cap] 25)).alloc (.cells #[.slice (some ⟨b0,o0,none⟩) 3 c0,.slice a1 n1 c1,.slice a2 n2 c2,.slice a3 n3 c3] 88)).cell? ⟨w.heap.size,0,none⟩=some (.slice (some ⟨b,off,none⟩) len cap):=by simp [go_sem]
 have g1:((w.alloc (.cells #[.slice (some ⟨b,off,none⟩) len cap] 25)).alloc (.cells #[.slice (some ⟨b0,o0,none⟩) 3 c0,.slice a1 n1 c1,.slice a2 n2 c2,.slice a3 n3 c3] 88)).cell? ⟨w.heap.size+1,0,none⟩=some (.slice (some ⟨b0,o0,none⟩) 3 c0):=by simp [go_sem]
 replace r0:=Za bw _ _ r0
 replace r1:=Za bw _ _ r1
 go_enter Tryz.func169,Tryz.ntmps169
 go_wp2_with fail
 generalize ((w.alloc (.cells #[.slice (some ⟨b,off,none⟩) len cap] 25)).alloc (.cells #[.slice (some ⟨b0,o0,none⟩) 3 c0,.slice a1 n1 c1,.slice a2 n2 c2,.slice a3 n3 c3] 88))=W at *
 go_quiet (fail)
 have bz:Below w.heap.size w (W.drewN nq):=Zb bw (ZU _)
 go_wp2
 go_ret
 exact ⟨rfl,bz⟩

theorem QE {w:World} {a:Option Addr} {len cap:Nat} {cs:Sl × Sl × Sl} {rows:List (List I3)} {s:S4} {m:V4} (hl:len=3) (hR:Yi w a cs rows) (h:Xd w s m) (hs:Zc m=true) {k:Nat} (hk:k<3) :
  Calls Tryz.prog 169 #[.agg #[.slice a len cap],s.val,.int .i64 k] w fun e w'=>e=.returned (.bool (Ya rows m k))∧Below w.heap.size w w':=by
 obtain ⟨b,off,rfl,_,hrow⟩:=hR
 obtain ⟨r0,hI⟩:=hrow k hk
 obtain ⟨⟨j0,_⟩,_⟩:=h
 obtain ⟨l0,_⟩:=ZS hs
 obtain ⟨⟨a0,n0,c0⟩,⟨a1,n1,c1⟩,⟨a2,n2,c2⟩,⟨a3,n3,c3⟩⟩:=s
 simp only at j0
 obtain ⟨rfl,b0,o0,rfl⟩:=ZA j0 l0 (by decide)
 have r1:=YO j0 (t:=k) hk
 unfold Ya
 rw [hI.1]
 exact Te b off len cap b0 o0 c0 a1 n1 c1 a2 n2 c2 a3 n3 c3 k _ _ _ _ w hk hl r0 r1

theorem MY (b off len cap b0 o0 c0:Nat) (a1:Option Addr) (n1 c1:Nat) (a2:Option Addr) (n2 c2:Nat) (a3:Option Addr) (n3 c3 k:Nat) (cb co cn cc p:Nat) (x0 x1 x2:Int) (w:World) (hk:k<3) (hlen:len=3) (hp:p<cn)
  (e0:w.cell? ⟨b,off+k,none⟩=some (.slice (some ⟨cb,co,none⟩) cn cc)) (e1:w.cell? ⟨b0,o0+k,none⟩=some (.int .i64 p)) (q0:w.cell? ⟨cb,co+p*3,none⟩=some (.int .i64 x0)) (q1:w.cell? ⟨cb,co+p*3+1,none⟩=some (.int .i64 x1)) (q2:w.cell? ⟨cb,co+p*3+2,none⟩=some (.int .i64 x2)) (hx:x0≠5) :
  Calls Tryz.prog 152 #[.agg #[.slice (some ⟨b,off,none⟩) len cap],.agg #[.slice (some ⟨b0,o0,none⟩) 3 c0,.slice a1 n1 c1,.slice a2 n2 c2,.slice a3 n3 c3],.int .i64 k] w fun e w'=>e=.returned (.bool true)∧Below w.heap.size w w':=by
 have kD:=fun w r0 r1=>Te b off len cap b0 o0 c0 a1 n1 c1 a2 n2 c2 a3 n3 c3 k (some ⟨cb,co,none⟩) cn cc p w hk hlen r0 r1
 rw [decide_eq_false (by omega)] at kD
 have hk3:(k:Int)<3:=by omega
 have hkl:(k:Int)<(len:Int):=by omega
 have hpn:(p:Int)<(cn:Int):=by omega
 clear hlen
 have bw:Below w.heap.size w ((w.alloc (.cells #[.slice (some ⟨b,off,none⟩) len cap] 25)).alloc (.cells #[.slice (some ⟨b0,o0,none⟩) 3 c0,.slice a1 n1 c1,.slice a2 n2 c2,.slice a3 n3 c3] 88)):=by go_grown
 have g0:((w.alloc (.cells #[.slice (some ⟨b,off,none⟩) len cap] 25)).alloc (.cells #[.slice (some ⟨b0,o0,none⟩) 3 c0,.slice a1 n1 c1,.slice a2 n2 c2,.slice a3 n3 c3] 88)).cell? ⟨w.heap.size,0,none⟩=some (.slice (some ⟨b,off,none⟩) len cap):=by simp [go_sem]
 have g1:((w.alloc (.cells #[.slice (some ⟨b,off,none⟩) len cap] 25)).alloc (.cells #[.slice (some ⟨b0,o0,none⟩) 3 c0,.slice a1 n1 c1,.slice a2 n2 c2,.slice a3 n3 c3] 88)).cell? ⟨w.heap.size+1,0,none⟩=some (.slice (some ⟨b0,o0,none⟩) 3 c0):=by simp [go_sem]
 have g2:((w.alloc (.cells #[.slice (some ⟨b,off,none⟩) len cap] 25)).alloc (.cells #[.slice (some ⟨b0,o0,none⟩) 3 c0,.slice a1 n1 c1,.slice a2 n2 c2,.slice a3 n3 c3] 88)).cell? ⟨w.heap.size+1,2,none⟩=some (.slice a2 n2 c2):=by simp [go_sem]
 replace e0:=Za bw _ _ e0
 replace e1:=Za bw _ _ e1
 replace q0:=Za bw _ _ q0
 replace q1:=Za bw _ _ q1
 replace q2:=Za bw _ _ q2
 go_enter Tryz.func152,Tryz.ntmps152
 go_wp2_with fail
 refine (kD _ e0 e1).mono ?_
 rintro e w1 ⟨rfl,hb⟩
 replace bw:=Zb bw hb
 replace g0:=Za hb _ _ g0
 replace g1:=Za hb _ _ g1
 replace g2:=Za hb _ _ g2
 replace e0:=Za hb _ _ e0
 replace e1:=Za hb _ _ e1
 replace q0:=Za hb _ _ q0
 replace q1:=Za hb _ _ q1
 replace q2:=Za hb _ _ q2
 clear hb kD
 go_wp2_with fail
 refine wp_region_held_drew (S:=(fun w'=>w'.cell? ⟨w.heap.size,0,none⟩=some (.slice (some ⟨b,off,none⟩) len cap)∧w'.cell? ⟨w.heap.size+1,0,none⟩=some (.slice (some ⟨b0,o0,none⟩) 3 c0)∧w'.cell? ⟨b,off+k,none⟩=some (.slice (some ⟨cb,co,none⟩) cn cc)∧w'.cell? ⟨b0,o0+k,none⟩=some (.int .i64 p)∧w'.cell? ⟨cb,co+p*3,none⟩=some (.int .i64 x0)∧w'.cell? ⟨cb,co+p*3+1,none⟩=some (.int .i64 x1)∧w'.cell? ⟨cb,co+p*3+2,none⟩=some (.int .i64 x2))) (by kernel_rfl) ⟨g0,g1,e0,e1,q0,q1,q2⟩ (fun hS0=>?_)
 refine tkm 0 12 (.pointer (some ⟨w.heap.size,0,none⟩)) ?_
 refine tkm 1 13 (.slice (some ⟨b,off,none⟩) len cap) ?_
 refine tkm 2 14 (.int .i64 k) ?_
 refine tkm 3 15 (.pointer (some ⟨b,off+k,none⟩)) ?_
 refine tkm 4 16 (.slice (some ⟨cb,co,none⟩) cn cc) ?_
 refine tkm 5 17 (.pointer (some ⟨w.heap.size+1,0,none⟩)) ?_
 refine tkm 6 18 (.slice (some ⟨b0,o0,none⟩) 3 c0) ?_
 refine tkm 7 19 (.int .i64 k) ?_
 refine tkm 8 20 (.pointer (some ⟨b0,o0+k,none⟩)) ?_
 refine tkm 9 21 (.int .i64 p) ?_
 refine tkm 10 22 (.pointer (some ⟨cb,co+p*3,none⟩)) ?_
 refine tkm 11 23 (.agg #[.int .i64 x0,.int .i64 x1,.int .i64 x2]) ?_
 refine tkr 12 7 (fun K hK=>?_)
 have hal:Below w1.drew.heap.size w1.drew (w1.drew.alloc (.cells #[.int .i64 0,.int .i64 0,.int .i64 0] 122)):=by go_grown
 go_simp
 refine hK.out _ _ ?_ (fun hS1=>?_)
 ·exact ⟨Za hal _ _ hS0.1,Za hal _ _ hS0.2.1,Za hal _ _ hS0.2.2.1,Za hal _ _ hS0.2.2.2.1,Za hal _ _ hS0.2.2.2.2.1,Za hal _ _ hS0.2.2.2.2.2.1,Za hal _ _ hS0.2.2.2.2.2.2⟩
 clear hK
 try simp only [Act.put,tka,tkb,tkc]
 refine tkz 13 (fun K hK=>?_)
 have hal2:Below w1.drew.heap.size w1.drew (w1.drew.alloc (.cells #[.int .i64 x0,.int .i64 x1,.int .i64 x2] 122)):=by go_grown
 go_simp
 refine hK.out _ _ ?_ (fun hS2=>?_)
 ·exact ⟨Za hal2 _ _ hS0.1,Za hal2 _ _ hS0.2.1,Za hal2 _ _ hS0.2.2.1,Za hal2 _ _ hS0.2.2.2.1,Za hal2 _ _ hS0.2.2.2.2.1,Za hal2 _ _ hS0.2.2.2.2.2.1,Za hal2 _ _ hS0.2.2.2.2.2.2⟩
 clear hK
 try simp only [Act.put,tka,tkb,tkc]
 refine wpAnyH_done (by kernel_rfl) ?_ _
 have bx:Below w1.heap.size w1 (w1.alloc (.cells #[.int .i64 x0,.int .i64 x1,.int .i64 x2] 122)).drew:=by go_grown
 have pX:Blk (w1.alloc (.cells #[.int .i64 x0,.int .i64 x1,.int .i64 x2] 122)).drew w1.heap.size 122 [.int .i64 x0,.int .i64 x1,.int .i64 x2]:=Blk.new w1 122 [.int .i64 x0,.int .i64 x1,.int .i64 x2]
 replace bw:=Zb bw bx
 replace g2:=Za bx _ _ g2
 have u0:=pX.cell 0
 have u1:=pX.cell 1
 simp only [List.getElem?_cons_zero,List.getElem?_cons_succ] at u0 u1
 clear bx hal hal2 hS0 hS1 hS2 e0 e1 q0 q1 q2 g0 g1 pX
 have hx5:(x0 != 5)=true:=by simp [hx]
 go_wp2_with fail
 generalize (w1.alloc (.cells #[.int .i64 x0,.int .i64 x1,.int .i64 x2] 122)).drew=W3 at *
 go_wp2
 go_ret
 exact ⟨rfl,bw⟩

theorem MZ (b off len cap b0 o0 c0:Nat) (a1:Option Addr) (n1 c1:Nat) (c2:Nat) (a3:Option Addr) (n3 c3 k:Nat) (cb co cn cc p:Nat) (x2:Int) (b2 o2 q:Nat) (hv:Int) (w:World) (hk:k<3) (hlen:len=3) (hp:p<cn)
  (e0:w.cell? ⟨b,off+k,none⟩=some (.slice (some ⟨cb,co,none⟩) cn cc)) (e1:w.cell? ⟨b0,o0+k,none⟩=some (.int .i64 p)) (q0:w.cell? ⟨cb,co+p*3,none⟩=some (.int .i64 5)) (q1:w.cell? ⟨cb,co+p*3+1,none⟩=some (.int .i64 q)) (q2:w.cell? ⟨cb,co+p*3+2,none⟩=some (.int .i64 x2)) (hq:q<2) (h6:w.cell? ⟨b2,o2+q,none⟩=some (.int .i64 hv)) (z:Bool) (hz:z=decide (hv=0)) :
  Calls Tryz.prog 152 #[.agg #[.slice (some ⟨b,off,none⟩) len cap],.agg #[.slice (some ⟨b0,o0,none⟩) 3 c0,.slice a1 n1 c1,.slice (some ⟨b2,o2,none⟩) 2 c2,.slice a3 n3 c3],.int .i64 k] w fun e w'=>e=.returned (.bool z)∧Below w.heap.size w w':=by
 have kD:=fun w r0 r1=>Te b off len cap b0 o0 c0 a1 n1 c1 (some ⟨b2,o2,none⟩) 2 c2 a3 n3 c3 k (some ⟨cb,co,none⟩) cn cc p w hk hlen r0 r1
 rw [decide_eq_false (by omega)] at kD
 have hk3:(k:Int)<3:=by omega
 have hkl:(k:Int)<(len:Int):=by omega
 have hpn:(p:Int)<(cn:Int):=by omega
 clear hlen
 have bw:Below w.heap.size w ((w.alloc (.cells #[.slice (some ⟨b,off,none⟩) len cap] 25)).alloc (.cells #[.slice (some ⟨b0,o0,none⟩) 3 c0,.slice a1 n1 c1,.slice (some ⟨b2,o2,none⟩) 2 c2,.slice a3 n3 c3] 88)):=by go_grown
 have g0:((w.alloc (.cells #[.slice (some ⟨b,off,none⟩) len cap] 25)).alloc (.cells #[.slice (some ⟨b0,o0,none⟩) 3 c0,.slice a1 n1 c1,.slice (some ⟨b2,o2,none⟩) 2 c2,.slice a3 n3 c3] 88)).cell? ⟨w.heap.size,0,none⟩=some (.slice (some ⟨b,off,none⟩) len cap):=by simp [go_sem]
 have g1:((w.alloc (.cells #[.slice (some ⟨b,off,none⟩) len cap] 25)).alloc (.cells #[.slice (some ⟨b0,o0,none⟩) 3 c0,.slice a1 n1 c1,.slice (some ⟨b2,o2,none⟩) 2 c2,.slice a3 n3 c3] 88)).cell? ⟨w.heap.size+1,0,none⟩=some (.slice (some ⟨b0,o0,none⟩) 3 c0):=by simp [go_sem]
 have g2:((w.alloc (.cells #[.slice (some ⟨b,off,none⟩) len cap] 25)).alloc (.cells #[.slice (some ⟨b0,o0,none⟩) 3 c0,.slice a1 n1 c1,.slice (some ⟨b2,o2,none⟩) 2 c2,.slice a3 n3 c3] 88)).cell? ⟨w.heap.size+1,2,none⟩=some (.slice (some ⟨b2,o2,none⟩) 2 c2):=by simp [go_sem]
 replace e0:=Za bw _ _ e0
 replace e1:=Za bw _ _ e1
 replace q0:=Za bw _ _ q0
 replace q1:=Za bw _ _ q1
 replace q2:=Za bw _ _ q2
 replace h6:=Za bw _ _ h6
 go_enter Tryz.func152,Tryz.ntmps152
 go_wp2_with fail
 refine (kD _ e0 e1).mono ?_
 rintro e w1 ⟨rfl,hb⟩
 replace bw:=Zb bw hb
 replace g0:=Za hb _ _ g0
 replace g1:=Za hb _ _ g1
 replace g2:=Za hb _ _ g2
 replace e0:=Za hb _ _ e0
 replace e1:=Za hb _ _ e1
 replace q0:=Za hb _ _ q0
 replace q1:=Za hb _ _ q1
 replace q2:=Za hb _ _ q2
 replace h6:=Za hb _ _ h6
 clear hb kD
 go_wp2_with fail
 refine wp_region_held_drew (S:=(fun w'=>w'.cell? ⟨w.heap.size,0,none⟩=some (.slice (some ⟨b,off,none⟩) len cap)∧w'.cell? ⟨w.heap.size+1,0,none⟩=some (.slice (some ⟨b0,o0,none⟩) 3 c0)∧w'.cell? ⟨b,off+k,none⟩=some (.slice (some ⟨cb,co,none⟩) cn cc)∧w'.cell? ⟨b0,o0+k,none⟩=some (.int .i64 p)∧w'.cell? ⟨cb,co+p*3,none⟩=some (.int .i64 5)∧w'.cell? ⟨cb,co+p*3+1,none⟩=some (.int .i64 q)∧w'.cell? ⟨cb,co+p*3+2,none⟩=some (.int .i64 x2))) (by kernel_rfl) ⟨g0,g1,e0,e1,q0,q1,q2⟩ (fun hS0=>?_)
 refine tkm 0 12 (.pointer (some ⟨w.heap.size,0,none⟩)) ?_
 refine tkm 1 13 (.slice (some ⟨b,off,none⟩) len cap) ?_
 refine tkm 2 14 (.int .i64 k) ?_
 refine tkm 3 15 (.pointer (some ⟨b,off+k,none⟩)) ?_
 refine tkm 4 16 (.slice (some ⟨cb,co,none⟩) cn cc) ?_
 refine tkm 5 17 (.pointer (some ⟨w.heap.size+1,0,none⟩)) ?_
 refine tkm 6 18 (.slice (some ⟨b0,o0,none⟩) 3 c0) ?_
 refine tkm 7 19 (.int .i64 k) ?_
 refine tkm 8 20 (.pointer (some ⟨b0,o0+k,none⟩)) ?_
 refine tkm 9 21 (.int .i64 p) ?_
 refine tkm 10 22 (.pointer (some ⟨cb,co+p*3,none⟩)) ?_
 refine tkm 11 23 (.agg #[.int .i64 5,.int .i64 q,.int .i64 x2]) ?_
 refine tkr 12 7 (fun K hK=>?_)
 have hal:Below w1.drew.heap.size w1.drew (w1.drew.alloc (.cells #[.int .i64 0,.int .i64 0,.int .i64 0] 122)):=by go_grown
 go_simp
 refine hK.out _ _ ?_ (fun hS1=>?_)
 ·exact ⟨Za hal _ _ hS0.1,Za hal _ _ hS0.2.1,Za hal _ _ hS0.2.2.1,Za hal _ _ hS0.2.2.2.1,Za hal _ _ hS0.2.2.2.2.1,Za hal _ _ hS0.2.2.2.2.2.1,Za hal _ _ hS0.2.2.2.2.2.2⟩
 clear hK
 try simp only [Act.put,tka,tkb,tkc]
 refine tkz 13 (fun K hK=>?_)
 have hal2:Below w1.drew.heap.size w1.drew (w1.drew.alloc (.cells #[.int .i64 5,.int .i64 q,.int .i64 x2] 122)):=by go_grown
 go_simp
 refine hK.out _ _ ?_ (fun hS2=>?_)
 ·exact ⟨Za hal2 _ _ hS0.1,Za hal2 _ _ hS0.2.1,Za hal2 _ _ hS0.2.2.1,Za hal2 _ _ hS0.2.2.2.1,Za hal2 _ _ hS0.2.2.2.2.1,Za hal2 _ _ hS0.2.2.2.2.2.1,Za hal2 _ _ hS0.2.2.2.2.2.2⟩
 clear hK
 try simp only [Act.put,tka,tkb,tkc]
 refine wpAnyH_done (by kernel_rfl) ?_ _
 have bx:Below w1.heap.size w1 (w1.alloc (.cells #[.int .i64 5,.int .i64 q,.int .i64 x2] 122)).drew:=by go_grown
 have pX:Blk (w1.alloc (.cells #[.int .i64 5,.int .i64 q,.int .i64 x2] 122)).drew w1.heap.size 122 [.int .i64 5,.int .i64 q,.int .i64 x2]:=Blk.new w1 122 [.int .i64 5,.int .i64 q,.int .i64 x2]
 replace bw:=Zb bw bx
 replace g2:=Za bx _ _ g2
 replace h6:=Za bx _ _ h6
 have u0:=pX.cell 0
 have u1:=pX.cell 1
 simp only [List.getElem?_cons_zero,List.getElem?_cons_succ] at u0 u1
 clear bx hal hal2 hS0 hS1 hS2 e0 e1 q0 q1 q2 g0 g1 pX
 have hq2:(q:Int)<2:=by omega
 have hv0:(hv == 0)=z:=by rw [hz];by_cases h:hv=0<;>simp [h]
 clear hz
 go_wp2_with fail
 generalize (w1.alloc (.cells #[.int .i64 5,.int .i64 q,.int .i64 x2] 122)).drew=W3 at *
 go_wp2
 go_ret
 exact ⟨rfl,bw⟩

theorem MX {w:World} {a:Option Addr} {len cap:Nat} {cs:Sl × Sl × Sl} {rows:List (List I3)} {s:S4} {m:V4} (hl:len=3) (hR:Yi w a cs rows) (h:Xd w s m) (hs:Zc m=true) {k:Nat} (hk:k<3) (hd:Ya rows m k=true) :
  Calls Tryz.prog 152 #[.agg #[.slice a len cap],s.val,.int .i64 k] w fun e w'=>e=.returned (.bool false)∧Below w.heap.size w w':=by
 have kD:=fun (W:World) (hR:Yi W a cs rows) (h:Xd W s m)=>QE (cap:=cap) hl hR h hs hk
 rw [hd] at kD
 have hM:=fun (W:World) (hb:Below w.heap.size w W)=>h.below hb
 obtain ⟨⟨a0,n0,c0⟩,⟨a1,n1,c1⟩,⟨a2,n2,c2⟩,⟨a3,n3,c3⟩⟩:=s
 have uA:S4.val ((a0,n0,c0),(a1,n1,c1),(a2,n2,c2),(a3,n3,c3))=.agg #[.slice a0 n0 c0,.slice a1 n1 c1,.slice a2 n2 c2,.slice a3 n3 c3]:=rfl
 rw [uA] at kD ⊢
 clear uA h hl
 have bw:Below w.heap.size w ((w.alloc (.cells #[.slice a len cap] 25)).alloc (.cells #[.slice a0 n0 c0,.slice a1 n1 c1,.slice a2 n2 c2,.slice a3 n3 c3] 88)):=by go_grown
 go_enter Tryz.func152,Tryz.ntmps152
 go_wp2_with fail
 refine (kD _ (hR.below bw) (hM _ bw)).mono ?_
 rintro e w1 ⟨rfl,hb⟩
 replace bw:=Zb bw hb
 go_wp2
 go_ret
 exact ⟨rfl,bw⟩

theorem HA {w:World} {a:Option Addr} {len cap:Nat} {cs:Sl × Sl × Sl} {rows:List (List I3)} {s:S4} {m:V4} (hl:len=3) (hR:Yi w a cs rows) (h:Xd w s m) (hp:Zf rows=true) (hs:Zc m=true) {k:Nat} (hk:k<3) :
  Calls Tryz.prog 152 #[.agg #[.slice a len cap],s.val,.int .i64 k] w fun e w'=>e=.returned (.bool (YH rows m k))∧Below w.heap.size w w':=by
 unfold YH
 cases hd:Ya rows m k
 ·obtain ⟨p,ep,hlt,hi,hok⟩:=Up hp hs hk hd
  obtain ⟨b,off,rfl,_,hrow⟩:=hR
  obtain ⟨r0,hI⟩:=hrow k hk
  obtain ⟨⟨j0,_⟩,⟨j1,_⟩,⟨j2,_⟩,⟨j3,_⟩⟩:=h
  obtain ⟨l0,l1,l2,l3,_⟩:=ZS hs
  obtain ⟨⟨a0,n0,c0⟩,⟨a1,n1,c1⟩,⟨a2,n2,c2⟩,⟨a3,n3,c3⟩⟩:=s
  simp only at j0 j1 j2 j3
  obtain ⟨rfl,b0,o0,rfl⟩:=ZA j0 l0 (by decide)
  have r1:=YO j0 (t:=k) hk
  rw [ep] at r1
  obtain ⟨cb,co,ea,hpn,q0,q1,q2⟩:=QB hI hlt
  rw [← hi] at q0 q1 q2
  rw [ea] at r0
  by_cases h5:(Xa rows m k).1=5
  ·obtain ⟨q,hq,hq2⟩:=QP hok h5
   rw [h5] at q0
   rw [hq] at q1
   obtain ⟨rfl,b2,o2,rfl⟩:=ZA j2 l2 (by decide)
   have hh:=YO j2 (t:=q) hq2
   have e:(!Wq m (Xa rows m k))=decide (m.2.2.1.getD q 0=0):=by
    unfold Wq
    rw [h5,hq]
    simp
   rw [e]
   exact MZ b off len cap b0 o0 c0 a1 n1 c1 c2 a3 n3 c3 k cb co _ _ p _ b2 o2 q _ w hk hl hpn r0 r1 q0 q1 q2 hq2 hh _ rfl
  have e:Wq m (Xa rows m k)=false:=by unfold Wq;simp [h5]
  rw [e]
  exact MY b off len cap b0 o0 c0 a1 n1 c1 a2 n2 c2 a3 n3 c3 k cb co _ _ p _ _ _ w hk hl hpn r0 r1 q0 q1 q2 h5
 exact MX hl hR h hs hk hd

set_option linter.unusedVariables false

theorem WE {w:World} {B e s n g t:Nat} {v:Value} {xs cs:List Value} (h:w.ownsRow B e s v n xs) (hB:Blk w g t cs) (he:e≠t):v.ownBlock≠some g:=by
 rcases h.2 with ⟨rfl,_⟩ | ⟨g',cap,cur,rfl,_,hg,_⟩
 ·simp [Value.ownBlock]
 simp only [Value.ownBlock,ne_eq,Option.some.injEq]
 rintro rfl
 unfold Blk at hB
 rw [hg] at hB
 simp at hB
 exact he hB.2

theorem VV (a:Option Addr) (len cap:Nat) (rows:List (List I3)) (s:S4) (m:V4) (cs:Sl × Sl × Sl) (w:World) (hl:len=3) (hR:Yi w a cs rows) (h:Xd w s m) (hp:Zf rows=true) (hs:Zc m=true) :
  Calls Tryz.prog 119 #[.agg #[.slice a len cap],s.val] w fun e w'=>(∃ s9:Sl,e=.returned (.slice s9.1 s9.2.1 s9.2.2)∧Z0 w' w.heap.size s9 (Zm rows m 3))∧Below w.heap.size w w':=by
 obtain ⟨i0,hi,hz0,hz1,hz2⟩:=info_parts XQ
 have kC:=fun (W:World) (hR:Yi W a cs rows) (h:Xd W s m) (k:Nat) (hk:k<3)=>HA (cap:=cap) hl hR h hp hs hk
 have hM:=fun (W:World) (hb:Below w.heap.size w W)=>h.below hb
 obtain ⟨⟨a0,n0,c0⟩,⟨a1,n1,c1⟩,⟨a2,n2,c2⟩,⟨a3,n3,c3⟩⟩:=s
 have uA:S4.val ((a0,n0,c0),(a1,n1,c1),(a2,n2,c2),(a3,n3,c3))=.agg #[.slice a0 n0 c0,.slice a1 n1 c1,.slice a2 n2 c2,.slice a3 n3 c3]:=rfl
 rw [uA] at kC ⊢
 clear uA h hl
 have bw:Below w.heap.size w (((w.alloc (.cells #[.slice a len cap] 25)).alloc (.cells #[.slice a0 n0 c0,.slice a1 n1 c1,.slice a2 n2 c2,.slice a3 n3 c3] 88)).alloc (.cells #[] 3)):=by go_grown
 have pP:Blk (((w.alloc (.cells #[.slice a len cap] 25)).alloc (.cells #[.slice a0 n0 c0,.slice a1 n1 c1,.slice a2 n2 c2,.slice a3 n3 c3] 88)).alloc (.cells #[] 3)) w.heap.size 25 [.slice a len cap]:=Zl _ (Zl _ (Zj _ _ _ rfl))
 have pS:Blk (((w.alloc (.cells #[.slice a len cap] 25)).alloc (.cells #[.slice a0 n0 c0,.slice a1 n1 c1,.slice a2 n2 c2,.slice a3 n3 c3] 88)).alloc (.cells #[] 3)) (w.heap.size+1) 88 [.slice a0 n0 c0,.slice a1 n1 c1,.slice a2 n2 c2,.slice a3 n3 c3]:=Zl _ (Zj _ _ _ (by simp))
 have hq:(((w.alloc (.cells #[.slice a len cap] 25)).alloc (.cells #[.slice a0 n0 c0,.slice a1 n1 c1,.slice a2 n2 c2,.slice a3 n3 c3] 88)).alloc (.cells #[] 3)).ownsRow w.heap.size 3 1 (.slice (some ⟨w.heap.size+1+1,0,none⟩) 0 0) 0 ((Zm rows m 0).map (Value.int .i64)):=by
  have h9:=WD ((w.alloc (.cells #[.slice a len cap] 25)).alloc (.cells #[.slice a0 n0 c0,.slice a1 n1 c1,.slice a2 n2 c2,.slice a3 n3 c3] 88)) 3 1 w.heap.size (by simp;omega)
  simp only [World.size_alloc] at h9
  exact h9
 go_enter Tryz.func119,Tryz.ntmps119
 go_wp2_with fail
 generalize ((w.alloc (.cells #[.slice a len cap] 25)).alloc (.cells #[.slice a0 n0 c0,.slice a1 n1 c1,.slice a2 n2 c2,.slice a3 n3 c3] 88)).alloc (.cells #[] 3)=W0 at *
 go_loopw [5,6] (fun so si wr=>∃ (k:Nat) (n:Nat) (v:Value),v=so∧k≤3∧si=.int .i64 k∧Hid (n=(Zm rows m k).length)∧wr.ownsRow w.heap.size 3 1 v n ((Zm rows m k).map (Value.int .i64))∧Blk wr w.heap.size 25 [.slice a len cap]∧Blk wr (w.heap.size+1) 88 [.slice a0 n0 c0,.slice a1 n1 c1,.slice a2 n2 c2,.slice a3 n3 c3]∧Below w.heap.size w wr) (fun _ si _=>3 - (intOf si).toNat)
 case atStart=>exact ⟨0,0,_,rfl,by omega,rfl,rfl,hq,pP,pS,bw⟩
 case round =>
  clear hq pP pS bw
  obtain ⟨k,n,so,rfl,hk,rfl,HN,hr,pP,pS,hbw⟩:=hrel
  by_cases hlt:k<3
  ·have hk3:(k:Int)<3:=by omega
   have kC1:=kC _ (hR.below hbw) (hM _ hbw) k hlt
   have gP:=pP.cell 0
   have gS0:=pS.cell 0
   have gS1:=pS.cell 1
   have gS2:=pS.cell 2
   have gS3:=pS.cell 3
   simp only [List.getElem?_cons_zero,List.getElem?_cons_succ] at gP gS0 gS1 gS2 gS3
   cases hcan:YH rows m k
   ·rw [hcan] at kC1
    have HN2:Hid (n=(Zm rows m (k+1)).length):=by rw [Hid,XN hcan];exact HN.out
    rw [← XN hcan] at hr
    go_wp2_with fail
    refine kC1.mono ?_
    rintro e w1 ⟨rfl,hb⟩
    replace hr:=Zs hr hb
    replace pP:=pP.below hb
    replace pS:=pS.below hb
    replace hbw:=Zb hbw hb
    clear hb gP gS0 gS1 gS2 gS3 kC1
    go_wp2
    go_roundw
    case rel=>exact ⟨k+1,n,_,rfl,by omega,by go_num,HN2,hr,pP,pS,hbw⟩
    case measure=>simp [intOf];omega
   rw [hcan] at kC1
   have hn3:n≤3:=by have:=YM rows m k;have:=HN.out;omega
   have HN2:Hid (n+1=(Zm rows m (k+1)).length):=by rw [Hid,Vl hcan,List.length_append,← HN.out];rfl
   have HX:Hid (Zm rows m (k+1)=Zm rows m k++[(k:Int)]):=Vl hcan
   go_wp2_with fail
   refine kC1.mono ?_
   rintro e w2 ⟨rfl,hb⟩
   replace hr:=Zs hr hb
   replace pP:=pP.below hb
   replace pS:=pS.below hb
   replace hbw:=Zb hbw hb
   have hsz:=hbw.size
   clear hb gP gS0 gS1 gS2 gS3 kC1
   go_wp2_with (at_builtin;refine wpList_append_own _ rfl _ _ 36 rfl w.heap.size 3 i0 (.int .i64 0) 1 8 Tryz.underlying36 hi hz0 hz1 hz2 rfl (by decide) _ _ _ rfl (hr.alloc _) ⟨w2.heap.size,0,none⟩ 1 1 [.int .i64 (k:Int)] rfl rfl (cell_one_new _ _ _) (by simp [Value.oneCell']) ?c3 ?c4 ?c5 ?_)
   case c3=>unfold maxLen;omega
   case c4=>omega
   case c5=>simp;omega
   intro v' wn hown' hgrow _
   have R:wn.ownsRow w.heap.size 3 1 v' (n+1) ((Zm rows m (k+1)).map (Value.int .i64)):=by
    rw [HX.out,List.map_append]
    exact hown'
   have bn:Below w.heap.size w wn:=(hbw.alloc hsz _).grown hgrow (by simp;omega) (fun k hk=>(hr.lt k hk).1)
   have pP2:Blk wn w.heap.size 25 [.slice a len cap]:=(Zl _ pP).kept hgrow (WE hr pP (by decide))
   have pS2:Blk wn (w.heap.size+1) 88 [.slice a0 n0 c0,.slice a1 n1 c1,.slice a2 n2 c2,.slice a3 n3 c3]:=(Zl _ pS).kept hgrow (WE hr pS (by decide))
   clear hown' hgrow hr hbw HX pP pS
   go_wp2
   go_roundw
   case rel=>exact ⟨k+1,n+1,_,rfl,by omega,by go_num,HN2,R,pP2,pS2,bn⟩
   case measure=>simp [intOf];omega
  obtain rfl:k=3:=by omega
  obtain ⟨a',c',rfl⟩:∃ a c,so=.slice a n c:=by
   rcases hr.2 with ⟨rfl,rfl⟩ | ⟨g',cap',cur,hv,_⟩
   ·exact ⟨none,0,rfl⟩
   exact ⟨_,cap',hv⟩
  clear kC hM
  go_wp2
  go_ret
  exact ⟨⟨(a',n,c'),rfl,hr⟩,hbw⟩

theorem RJ (a:Option Addr) (len cap:Nat) (rows:List (List I3)) (s:S4) (m:V4) (cs:Sl × Sl × Sl) (w:World) (hl:len=3) (hR:Yi w a cs rows) (h:Xd w s m) (hp:Zf rows=true) (hs:Zc m=true) :
  Calls Tryz.prog 149 #[.agg #[.slice a len cap],s.val] w fun e w'=>e=.returned (.bool (YS rows m))∧Below w.heap.size w w':=by
 have kE:=fun (W:World) (hR:Yi W a cs rows) (h:Xd W s m)=>VV a len cap rows s m cs W hl hR h hp hs
 have kD:=fun (W:World) (hR:Yi W a cs rows) (h:Xd W s m) (k:Nat) (hk:k<3)=>QE (cap:=cap) hl hR h hs hk
 have hM:=fun (W:World) (hb:Below w.heap.size w W)=>h.below hb
 obtain ⟨fin,hfin⟩:∃ fin,fin=YS rows m:=⟨_,rfl⟩
 rw [← hfin]
 have HF:Hid (fin=(decide (Zm rows m 3=[]) && XD rows m 0)):=hfin
 clear hfin
 obtain ⟨⟨a0,n0,c0⟩,⟨a1,n1,c1⟩,⟨a2,n2,c2⟩,⟨a3,n3,c3⟩⟩:=s
 have uA:S4.val ((a0,n0,c0),(a1,n1,c1),(a2,n2,c2),(a3,n3,c3))=.agg #[.slice a0 n0 c0,.slice a1 n1 c1,.slice a2 n2 c2,.slice a3 n3 c3]:=rfl
 rw [uA] at kE kD ⊢
 clear uA h hl
 have bw:Below w.heap.size w ((w.alloc (.cells #[.slice a len cap] 25)).alloc (.cells #[.slice a0 n0 c0,.slice a1 n1 c1,.slice a2 n2 c2,.slice a3 n3 c3] 88)):=by go_grown
 have pP:Blk ((w.alloc (.cells #[.slice a len cap] 25)).alloc (.cells #[.slice a0 n0 c0,.slice a1 n1 c1,.slice a2 n2 c2,.slice a3 n3 c3] 88)) w.heap.size 25 [.slice a len cap]:=Zl _ (Zj _ _ _ rfl)
 have pS:Blk ((w.alloc (.cells #[.slice a len cap] 25)).alloc (.cells #[.slice a0 n0 c0,.slice a1 n1 c1,.slice a2 n2 c2,.slice a3 n3 c3] 88)) (w.heap.size+1) 88 [.slice a0 n0 c0,.slice a1 n1 c1,.slice a2 n2 c2,.slice a3 n3 c3]:=Zj _ _ _ (by simp)
 go_enter Tryz.func149,Tryz.ntmps149
 go_wp2_with fail
 refine (kE _ (hR.below bw) (hM _ bw)).mono ?_
 rintro e w1 ⟨⟨⟨a',n,c'⟩,rfl,ho⟩,hb⟩
 have hn:(Zm rows m 3).length=n:=by
  have:=ho.1
  simpa using this
 replace bw:=Zb bw hb
 replace pP:=pP.below hb
 replace pS:=pS.below hb
 clear ho kE hb
 simp only
 by_cases h0:n=0
 ·subst h0
  have HL:Hid (fin=XD rows m 0):=by rw [Hid,HF.out,List.eq_nil_of_length_eq_zero hn];rfl
  clear HF hn
  go_wp2_with fail
  go_loopw [5] (fun si wr=>∃ k:Nat,k≤3∧si=.int .i64 k∧Hid (fin=XD rows m k)∧Blk wr w.heap.size 25 [.slice a len cap]∧Blk wr (w.heap.size+1) 88 [.slice a0 n0 c0,.slice a1 n1 c1,.slice a2 n2 c2,.slice a3 n3 c3]∧Below w.heap.size w wr) (fun si _=>3 - (intOf si).toNat)
  case atStart=>exact ⟨0,by omega,rfl,HL,pP,pS,bw⟩
  case round =>
   clear pP pS bw HL
   obtain ⟨k,hk,rfl,HL,pP,pS,bw⟩:=hrel
   by_cases hlt:k<3
   ·have hk3:(k:Int)<3:=by omega
    have kD1:=kD _ (hR.below bw) (hM _ bw) k hlt
    have hst:=Xm rows m hlt
    have HS:Hid (XD rows m k=(!Ya rows m k || XD rows m (k+1))):=hst
    clear hst
    have gP:=pP.cell 0
    have gS0:=pS.cell 0
    have gS1:=pS.cell 1
    have gS2:=pS.cell 2
    have gS3:=pS.cell 3
    simp only [List.getElem?_cons_zero,List.getElem?_cons_succ] at gP gS0 gS1 gS2 gS3
    cases hd:Ya rows m k
    ·rw [hd] at kD1
     obtain rfl:fin=true:=by rw [HL.out,HS.out,hd];rfl
     clear HL HS
     go_wp2_with fail
     refine kD1.mono ?_
     rintro e w2 ⟨rfl,hb⟩
     replace bw:=Zb bw hb
     clear hb gP gS0 gS1 gS2 gS3 kD1
     go_wp2
     go_ret
     exact ⟨rfl,bw⟩
    rw [hd] at kD1
    have HL2:Hid (fin=XD rows m (k+1)):=by rw [Hid,HL.out,HS.out,hd];rfl
    clear HL HS
    go_wp2_with fail
    refine kD1.mono ?_
    rintro e w2 ⟨rfl,hb⟩
    replace bw:=Zb bw hb
    replace pP:=pP.below hb
    replace pS:=pS.below hb
    clear hb gP gS0 gS1 gS2 gS3 kD1
    go_wp2
    go_roundw
    case rel=>exact ⟨k+1,by omega,by go_num,HL2,pP,pS,bw⟩
    case measure=>simp [intOf];omega
   obtain rfl:k=3:=by omega
   obtain rfl:fin=false:=HL.out.trans (Ue _ _)
   clear kD HL hM
   go_wp2
   go_ret
   exact ⟨rfl,bw⟩
 obtain rfl:fin=false:=by
  rw [HF.out,decide_eq_false]
  ·rfl
  intro e
  rw [e] at hn
  exact h0 hn.symm
 have hpos:(0:Int)<(n:Int):=by omega
 clear HF hn kD hM
 go_wp2
 go_ret
 exact ⟨rfl,bw⟩

end Go.Proofs.YtgmhhegckcionaaGreatDoor
