/-
  Joined: RunS.
-/
import Derived.Test.YtmhlokahmblboaaGreatDoorK19
import Derived.Test.YtmhlokahmblboaaGreatDoorK31

namespace Go.Proofs.YtmhlokahmblboaaGreatDoor
set_option maxRecDepth 100000
set_option maxHeartbeats 16000000
open Go.RowKit
set_option linter.unusedVariables false
set_option linter.unusedSimpArgs false

theorem K9 {rows:List (List I3)} {m:V4} {out:List I3} {ks:List Int} {i:Nat} (hi:i<ks.length) (h:Zv rows m (ks.getD i 0)≠0):VN rows m out (ks.drop i)=(m,out,Zv rows m (ks.getD i 0)):=by
 have e:ks.drop i=ks.getD i 0::ks.drop (i+1):=by rw [List.drop_eq_getElem_cons hi];simp [List.getD,hi]
 rw [e]
 show (if Zv rows m (ks.getD i 0)=0 then _ else _)=_
 rw [if_neg h]
theorem Fi {rows:List (List I3)} {m:V4} {out:List I3} {ks:List Int} {i:Nat} (hi:i<ks.length) (h:Zv rows m (ks.getD i 0)=0):VN rows m out (ks.drop i)=VN rows (goM rows m (ks.getD i 0)).1 (Yg out (X2 rows m (ks.getD i 0))) (ks.drop (i+1)):=by
 have e:ks.drop i=ks.getD i 0::ks.drop (i+1):=by rw [List.drop_eq_getElem_cons hi];simp [List.getD,hi]
 rw [e]
 show (if Zv rows m (ks.getD i 0)=0 then _ else _)=_
 rw [if_pos h]
theorem Kj {rows:List (List I3)} {m:V4} {k:Int} (hp:Zn rows=true) (hs:Zk m=true) (hz:Zv rows m k=0):(∀ x ∈ X2 rows m k,okB x=true)∧(X2 rows m k).length≤2:=by
 have h1:=Ly hp hs hz
 have h2:=Hu rows m k
 unfold X2
 split
 ·refine ⟨fun x hx=>?_,?_⟩
  ·rw [Wg] at hx
   rcases hx with hx | hx
   ·exact h1 x hx
   subst hx;rfl
  have:=TN (Yr rows m k) (14,0,0)
  omega
 exact ⟨h1,by omega⟩
theorem QR {xs ys:List I3} (h:∀ x ∈ xs,okB x=true) (k:∀ x ∈ ys,okB x=true):∀ x ∈ Yg xs ys,okB x=true:=fun x hx=>by
 rw [WL] at hx
 exact hx.elim (h x) (k x)

theorem Kn (j:Nat):([0,0]:List Int).getD j 0=0:=by
 match j with
 | 0=>rfl
 | 1=>rfl
 | _+2=>rfl
theorem Qh (rows:List (List I3)):Xh rows Zl=false:=by
 cases h:Xh rows Zl
 ·rfl
 have hc:∀ i,i<3→Z1 rows Zl i=true:=fun i hi=>by
  cases hd:Z1 rows Zl i
  ·have h1:YA rows Zl i=true:=by
    unfold YA XP
    rw [hd,show Zl.2.2.1=[0,0] from rfl,Kn]
    simp
   rw [UG hi h1] at h
   cases h
  rfl
 unfold Xh XX at h
 simp [List.range',hc 0 (by decide),hc 1 (by decide),hc 2 (by decide)] at h

theorem WW {w:World} {B cap:Nat} {a:Option Addr} {xs:List I3} (h:w.ownsRow B 90 3 (.slice a xs.length cap) xs.length (Zr xs)) (hf:∀ x ∈ xs,I3.fits x):ZK w a xs.length cap xs:=by
 obtain ⟨a',c',e,hI,_⟩:=XC h hf
 cases e
 exact hI
theorem Y8 {w:World} {a:Option Addr} {n c:Nat} {ks:List Int} (h:YS .i64 w a n c ks) {i:Nat} (hi:i<n):∃ b off,a=some ⟨b,off,none⟩∧w.cell? ⟨b,off+i,none⟩=some (.int .i64 (ks.getD i 0))∧b<w.heap.size:=by
 obtain ⟨h1,h2,h3,h4⟩:=h
 rcases h4 with h4 | ⟨b,off,ha,hl,hc⟩
 ·omega
 exact ⟨b,off,ha,hc i hi,hl⟩

def OnS (w wr:World) (X:Nat) (a9:Option Addr) (cap:Nat) (rows:List (List I3)) (ks:List Int) (n i:Nat) (fin:V4 × List I3 × Int) (m:V4) (out:List I3) (v:Value):Prop:=
 i≤n∧VN rows m out (ks.drop i)=fin∧Zk m=true∧(∃ t:S4,Blk wr X 74 (vmC t)∧ZP wr w.heap.size t m)∧wr.ownsRow w.heap.size 90 3 v out.length (Zr out)∧(∀ x ∈ out,okB x=true)∧out.length≤1+2*i∧Below w.heap.size w wr∧Blk wr w.heap.size 25 [.slice a9 3 cap]∧Blk wr (w.heap.size+1) 74 [.slice none 0 0,.slice none 0 0,.slice none 0 0,.slice none 0 0]

theorem KC {w:World} {a9:Option Addr} {cap:Nat} {cs:Sl × Sl × Sl} {rows:List (List I3)} {la:Option Addr} {n c:Nat} {ks:List Int} (hR:Z6 w a9 cs rows) (hp:Zn rows=true) (hL:YS .i64 w la n c ks) (hn:n≤100000) :
  Calls Tryz.prog 134 #[.agg #[.slice a9 3 cap],.slice la n c] w fun e w'=>UL e w' w.heap.size (VN rows Zl [] ks).1 (VN rows Zl [] ks).2.1 (VN rows Zl [] ks).2.2∧Below w.heap.size w w':=by
 have fz:=(ZO ZH).1
 have hll:=hL.1
 obtain ⟨fin,hfin⟩:∃ fin,fin=VN rows Zl [] ks:=⟨_,rfl⟩
 rw [← hfin]
 have HFin:Hid (VN rows Zl [] (ks.drop 0)=fin):=by rw [hfin];rfl
 clear hfin
 have kN:=XV
 have kU:=fun (W:World) (hR:Z6 W a9 cs rows) (t:S4) (h:Yk W t Zl)=>SE a9 3 cap rows t Zl cs W rfl hR h hp ZH
 rw [Qh] at kU
 have bw:Below w.heap.size w ((w.alloc (.cells #[.slice a9 3 cap] 25)).alloc (.cells #[.slice none 0 0,.slice none 0 0,.slice none 0 0,.slice none 0 0] 74)):=by go_grown
 have pP:Blk ((w.alloc (.cells #[.slice a9 3 cap] 25)).alloc (.cells #[.slice none 0 0,.slice none 0 0,.slice none 0 0,.slice none 0 0] 74)) w.heap.size 25 [.slice a9 3 cap]:=Zq _ (Zo _ _ _ rfl)
 have pZ:Blk ((w.alloc (.cells #[.slice a9 3 cap] 25)).alloc (.cells #[.slice none 0 0,.slice none 0 0,.slice none 0 0,.slice none 0 0] 74)) (w.heap.size+1) 74 [.slice none 0 0,.slice none 0 0,.slice none 0 0,.slice none 0 0]:=Zo _ _ _ (by simp)
 go_enter Tryz.func134,Tryz.ntmps134
 go_wp2_with fail
 have hUw:w.heap.size≤((w.alloc (.cells #[.slice a9 3 cap] 25)).alloc (.cells #[.slice none 0 0,.slice none 0 0,.slice none 0 0,.slice none 0 0] 74)).heap.size:=bw.size
 generalize ((w.alloc (.cells #[.slice a9 3 cap] 25)).alloc (.cells #[.slice none 0 0,.slice none 0 0,.slice none 0 0,.slice none 0 0] 74))=U at *
 refine (kN _).mono ?_
 rintro e w1 ⟨⟨⟨⟨t0a,t0n,t0c⟩,⟨t1a,t1n,t1c⟩,⟨t2a,t2n,t2c⟩,⟨t3a,t3n,t3c⟩⟩,rfl,hO⟩,hb⟩
 have ut:S4.val ((t0a,t0n,t0c),(t1a,t1n,t1c),(t2a,t2n,t2c),(t3a,t3n,t3c))=.agg #[.slice t0a t0n t0c,.slice t1a t1n t1c,.slice t2a t2n t2c,.slice t3a t3n t3c]:=rfl
 rw [ut]
 replace bw:=Zb bw hb
 replace pP:=pP.below hb
 replace pZ:=pZ.below hb
 replace hO:=hO.lowerB (B':=w.heap.size) hUw
 have hX1:w.heap.size+1<w1.heap.size:=pZ.lt
 clear hb kN hUw
 have ha:Below w1.heap.size w1 ((w1.alloc (.cells #[.slice t0a t0n t0c,.slice t1a t1n t1c,.slice t2a t2n t2c,.slice t3a t3n t3c] 74)).alloc (.cells #[] 90)):=by go_grown
 have pS:Blk ((w1.alloc (.cells #[.slice t0a t0n t0c,.slice t1a t1n t1c,.slice t2a t2n t2c,.slice t3a t3n t3c] 74)).alloc (.cells #[] 90)) w1.heap.size 74 [.slice t0a t0n t0c,.slice t1a t1n t1c,.slice t2a t2n t2c,.slice t3a t3n t3c]:=Zq _ (Zo _ _ _ rfl)
 have q:((w1.alloc (.cells #[.slice t0a t0n t0c,.slice t1a t1n t1c,.slice t2a t2n t2c,.slice t3a t3n t3c] 74)).alloc (.cells #[] 90)).ownsRow w.heap.size 90 3 (.slice (some ⟨w1.heap.size+1,0,none⟩) 0 0) 0 []:=by
  have h9:=Yv (w1.alloc (.cells #[.slice t0a t0n t0c,.slice t1a t1n t1c,.slice t2a t2n t2c,.slice t3a t3n t3c] 74)) 90 3 w.heap.size (by simp;omega)
  simpa using h9
 replace bw:=Zb bw ha
 replace hO:=hO.below ha
 replace pP:=pP.below ha
 replace pZ:=pZ.below ha
 have kUx:=kU _ (hR.below bw) _ (hO.mem fz)
 rw [ut] at kUx
 clear ha kU ut
 go_wp2_with (first | refine Zc rfl 25 _ rfl w.heap.size rfl pP _ Tryz.underlying25 rfl (by kernel_rfl) ?_ | refine Zc rfl 74 _ rfl w1.heap.size rfl pS _ Tryz.underlying74 rfl (by kernel_rfl) ?_)
 refine kUx.mono ?_
 rintro e W0 ⟨rfl,hb⟩
 replace bw:=Zb bw hb
 replace pP:=pP.below hb
 replace pZ:=pZ.below hb
 replace pS:=pS.below hb
 replace hO:=hO.below hb
 replace q:=Ze q hb
 clear hb kUx fz
 go_wp2_with fail
 have st:OnS w W0 w1.heap.size a9 cap rows ks n 0 fin Zl [] (.slice (some ⟨w1.heap.size+1,0,none⟩) 0 0):=⟨by omega,HFin.out,ZH,⟨((t0a,t0n,t0c),(t1a,t1n,t1c),(t2a,t2n,t2c),(t3a,t3n,t3c)),pS,hO⟩,q,by simp,by decide,bw,pP,pZ⟩
 clear HFin pS hO q bw pP pZ
 generalize w1.heap.size+1=g0 at *
 generalize w1.heap.size=X at *
 go_loopw [8,9] (fun so si wr=>∃ (i:Nat) (m':V4) (out:List I3),si=.int .i64 i∧OnS w wr X a9 cap rows ks n i fin m' out so) (fun _ si _=>n - (intOf si).toNat)
 case atStart=>exact ⟨0,_,_,rfl,st⟩
 case round =>
  clear st
  obtain ⟨i,m',out,rfl,hi,hr,hs,⟨⟨⟨t0a,t0n,t0c⟩,⟨t1a,t1n,t1c⟩,⟨t2a,t2n,t2c⟩,⟨t3a,t3n,t3c⟩⟩,pS,hO⟩,q,hok,hlo,bw,pP,pZ⟩:=hrel
  replace pS:Blk wr X 74 [.slice t0a t0n t0c,.slice t1a t1n t1c,.slice t2a t2n t2c,.slice t3a t3n t3c]:=pS
  by_cases hlt:i<n
  ·obtain ⟨lb,lo,rfl,hc,hlb⟩:=Y8 hL hlt
   replace hc:=Za bw _ _ hc
   have HH:Hid (Zv rows m' (ks.getD i 0)≠0→fin=(m',out,Zv rows m' (ks.getD i 0))):=fun h0=>hr.symm.trans (K9 (by omega) h0)
   have HG:Hid (Zv rows m' (ks.getD i 0)=0→VN rows (goM rows m' (ks.getD i 0)).1 (Yg out (X2 rows m' (ks.getD i 0))) (ks.drop (i+1))=fin):=fun h0=>(Fi (by omega) h0).symm.trans hr
   have hlt':(i:Int)<(n:Int):=by omega
   have hi0:(0:Int)≤(i:Int):=by omega
   have fm:=(ZO hs).1
   generalize ks.getD i 0=kk at *
   clear hr
   have kI:=KB kk 0 2 wr
   have hXw2:=pS.lt
   have hl1:i≤100000:=by omega
   obtain ⟨va,vc,rfl,hI,hGd⟩:=XC q (fun x hx=>Xp (hok x hx))
   clear hI hGd
   cases hin:inB kk 0 2
   ·rw [hin] at kI
    have hz:Zv rows m' kk=4:=by
     have:=YE.1 hin
     unfold Zv
     rw [if_neg (by omega)]
    have hfe:=HH.out (by rw [hz];decide)
    rw [hz] at hfe
    clear HH HG hz hin
    go_wp2_with fail
    refine kI.mono ?_
    rintro e w9 ⟨rfl,rfl⟩
    clear kI hc
    go_wp2_with (first | refine Zc rfl 74 _ rfl X rfl pS _ Tryz.underlying74 rfl (by kernel_rfl) ?_ | refine Zd rfl 74 _ _ rfl (w.heap.size+1) [.slice t0a t0n t0c,.slice t1a t1n t1c,.slice t2a t2n t2c,.slice t3a t3n t3c] rfl rfl pZ (by kernel_rfl) rfl rfl ?_)
    intro U2 pZ2 g2
    have bz:=bw.grown g2 bw.size (fun k e=>by cases e;omega)
    have q2:=q.kept g2 (ZI q pZ (by decide))
    have hO2:=hO.kept9 g2 pZ (by decide)
    clear bw g2 pZ q hO pS pP
    go_wp2_with fail
    refine bodyPost_ret (Wt Tryz.results134 _ _ _ _ _ _ rfl pZ2.out Tryz.underlying74 rfl (by kernel_rfl)) rfl ?_
    rw [hfe]
    exact ⟨UL.mk9 ((t0a,t0n,t0c),(t1a,t1n,t1c),(t2a,t2n,t2c),(t3a,t3n,t3c)) _ rfl hO2 q2,bz⟩
   rw [hin] at kI
   obtain ⟨k,rfl⟩:∃ k:Nat,kk=k:=⟨kk.toNat,by have:=ZA.1 hin;omega⟩
   have hk:k<3:=by have:=ZA.1 hin;omega
   clear hin
   have kD:=fun (W:World) (b:Below w.heap.size w W) (h:Yk W ((t0a,t0n,t0c),(t1a,t1n,t1c),(t2a,t2n,t2c),(t3a,t3n,t3c)) m')=>UQ (cap:=cap) rfl (hR.below b) h hs hk
   have kC:=fun (W:World) (b:Below w.heap.size w W) (h:Yk W ((t0a,t0n,t0c),(t1a,t1n,t1c),(t2a,t2n,t2c),(t3a,t3n,t3c)) m')=>QL (cap:=cap) rfl (hR.below b) h hp hs hk
   have ut:S4.val ((t0a,t0n,t0c),(t1a,t1n,t1c),(t2a,t2n,t2c),(t3a,t3n,t3c))=.agg #[.slice t0a t0n t0c,.slice t1a t1n t1c,.slice t2a t2n t2c,.slice t3a t3n t3c]:=rfl
   rw [ut] at kD kC
   go_wp2_with fail
   refine kI.mono ?_
   rintro e w9 ⟨rfl,rfl⟩
   clear kI
   go_wp2_with fail
   cases hd:Z1 rows m' k
   ·simp only [hd] at kD
    have hdr:Below wr.heap.size wr wr.drew:=by go_grown
    have kx:=kD wr.drew (Zb bw hdr) ((hO.below hdr).mem fm)
    clear hdr
    refine wp_region_held_drew (S:=(fun w'=>w'.cell? ⟨w.heap.size,0,none⟩=some (.slice a9 3 cap)∧w'.cell? ⟨X,0,none⟩=some (.slice t0a t0n t0c)∧w'.cell? ⟨X,1,none⟩=some (.slice t1a t1n t1c)∧w'.cell? ⟨X,2,none⟩=some (.slice t2a t2n t2c)∧w'.cell? ⟨X,3,none⟩=some (.slice t3a t3n t3c)∧w'.cell? ⟨lb,lo+i,none⟩=some (.int .i64 (k:Int)))) (by kernel_rfl) ⟨by simpa using pP.cell 0,by simpa using pS.cell 0,by simpa using pS.cell 1,by simpa using pS.cell 2,by simpa using pS.cell 3,hc⟩ (fun hS0=>?_)
    refine tkm 0 34 (.agg #[.slice a9 3 cap]) ?_
    refine tkm 1 35 (.agg #[.slice t0a t0n t0c,.slice t1a t1n t1c,.slice t2a t2n t2c,.slice t3a t3n t3c]) ?_
    refine tkm 2 36 (.slice (some ⟨lb,lo,none⟩) n c) ?_
    refine tkm 3 37 (.int .i64 (i:Int)) ?_
    refine tkm 4 38 (.pointer (some ⟨lb,lo+i,none⟩)) ?_
    refine tkm 5 39 (.int .i64 (k:Int)) ?_
    refine tkr 6 40 (fun K hK=>?_)
    go_simp
    refine (kx).mono ?_
    rintro e u1 ⟨rfl,hb⟩
    go_wp2_with fail
    refine hK.out _ _ ?_ (fun hS1=>?_)
    ·exact ⟨Za hb _ _ hS0.1,Za hb _ _ hS0.2.1,Za hb _ _ hS0.2.2.1,Za hb _ _ hS0.2.2.2.1,Za hb _ _ hS0.2.2.2.2.1,Za hb _ _ hS0.2.2.2.2.2⟩
    clear hK
    refine wpAnyH_done (by kernel_rfl) ?_ _
    clear hS0 hS1 kx
    have hb9:=Zb (by go_grown:Below wr.heap.size wr wr.drew) hb
    replace bw:=Zb bw hb9
    replace pP:=pP.below hb9
    replace pZ:=pZ.below hb9
    replace pS:=pS.below hb9
    replace hO:=hO.below hb9
    replace q:=Ze q hb9
    replace hc:=Za hb9 _ _ hc
    clear hb hb9
    clear kD
    go_wp2_with fail
    cases hcn:YA rows m' k
    ·simp only [hcn] at kC
     have hdr:Below u1.heap.size u1 u1.drew:=by go_grown
     have kx:=kC u1.drew (Zb bw hdr) ((hO.below hdr).mem fm)
     clear hdr
     refine wp_region_held_drew (S:=(fun w'=>w'.cell? ⟨w.heap.size,0,none⟩=some (.slice a9 3 cap)∧w'.cell? ⟨X,0,none⟩=some (.slice t0a t0n t0c)∧w'.cell? ⟨X,1,none⟩=some (.slice t1a t1n t1c)∧w'.cell? ⟨X,2,none⟩=some (.slice t2a t2n t2c)∧w'.cell? ⟨X,3,none⟩=some (.slice t3a t3n t3c)∧w'.cell? ⟨lb,lo+i,none⟩=some (.int .i64 (k:Int)))) (by kernel_rfl) ⟨by simpa using pP.cell 0,by simpa using pS.cell 0,by simpa using pS.cell 1,by simpa using pS.cell 2,by simpa using pS.cell 3,hc⟩ (fun hS0=>?_)
     refine tkm 0 43 (.agg #[.slice a9 3 cap]) ?_
     refine tkm 1 44 (.agg #[.slice t0a t0n t0c,.slice t1a t1n t1c,.slice t2a t2n t2c,.slice t3a t3n t3c]) ?_
     refine tkm 2 45 (.slice (some ⟨lb,lo,none⟩) n c) ?_
     refine tkm 3 46 (.int .i64 (i:Int)) ?_
     refine tkm 4 47 (.pointer (some ⟨lb,lo+i,none⟩)) ?_
     refine tkm 5 48 (.int .i64 (k:Int)) ?_
     refine tkr 6 49 (fun K hK=>?_)
     go_simp
     refine (kx).mono ?_
     rintro e u2 ⟨rfl,hb⟩
     go_wp2_with fail
     refine hK.out _ _ ?_ (fun hS1=>?_)
     ·exact ⟨Za hb _ _ hS0.1,Za hb _ _ hS0.2.1,Za hb _ _ hS0.2.2.1,Za hb _ _ hS0.2.2.2.1,Za hb _ _ hS0.2.2.2.2.1,Za hb _ _ hS0.2.2.2.2.2⟩
     clear hK
     refine tkm 7 50 (.bool true) ?_
     refine wpAnyH_done (by kernel_rfl) ?_ _
     clear hS0 hS1 kx
     have hb9:=Zb (by go_grown:Below u1.heap.size u1 u1.drew) hb
     replace bw:=Zb bw hb9
     replace pP:=pP.below hb9
     replace pZ:=pZ.below hb9
     replace pS:=pS.below hb9
     replace hO:=hO.below hb9
     replace q:=Ze q hb9
     replace hc:=Za hb9 _ _ hc
     clear hb hb9
     clear kC
     have hz:Zv rows m' (k:Int)=11:=by
      unfold Zv
      rw [if_pos (by omega),Int.toNat_natCast]
      simp [hd,hcn]
     have hfe:=HH.out (by rw [hz];decide)
     rw [hz] at hfe
     clear HH HG hz hd hcn hc
     go_wp2_with (first | refine Zc rfl 74 _ rfl X rfl pS _ Tryz.underlying74 rfl (by kernel_rfl) ?_ | refine Zd rfl 74 _ _ rfl (w.heap.size+1) [.slice t0a t0n t0c,.slice t1a t1n t1c,.slice t2a t2n t2c,.slice t3a t3n t3c] rfl rfl pZ (by kernel_rfl) rfl rfl ?_)
     intro U2 pZ2 g2
     have bz:=bw.grown g2 bw.size (fun k e=>by cases e;omega)
     have q2:=q.kept g2 (ZI q pZ (by decide))
     have hO2:=hO.kept9 g2 pZ (by decide)
     clear bw g2 pZ q hO pS pP
     go_wp2_with fail
     refine bodyPost_ret (Wt Tryz.results134 _ _ _ _ _ _ rfl pZ2.out Tryz.underlying74 rfl (by kernel_rfl)) rfl ?_
     rw [hfe]
     exact ⟨UL.mk9 ((t0a,t0n,t0c),(t1a,t1n,t1c),(t2a,t2n,t2c),(t3a,t3n,t3c)) _ rfl hO2 q2,bz⟩
    simp only [hcn] at kC
    have hdr:Below u1.heap.size u1 u1.drew:=by go_grown
    have kx:=kC u1.drew (Zb bw hdr) ((hO.below hdr).mem fm)
    clear hdr
    refine wp_region_held_drew (S:=(fun w'=>w'.cell? ⟨w.heap.size,0,none⟩=some (.slice a9 3 cap)∧w'.cell? ⟨X,0,none⟩=some (.slice t0a t0n t0c)∧w'.cell? ⟨X,1,none⟩=some (.slice t1a t1n t1c)∧w'.cell? ⟨X,2,none⟩=some (.slice t2a t2n t2c)∧w'.cell? ⟨X,3,none⟩=some (.slice t3a t3n t3c)∧w'.cell? ⟨lb,lo+i,none⟩=some (.int .i64 (k:Int)))) (by kernel_rfl) ⟨by simpa using pP.cell 0,by simpa using pS.cell 0,by simpa using pS.cell 1,by simpa using pS.cell 2,by simpa using pS.cell 3,hc⟩ (fun hS0=>?_)
    refine tkm 0 43 (.agg #[.slice a9 3 cap]) ?_
    refine tkm 1 44 (.agg #[.slice t0a t0n t0c,.slice t1a t1n t1c,.slice t2a t2n t2c,.slice t3a t3n t3c]) ?_
    refine tkm 2 45 (.slice (some ⟨lb,lo,none⟩) n c) ?_
    refine tkm 3 46 (.int .i64 (i:Int)) ?_
    refine tkm 4 47 (.pointer (some ⟨lb,lo+i,none⟩)) ?_
    refine tkm 5 48 (.int .i64 (k:Int)) ?_
    refine tkr 6 49 (fun K hK=>?_)
    go_simp
    refine (kx).mono ?_
    rintro e u2 ⟨rfl,hb⟩
    go_wp2_with fail
    refine hK.out _ _ ?_ (fun hS1=>?_)
    ·exact ⟨Za hb _ _ hS0.1,Za hb _ _ hS0.2.1,Za hb _ _ hS0.2.2.1,Za hb _ _ hS0.2.2.2.1,Za hb _ _ hS0.2.2.2.2.1,Za hb _ _ hS0.2.2.2.2.2⟩
    clear hK
    refine tkm 7 50 (.bool false) ?_
    refine wpAnyH_done (by kernel_rfl) ?_ _
    clear hS0 hS1 kx
    have hb9:=Zb (by go_grown:Below u1.heap.size u1 u1.drew) hb
    replace bw:=Zb bw hb9
    replace pP:=pP.below hb9
    replace pZ:=pZ.below hb9
    replace pS:=pS.below hb9
    replace hO:=hO.below hb9
    replace q:=Ze q hb9
    replace hc:=Za hb9 _ _ hc
    clear hb hb9
    clear kC
    have hz:Zv rows m' (k:Int)=0:=by
     unfold Zv
     rw [if_pos (by omega),Int.toNat_natCast]
     simp [hd,hcn]
    have hfe:=HG.out hz
    have hfo:=Kj hp hs hz
    have hs2:=ZV hp hs hz
    have kF:=fun (W:World) (b:Below w.heap.size w W) (h:Yk W ((t0a,t0n,t0c),(t1a,t1n,t1c),(t2a,t2n,t2c),(t3a,t3n,t3c)) m')=>NB (cap:=cap) (hR.below b) h hp hs hk hd
    rw [ut] at kF
    generalize (goM rows m' (k:Int)).1=z at *
    generalize X2 rows m' (k:Int)=fs at *
    clear HH HG hz hd hcn ut
    go_wp2_with fail
    have hb9:Below u2.heap.size u2 u2.drew:=by go_grown
    refine wp_region_held_drew (S:=(fun w'=>w'.cell? ⟨w.heap.size,0,none⟩=some (.slice a9 3 cap)∧w'.cell? ⟨X,0,none⟩=some (.slice t0a t0n t0c)∧w'.cell? ⟨X,1,none⟩=some (.slice t1a t1n t1c)∧w'.cell? ⟨X,2,none⟩=some (.slice t2a t2n t2c)∧w'.cell? ⟨X,3,none⟩=some (.slice t3a t3n t3c)∧w'.cell? ⟨lb,lo+i,none⟩=some (.int .i64 (k:Int)))) (by kernel_rfl) ⟨by simpa using pP.cell 0,by simpa using pS.cell 0,by simpa using pS.cell 1,by simpa using pS.cell 2,by simpa using pS.cell 3,hc⟩ (fun hS0=>?_)
    refine tkm 0 54 (.agg #[.slice a9 3 cap]) ?_
    refine tkm 1 55 (.agg #[.slice t0a t0n t0c,.slice t1a t1n t1c,.slice t2a t2n t2c,.slice t3a t3n t3c]) ?_
    refine tkm 2 56 (.slice (some ⟨lb,lo,none⟩) n c) ?_
    refine tkm 3 57 (.int .i64 (i:Int)) ?_
    refine tkm 4 58 (.pointer (some ⟨lb,lo+i,none⟩)) ?_
    refine tkm 5 59 (.int .i64 (k:Int)) ?_
    replace bw:=Zb bw hb9
    replace pP:=pP.below hb9
    replace pZ:=pZ.below hb9
    replace pS:=pS.below hb9
    replace hO:=hO.below hb9
    replace q:=Ze q hb9
    replace hc:=Za hb9 _ _ hc
    clear hb9
    have kFg:=kF
    have kFx:=kF _ bw (hO.mem fm)
    clear kF
    generalize u2.drew=V at *
    refine wpAnyH_ready (rs:=[6,10]) (by kernel_rfl) (by simp) ?_
    refine AllReadyH.cons (o:=⟨some 60,_,_,_,_,_⟩) rfl (fun K hK=>?_) (AllReadyH.cons (o:=⟨some 10,_,_,_,_,_⟩) rfl (fun K hK=>?_) AllReadyH.nil)
    ·go_simp
     refine kFx.mono ?_
     rintro e V1 ⟨⟨⟨⟨z0a,z0n,z0c⟩,⟨z1a,z1n,z1c⟩,⟨z2a,z2n,z2c⟩,⟨z3a,z3n,z3c⟩⟩,v9,rfl,hO2,q2⟩,hb⟩
     have uz:S4.val ((z0a,z0n,z0c),(z1a,z1n,z1c),(z2a,z2n,z2c),(z3a,z3n,z3c))=.agg #[.slice z0a z0n z0c,.slice z1a z1n z1c,.slice z2a z2n z2c,.slice z3a z3n z3c]:=rfl
     rw [uz]
     replace hO2:=hO2.lowerB (B':=w.heap.size) bw.size
     replace q2:=ZY (B':=w.heap.size) q2 bw.size
     obtain ⟨fa,fc,rfl,hI9,hGd9⟩:=XC q2 (fun x hx=>Xp (hfo.1 x hx))
     clear hI9 hGd9
     replace bw:=Zb bw hb
     replace pP:=pP.below hb
     replace pZ:=pZ.below hb
     replace pS:=pS.below hb
     replace hO:=hO.below hb
     replace q:=Ze q hb
     replace hc:=Za hb _ _ hc
     clear hb kFx uz
     go_wp2_with fail
     refine hK.out _ _ ⟨by simpa using pP.cell 0,by simpa using pS.cell 0,by simpa using pS.cell 1,by simpa using pS.cell 2,by simpa using pS.cell 3,hc⟩ (fun hS5=>?_)
     clear hK
     try simp only [Act.put,tka,tkb,tkc]
     refine tkm 7 53 (.tuple #[.agg #[.slice z0a z0n z0c,.slice z1a z1n z1c,.slice z2a z2n z2c,.slice z3a z3n z3c],.slice fa fs.length fc]) ?_
     refine tkm 8 61 (.agg #[.slice z0a z0n z0c,.slice z1a z1n z1c,.slice z2a z2n z2c,.slice z3a z3n z3c]) ?_
     refine tkm 9 62 (.slice fa fs.length fc) ?_
     refine tkr 10 10 (fun K hK=>?_)
     have hb:Below V1.heap.size V1 (V1.alloc (.cells #[.slice none 0 0,.slice none 0 0,.slice none 0 0,.slice none 0 0] 74)):=by go_grown
     have pX:Blk (V1.alloc (.cells #[.slice none 0 0,.slice none 0 0,.slice none 0 0,.slice none 0 0] 74)) V1.heap.size 74 [.slice none 0 0,.slice none 0 0,.slice none 0 0,.slice none 0 0]:=Zo _ _ _ rfl
     have hX9:w.heap.size+1<V1.heap.size∧X<V1.heap.size:=⟨pZ.lt,pS.lt⟩
     replace bw:=Zb bw hb
     replace pP:=pP.below hb
     replace pZ:=pZ.below hb
     replace pS:=pS.below hb
     replace hO:=hO.below hb
     replace q:=Ze q hb
     replace hc:=Za hb _ _ hc
     replace hO2:=hO2.below hb
     replace q2:=Ze q2 hb
     go_simp
     refine hK.out _ _ ⟨by simpa using pP.cell 0,by simpa using pS.cell 0,by simpa using pS.cell 1,by simpa using pS.cell 2,by simpa using pS.cell 3,hc⟩ (fun hS6=>?_)
     clear hK hb
     generalize (V1.alloc (.cells #[.slice none 0 0,.slice none 0 0,.slice none 0 0,.slice none 0 0] 74))=V2 at *
     generalize V1.heap.size=Y at *
     try simp only [Act.put,tka,tkb,tkc]
     refine tkz 11 (fun K hK=>?_)
     refine Zt rfl 74 _ _ rfl Y [.slice z0a z0n z0c,.slice z1a z1n z1c,.slice z2a z2n z2c,.slice z3a z3n z3c] rfl rfl pX (by kernel_rfl) rfl rfl ?_
     intro V8 pX8 g8
     have m0:(some Y:Option Nat)≠some w.heap.size:=by simp;omega
     have m1:(some Y:Option Nat)≠some (w.heap.size+1):=by simp;omega
     have m2:(some Y:Option Nat)≠some X:=by simp;omega
     replace hO2:=hO2.kept9 g8 pX (by decide)
     replace q2:=q2.kept g8 (ZI q2 pX (by decide))
     replace q:=q.kept g8 (ZI q pX (by decide))
     replace pP:=pP.kept g8 m0
     replace pZ:=pZ.kept g8 m1
     replace pS:=pS.kept g8 m2
     replace bw:=bw.grown g8 bw.size (fun j hj=>by cases hj;omega)
     replace hc:=Zh g8 hc (by simp;omega)
     refine hK.out _ _ ⟨by simpa using pP.cell 0,by simpa using pS.cell 0,by simpa using pS.cell 1,by simpa using pS.cell 2,by simpa using pS.cell 3,hc⟩ (fun hS7=>?_)
     clear hK m0 m1 m2 pX g8 hO
     have pX:=pX8.out
     clear pX8
     try simp only [Act.put,tka,tkb,tkc]
     refine tkm 12 11 (.slice fa fs.length fc) ?_
     refine wpAnyH_done (by kernel_rfl) ?_ _
     clear hS0 hS5 hS6 hS7 hc
     go_wp2_with (first | refine Zc rfl 74 _ rfl Y rfl pX _ Tryz.underlying74 rfl (by kernel_rfl) ?_ | refine Zd rfl 74 _ _ rfl X [.slice z0a z0n z0c,.slice z1a z1n z1c,.slice z2a z2n z2c,.slice z3a z3n z3c] rfl rfl pS (by kernel_rfl) rfl rfl ?_)
     intro V9 pS9 g9
     have m0:(some X:Option Nat)≠some w.heap.size:=by simp;omega
     have m1:(some X:Option Nat)≠some (w.heap.size+1):=by simp;omega
     replace hO2:=hO2.kept9 g9 pS (by decide)
     replace q2:=q2.kept g9 (ZI q2 pS (by decide))
     replace q:=q.kept g9 (ZI q pS (by decide))
     replace pP:=pP.kept g9 m0
     replace pZ:=pZ.kept g9 m1
     replace bw:=bw.grown g9 bw.size (fun j hj=>by cases hj;omega)
     have pS:=pS9.out
     clear pS9 g9 m0 m1 pX
     have hI:=WW q (fun x hx=>Xp (hok x hx))
     have hI2:=WW q2 (fun x hx=>Xp (hfo.1 x hx))
     have kM:=SF va out.length vc out fa fs.length fc fs V9 hI hI2 (by omega) (by omega)
     clear hI hI2 q2 q
     go_wp2_with fail
     refine kM.mono ?_
     rintro e V10 ⟨⟨v6,rfl,q6⟩,hb⟩
     replace q6:=ZY (B':=w.heap.size) q6 bw.size
     have st6:OnS w V10 X a9 cap rows ks n (i+1) fin z (Yg out fs) v6:=⟨by omega,hfe,hs2,⟨((z0a,z0n,z0c),(z1a,z1n,z1c),(z2a,z2n,z2c),(z3a,z3n,z3c)),pS.below hb,hO2.below hb⟩,q6,QR hok hfo.1,by have:=RR out fs;have:=hfo.2;omega,Zb bw hb,pP.below hb,pZ.below hb⟩
     clear hb q6 kM pS hO2 bw pP pZ hok hfo hs2 hs fm hfe hXw2 hX9 hlo
     go_wp2
     go_roundw
     case rel=>exact ⟨i+1,_,_,by go_num,st6⟩
     case measure=>simp [intOf];omega
    have hb:Below V.heap.size V (V.alloc (.cells #[.slice none 0 0,.slice none 0 0,.slice none 0 0,.slice none 0 0] 74)):=by go_grown
    have pX:Blk (V.alloc (.cells #[.slice none 0 0,.slice none 0 0,.slice none 0 0,.slice none 0 0] 74)) V.heap.size 74 [.slice none 0 0,.slice none 0 0,.slice none 0 0,.slice none 0 0]:=Zo _ _ _ rfl
    have hX9:w.heap.size+1<V.heap.size∧X<V.heap.size:=⟨pZ.lt,pS.lt⟩
    replace bw:=Zb bw hb
    replace pP:=pP.below hb
    replace pZ:=pZ.below hb
    replace pS:=pS.below hb
    replace hO:=hO.below hb
    replace q:=Ze q hb
    replace hc:=Za hb _ _ hc
    go_simp
    refine hK.out _ _ ⟨by simpa using pP.cell 0,by simpa using pS.cell 0,by simpa using pS.cell 1,by simpa using pS.cell 2,by simpa using pS.cell 3,hc⟩ (fun hS6=>?_)
    clear hK hb
    generalize (V.alloc (.cells #[.slice none 0 0,.slice none 0 0,.slice none 0 0,.slice none 0 0] 74))=V2 at *
    generalize V.heap.size=Y at *
    try simp only [Act.put,tka,tkb,tkc]
    have kFx:=kFg _ bw (hO.mem fm)
    clear kFg
    refine tkr 6 60 (fun K hK=>?_)
    go_simp
    refine kFx.mono ?_
    rintro e V3 ⟨⟨⟨⟨z0a,z0n,z0c⟩,⟨z1a,z1n,z1c⟩,⟨z2a,z2n,z2c⟩,⟨z3a,z3n,z3c⟩⟩,v9,rfl,hO2,q2⟩,hb⟩
    have uz:S4.val ((z0a,z0n,z0c),(z1a,z1n,z1c),(z2a,z2n,z2c),(z3a,z3n,z3c))=.agg #[.slice z0a z0n z0c,.slice z1a z1n z1c,.slice z2a z2n z2c,.slice z3a z3n z3c]:=rfl
    rw [uz]
    replace hO2:=hO2.lowerB (B':=w.heap.size) bw.size
    replace q2:=ZY (B':=w.heap.size) q2 bw.size
    obtain ⟨fa,fc,rfl,hI9,hGd9⟩:=XC q2 (fun x hx=>Xp (hfo.1 x hx))
    clear hI9 hGd9
    replace bw:=Zb bw hb
    replace pP:=pP.below hb
    replace pZ:=pZ.below hb
    replace pS:=pS.below hb
    replace hO:=hO.below hb
    replace q:=Ze q hb
    replace pX:=pX.below hb
    replace hc:=Za hb _ _ hc
    clear hb kFx uz
    go_wp2_with fail
    refine hK.out _ _ ⟨by simpa using pP.cell 0,by simpa using pS.cell 0,by simpa using pS.cell 1,by simpa using pS.cell 2,by simpa using pS.cell 3,hc⟩ (fun hS5=>?_)
    clear hK
    try simp only [Act.put,tka,tkb,tkc]
    refine tkm 7 53 (.tuple #[.agg #[.slice z0a z0n z0c,.slice z1a z1n z1c,.slice z2a z2n z2c,.slice z3a z3n z3c],.slice fa fs.length fc]) ?_
    refine tkm 8 61 (.agg #[.slice z0a z0n z0c,.slice z1a z1n z1c,.slice z2a z2n z2c,.slice z3a z3n z3c]) ?_
    refine tkm 9 62 (.slice fa fs.length fc) ?_
    refine tkz 11 (fun K hK=>?_)
    refine Zt rfl 74 _ _ rfl Y [.slice z0a z0n z0c,.slice z1a z1n z1c,.slice z2a z2n z2c,.slice z3a z3n z3c] rfl rfl pX (by kernel_rfl) rfl rfl ?_
    intro V8 pX8 g8
    have m0:(some Y:Option Nat)≠some w.heap.size:=by simp;omega
    have m1:(some Y:Option Nat)≠some (w.heap.size+1):=by simp;omega
    have m2:(some Y:Option Nat)≠some X:=by simp;omega
    replace hO2:=hO2.kept9 g8 pX (by decide)
    replace q2:=q2.kept g8 (ZI q2 pX (by decide))
    replace q:=q.kept g8 (ZI q pX (by decide))
    replace pP:=pP.kept g8 m0
    replace pZ:=pZ.kept g8 m1
    replace pS:=pS.kept g8 m2
    replace bw:=bw.grown g8 bw.size (fun j hj=>by cases hj;omega)
    replace hc:=Zh g8 hc (by simp;omega)
    refine hK.out _ _ ⟨by simpa using pP.cell 0,by simpa using pS.cell 0,by simpa using pS.cell 1,by simpa using pS.cell 2,by simpa using pS.cell 3,hc⟩ (fun hS7=>?_)
    clear hK m0 m1 m2 pX g8 hO
    have pX:=pX8.out
    clear pX8
    try simp only [Act.put,tka,tkb,tkc]
    refine tkm 12 11 (.slice fa fs.length fc) ?_
    refine wpAnyH_done (by kernel_rfl) ?_ _
    clear hS0 hS5 hS6 hS7 hc
    go_wp2_with (first | refine Zc rfl 74 _ rfl Y rfl pX _ Tryz.underlying74 rfl (by kernel_rfl) ?_ | refine Zd rfl 74 _ _ rfl X [.slice z0a z0n z0c,.slice z1a z1n z1c,.slice z2a z2n z2c,.slice z3a z3n z3c] rfl rfl pS (by kernel_rfl) rfl rfl ?_)
    intro V9 pS9 g9
    have m0:(some X:Option Nat)≠some w.heap.size:=by simp;omega
    have m1:(some X:Option Nat)≠some (w.heap.size+1):=by simp;omega
    replace hO2:=hO2.kept9 g9 pS (by decide)
    replace q2:=q2.kept g9 (ZI q2 pS (by decide))
    replace q:=q.kept g9 (ZI q pS (by decide))
    replace pP:=pP.kept g9 m0
    replace pZ:=pZ.kept g9 m1
    replace bw:=bw.grown g9 bw.size (fun j hj=>by cases hj;omega)
    have pS:=pS9.out
    clear pS9 g9 m0 m1 pX
    have hI:=WW q (fun x hx=>Xp (hok x hx))
    have hI2:=WW q2 (fun x hx=>Xp (hfo.1 x hx))
    have kM:=SF va out.length vc out fa fs.length fc fs V9 hI hI2 (by omega) (by omega)
    clear hI hI2 q2 q
    go_wp2_with fail
    refine kM.mono ?_
    rintro e V10 ⟨⟨v6,rfl,q6⟩,hb⟩
    replace q6:=ZY (B':=w.heap.size) q6 bw.size
    have st6:OnS w V10 X a9 cap rows ks n (i+1) fin z (Yg out fs) v6:=⟨by omega,hfe,hs2,⟨((z0a,z0n,z0c),(z1a,z1n,z1c),(z2a,z2n,z2c),(z3a,z3n,z3c)),pS.below hb,hO2.below hb⟩,q6,QR hok hfo.1,by have:=RR out fs;have:=hfo.2;omega,Zb bw hb,pP.below hb,pZ.below hb⟩
    clear hb q6 kM pS hO2 bw pP pZ hok hfo hs2 hs fm hfe hXw2 hX9 hlo
    go_wp2
    go_roundw
    case rel=>exact ⟨i+1,_,_,by go_num,st6⟩
    case measure=>simp [intOf];omega
   simp only [hd] at kD
   have hdr:Below wr.heap.size wr wr.drew:=by go_grown
   have kx:=kD wr.drew (Zb bw hdr) ((hO.below hdr).mem fm)
   clear hdr
   refine wp_region_held_drew (S:=(fun w'=>w'.cell? ⟨w.heap.size,0,none⟩=some (.slice a9 3 cap)∧w'.cell? ⟨X,0,none⟩=some (.slice t0a t0n t0c)∧w'.cell? ⟨X,1,none⟩=some (.slice t1a t1n t1c)∧w'.cell? ⟨X,2,none⟩=some (.slice t2a t2n t2c)∧w'.cell? ⟨X,3,none⟩=some (.slice t3a t3n t3c)∧w'.cell? ⟨lb,lo+i,none⟩=some (.int .i64 (k:Int)))) (by kernel_rfl) ⟨by simpa using pP.cell 0,by simpa using pS.cell 0,by simpa using pS.cell 1,by simpa using pS.cell 2,by simpa using pS.cell 3,hc⟩ (fun hS0=>?_)
   refine tkm 0 34 (.agg #[.slice a9 3 cap]) ?_
   refine tkm 1 35 (.agg #[.slice t0a t0n t0c,.slice t1a t1n t1c,.slice t2a t2n t2c,.slice t3a t3n t3c]) ?_
   refine tkm 2 36 (.slice (some ⟨lb,lo,none⟩) n c) ?_
   refine tkm 3 37 (.int .i64 (i:Int)) ?_
   refine tkm 4 38 (.pointer (some ⟨lb,lo+i,none⟩)) ?_
   refine tkm 5 39 (.int .i64 (k:Int)) ?_
   refine tkr 6 40 (fun K hK=>?_)
   go_simp
   refine (kx).mono ?_
   rintro e u1 ⟨rfl,hb⟩
   go_wp2_with fail
   refine hK.out _ _ ?_ (fun hS1=>?_)
   ·exact ⟨Za hb _ _ hS0.1,Za hb _ _ hS0.2.1,Za hb _ _ hS0.2.2.1,Za hb _ _ hS0.2.2.2.1,Za hb _ _ hS0.2.2.2.2.1,Za hb _ _ hS0.2.2.2.2.2⟩
   clear hK
   refine wpAnyH_done (by kernel_rfl) ?_ _
   clear hS0 hS1 kx
   have hb9:=Zb (by go_grown:Below wr.heap.size wr wr.drew) hb
   replace bw:=Zb bw hb9
   replace pP:=pP.below hb9
   replace pZ:=pZ.below hb9
   replace pS:=pS.below hb9
   replace hO:=hO.below hb9
   replace q:=Ze q hb9
   replace hc:=Za hb9 _ _ hc
   clear hb hb9
   clear kD kC
   have hz:Zv rows m' (k:Int)=10:=by
    unfold Zv
    rw [if_pos (by omega),Int.toNat_natCast]
    simp [hd]
   have hfe:=HH.out (by rw [hz];decide)
   rw [hz] at hfe
   clear HH HG hz hd hc
   go_wp2_with (first | refine Zc rfl 74 _ rfl X rfl pS _ Tryz.underlying74 rfl (by kernel_rfl) ?_ | refine Zd rfl 74 _ _ rfl (w.heap.size+1) [.slice t0a t0n t0c,.slice t1a t1n t1c,.slice t2a t2n t2c,.slice t3a t3n t3c] rfl rfl pZ (by kernel_rfl) rfl rfl ?_)
   intro U2 pZ2 g2
   have bz:=bw.grown g2 bw.size (fun k e=>by cases e;omega)
   have q2:=q.kept g2 (ZI q pZ (by decide))
   have hO2:=hO.kept9 g2 pZ (by decide)
   clear bw g2 pZ q hO pS pP
   go_wp2_with fail
   refine bodyPost_ret (Wt Tryz.results134 _ _ _ _ _ _ rfl pZ2.out Tryz.underlying74 rfl (by kernel_rfl)) rfl ?_
   rw [hfe]
   exact ⟨UL.mk9 ((t0a,t0n,t0c),(t1a,t1n,t1c),(t2a,t2n,t2c),(t3a,t3n,t3c)) _ rfl hO2 q2,bz⟩
  obtain rfl:i=n:=by omega
  have hfe:fin=(m',out,0):=by rw [← hr,List.drop_of_length_le (by omega)];rfl
  clear hr
  have hXw2:=pS.lt
  obtain ⟨va,vc,rfl,hI,hGd⟩:=XC q (fun x hx=>Xp (hok x hx))
  clear hI hGd
  go_wp2_with (first | refine Zc rfl 74 _ rfl X rfl pS _ Tryz.underlying74 rfl (by kernel_rfl) ?_ | refine Zd rfl 74 _ _ rfl (w.heap.size+1) [.slice t0a t0n t0c,.slice t1a t1n t1c,.slice t2a t2n t2c,.slice t3a t3n t3c] rfl rfl pZ (by kernel_rfl) rfl rfl ?_)
  intro U2 pZ2 g2
  have bz:=bw.grown g2 bw.size (fun k e=>by cases e;omega)
  have q2:=q.kept g2 (ZI q pZ (by decide))
  have hO2:=hO.kept9 g2 pZ (by decide)
  clear bw g2 pZ q hO pS pP
  go_wp2_with fail
  refine bodyPost_ret (Wt Tryz.results134 _ _ _ _ _ _ rfl pZ2.out Tryz.underlying74 rfl (by kernel_rfl)) rfl ?_
  rw [hfe]
  exact ⟨UL.mk9 ((t0a,t0n,t0c),(t1a,t1n,t1c),(t2a,t2n,t2c),(t3a,t3n,t3c)) _ rfl hO2 q2,bz⟩
end Go.Proofs.YtmhlokahmblboaaGreatDoor
