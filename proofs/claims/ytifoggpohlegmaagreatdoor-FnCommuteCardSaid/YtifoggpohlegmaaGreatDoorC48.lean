/-
  Joined: LstI, NorI, ScI.
-/
import Derived.Test.YtifoggpohlegmaaGreatDoorC39
import Derived.Test.YtifoggpohlegmaaGreatDoorC40
import Derived.Test.YtifoggpohlegmaaGreatDoorC41
import Derived.Test.YtifoggpohlegmaaGreatDoorC47

namespace Go.Proofs.YtifoggpohlegmaaGreatDoor
set_option maxRecDepth 100000
set_option maxHeartbeats 16000000
open Go.RowKit
set_option linter.unusedVariables false
set_option linter.unusedSimpArgs false

theorem tab_three (f:Nat→Value):tab 3 f=[f 0,f 1,f 2]:=rfl
def dueC (f:Nat→Nat) (t u:Nat):Nat:=f u+(if u=t then 1 else 0)
theorem okN_due (D:Nat→Nat→Bool) (th:Nat→Nat) (f:Nat→Nat) (k:Nat):okN D th f k=(decide (clk D th k (th k)=dueC f (th k) (th k)) && inC (clk D th k) (dueC f (th k))):=by
 unfold okN inC dueC
 simp only [if_true]
theorem leastT_step (ok:Nat→Bool) (th:Nat→Nat) (n:Nat):leastT ok th (n+1)=if ok n then Nat.min (leastT ok th n) (th n) else leastT ok th n:=rfl
theorem leastT_three {ok:Nat→Bool} {th:Nat→Nat}:∀ n,leastT ok th n≤3
 | 0=>Nat.le_refl _
 | n+1=>by
  rw [leastT_step]
  have:=leastT_three (ok:=ok) (th:=th) n
  split
  ·exact Nat.le_trans (Nat.min_le_left _ _) this
  ·exact this

theorem leastThread_is (a:Option Addr) (n c g:Nat) (es:List I4) (w:World) (h:Evs w a n es) (hn:n≤4096) (hI:inThree es) (hB:Blk w g 178 (tabC n (clk (depE es) (thE es)))) (f:Nat→Nat) (hf:∀ t,f t≤5000) :
  Calls Tryz.prog 126 #[.slice a n c,.slice (some ⟨g,0,none⟩) n n,ck f] w fun e w'=>e=.returned (.int .i64 (leastT (okN (depE es) (thE es) f) (thE es) n:Nat))∧Below w.heap.size w w':=by
 obtain ⟨D,hD⟩:∃ D,D=depE es:=⟨_,rfl⟩
 obtain ⟨th,hT⟩:∃ th,th=thE es:=⟨_,rfl⟩
 rw [← hD,← hT] at hB ⊢
 have HT:Hid (th=thE es):=hT
 clear hD hT
 unfold ck
 have pF:=Blk.new w 178 [.int .i64 (f 0:Nat),.int .i64 (f 1:Nat),.int .i64 (f 2:Nat)]
 have bw:Below w.heap.size w (w.alloc (.cells #[.int .i64 (f 0:Nat),.int .i64 (f 1:Nat),.int .i64 (f 2:Nat)] 178)):=by go_grown
 have hgl9:=hB.lt
 obtain ⟨gF,hgF⟩:∃ gF,gF=w.heap.size:=⟨_,rfl⟩
 have HgF:Hid (gF=w.heap.size):=hgF
 rw [← hgF] at pF
 have hgFw:w.heap.size≤gF:=by omega
 have hgg:g<gF:=by omega
 obtain ⟨ok,hok⟩:∃ ok,ok=okN D th f:=⟨_,rfl⟩
 rw [← hok]
 have HK:Hid (ok=okN D th f):=hok
 clear hok hgF
 go_enter Tryz.func126,Tryz.ntmps126
 go_wp2_with fail
 rw [← HgF.out]
 generalize w.alloc (.cells #[.int .i64 (f 0:Nat),.int .i64 (f 1:Nat),.int .i64 (f 2:Nat)] 178)=U at *
 go_wp2_with fail
 go_loopw [7,14] (fun sl si wr=>∃ i:Nat,i≤n∧sl=.int .i64 (leastT ok th i:Nat)∧si=.int .i64 i∧Hid (Blk wr gF 178 [.int .i64 (f 0:Nat),.int .i64 (f 1:Nat),.int .i64 (f 2:Nat)])∧Below w.heap.size w wr) (fun _ si _=>n - (intOf si).toNat)
 case atStart=>exact ⟨0,by omega,rfl,rfl,pF,bw⟩
 case round =>
  clear pF bw
  obtain ⟨i,hi,rfl,rfl,pF,bw⟩:=hrel
  by_cases hin:i<n
  ·have hin':(i:Int)<(n:Int):=by omega
   have hi0:(0:Int)≤(i:Int):=by omega
   obtain ⟨ge,rfl,hgl,hrg⟩:=ev_range h bw hin
   have hti:(th i:Int)=(evAt es i).1:=by rw [HT.out];exact thE_int hI i
   have ht3:th i<3:=by rw [HT.out];exact thE_three hI i
   generalize evAt es i=x at hrg hti
   obtain ⟨x0,x1,x2,x3⟩:=x
   simp only at hrg hti
   subst hti
   have HL:Hid (leastT ok th (i+1)=if ok i then Nat.min (leastT ok th i) (th i) else leastT ok th i):=rfl
   have hl3:=leastT_three (ok:=ok) (th:=th) i
   have HO:Hid (ok i=(decide (clk D th i (th i)=dueC f (th i) (th i)) && inC (clk D th i) (dueC f (th i)))):=by rw [HK.out];exact okN_due D th f i
   generalize leastT ok th i=l at *
   obtain ⟨t,ht⟩:∃ t,t=th i:=⟨_,rfl⟩
   rw [← ht] at ht3 hrg HL HO
   clear ht
   have pN:=Blk.new wr 38 [.int .i64 0,.int .i64 0,.int .i64 0,.int .i64 0]
   have ha:Below wr.heap.size wr (wr.alloc (.cells #[.int .i64 0,.int .i64 0,.int .i64 0,.int .i64 0] 38)):=by go_grown
   go_wp2_with (first | refine wpList_load_mid rfl 38 _ rfl ge (i*4) rfl [.int .i64 (t:Int),.int .i64 x1,.int .i64 x2,.int .i64 x3] _ hrg Tryz.underlying38 rfl (by kernel_rfl) ?_ | refine wpList_store_blk rfl 38 _ _ rfl wr.heap.size [.int .i64 (t:Int),.int .i64 x1,.int .i64 x2,.int .i64 x3] rfl rfl pN (by kernel_rfl) rfl rfl ?_)
   intro W pX g1
   have hfr:=pF.out.lt
   have pF1:=(pF.out.below ha).kept g1 (by simp;omega)
   have bw1:=(bel_trans bw ha).grown g1 (Nat.le_trans bw.size ha.size) (fun k e=>by cases e;exact bw.size)
   have pX1:=pX.out
   have hXl:=pX1.lt
   have hFX:gF<wr.heap.size:=hfr
   clear pN ha g1 hrg pX bw pF hfr
   generalize wr.heap.size=gX at *
   have pN:=Blk.new W 178 [.int .i64 0,.int .i64 0,.int .i64 0]
   have ha:Below W.heap.size W (W.alloc (.cells #[.int .i64 0,.int .i64 0,.int .i64 0] 178)):=by go_grown
   go_wp2_with (first | refine wpList_load_blk rfl 178 _ rfl gF rfl pF1 _ Tryz.underlying178 rfl (by kernel_rfl) ?_ | refine wpList_store_blk rfl 178 _ _ rfl W.heap.size [.int .i64 (f 0:Nat),.int .i64 (f 1:Nat),.int .i64 (f 2:Nat)] rfl rfl pN (by kernel_rfl) rfl rfl ?_)
   intro V pD g1
   have pF2:Hid (Blk V gF 178 [.int .i64 (f 0:Nat),.int .i64 (f 1:Nat),.int .i64 (f 2:Nat)]):=(pF1.below ha).kept g1 (by simp;omega)
   have pX2:=(pX1.below ha).kept g1 (by simp;omega)
   have bw2:=(bel_trans bw1 ha).grown g1 (Nat.le_trans bw1.size ha.size) (fun k e=>by cases e;exact bw1.size)
   have pD1:=pD.out
   have hsz:=bw1.size
   clear pN ha g1 pX1 pF1 bw1 pD
   generalize W.heap.size=gD at *
   have cX:=pX2.cell 0
   simp only [List.getElem?_cons_zero] at cX
   have ht9:(t:Int)<3:=by omega
   have ht8:(0:Int)≤(t:Int):=by omega
   have c0:=(pD1.cell t).trans ((congrArg (·[t]?) (tab_three fun u=>.int .i64 (f u:Nat))).symm.trans (tab_get _ ht3))
   have f0:=pD1.frozen t
   have hft:=hf t
   have pD2:Hid (Blk (V.setCell ⟨gD,t,none⟩ (.int .i64 (f t+1:Nat))) gD 178 (tab 3 fun u=>.int .i64 (dueC f t u:Nat))):=by
    have:=pD1.set t (.int .i64 (f t+1:Nat))
    have e:[.int .i64 (f 0:Nat),.int .i64 (f 1:Nat),.int .i64 (f 2:Nat)].set t (.int .i64 (f t+1:Nat))=tab 3 (fun u=>.int .i64 (dueC f t u:Nat)):=by
     rw [← tab_three fun u=>.int .i64 (f u:Nat),tab_set]
     refine tab_congr (fun u _=>?_)
     unfold dueC
     by_cases e:u=t
     ·subst e;simp
     ·simp [e]
    rw [e] at this
    exact this
   have gs:V.grownBy (V.setCell ⟨gD,t,none⟩ (.int .i64 (f t+1:Nat))) (some gD):=⟨rfl,rfl,rfl,by simp,fun i _ hr=>Below.heap_setCell V ⟨gD,t,none⟩ _ i (fun e=>hr (by rw [e]))⟩
   have pF3:Hid (Blk _ gF 178 [.int .i64 (f 0:Nat),.int .i64 (f 1:Nat),.int .i64 (f 2:Nat)]):=pF2.out.kept gs (by simp;omega)
   have pX3:=pX2.kept gs (by simp;omega)
   have bw3:=bw2.grown gs bw2.size (fun k e=>by cases e;omega)
   clear pF2 pX2 bw2 pD1 gs
   rw [show ((f t+1:Nat):Int)=(f t:Int)+1 from rfl] at pD2 pF3 pX3 bw3
   go_wp2_with fail
   generalize V.setCell ⟨gD,t,none⟩ (.int .i64 ((f t:Int)+1))=V2 at *
   clear cX c0 f0
   have cX:=pX3.cell 0
   simp only [List.getElem?_cons_zero] at cX
   have pB:=hB.below bw3
   have kt:=(pB.cell (i*3+t)).trans (tabC_get _ hin ht3)
   have dt:=(pD2.out.cell t).trans (tab_get _ ht3)
   have kk:∀ u,u<3→V2.cell? ⟨g,i*3+u,none⟩=some (.int .i64 (clk D th i u:Nat)):=fun u hu=>(pB.cell (i*3+u)).trans (tabC_get _ hin hu)
   have dd:∀ u,u<3→V2.cell? ⟨gD,u,none⟩=some (.int .i64 (dueC f t u:Nat)):=fun u hu=>(pD2.out.cell u).trans (tab_get _ hu)
   have k0:=kk 0 (by omega)
   have k1:=kk 1 (by omega)
   have k2:=kk 2 (by omega)
   have e0:=dd 0 (by omega)
   have e1:=dd 1 (by omega)
   have e2:=dd 2 (by omega)
   rw [Nat.add_zero] at k0
   have kW:=fun W=>within_is (clk D th i) (dueC f t) W
   unfold ck at kW
   clear pB kk dd pX3 pD2
   obtain ⟨o2,ho2⟩:∃ o2,o2=inC (clk D th i) (dueC f t):=⟨_,rfl⟩
   rw [← ho2] at kW HO
   clear ho2
   generalize clk D th i 0=q0 at *
   generalize clk D th i 1=q1 at *
   generalize clk D th i 2=q2 at *
   generalize dueC f t 0=r0 at *
   generalize dueC f t 1=r1 at *
   generalize dueC f t 2=r2 at *
   generalize clk D th i t=qt at *
   generalize dueC f t t=rt at *
   by_cases heq:qt=rt
   ·subst heq
    have qe:((qt:Int) == (qt:Int))=true:=by simp
    have HO2:Hid (ok i=o2):=by rw [Hid,HO.out];simp
    clear HO
    go_quiet (fail)
    have bw4:Below w.heap.size w (V2.drewN nq):=bel_trans bw3 (below_dN nq)
    have pF4:Hid (Blk (V2.drewN nq) gF 178 [.int .i64 (f 0:Nat),.int .i64 (f 1:Nat),.int .i64 (f 2:Nat)]):=pF3.out.drewN nq
    have cX4:(V2.drewN nq).cell? ⟨gX,0,none⟩=some (.int .i64 (t:Int)):=cX
    have k0':(V2.drewN nq).cell? ⟨g,i*3,none⟩=some (.int .i64 (q0:Nat)):=k0
    have k1':(V2.drewN nq).cell? ⟨g,i*3+1,none⟩=some (.int .i64 (q1:Nat)):=k1
    have k2':(V2.drewN nq).cell? ⟨g,i*3+2,none⟩=some (.int .i64 (q2:Nat)):=k2
    have e0':(V2.drewN nq).cell? ⟨gD,0,none⟩=some (.int .i64 (r0:Nat)):=e0
    have e1':(V2.drewN nq).cell? ⟨gD,1,none⟩=some (.int .i64 (r1:Nat)):=e1
    have e2':(V2.drewN nq).cell? ⟨gD,2,none⟩=some (.int .i64 (r2:Nat)):=e2
    clear bw3 pF3 cX k0 k1 k2 e0 e1 e2 kt dt
    generalize V2.drewN nq=V3 at *
    go_wp2_with fail
    go_region_held3 (fun w'=>w'.cell? ⟨g,i*3,none⟩=some (.int .i64 (q0:Nat))∧w'.cell? ⟨g,i*3+1,none⟩=some (.int .i64 (q1:Nat))∧w'.cell? ⟨g,i*3+2,none⟩=some (.int .i64 (q2:Nat))∧w'.cell? ⟨gD,0,none⟩=some (.int .i64 (r0:Nat))∧w'.cell? ⟨gD,1,none⟩=some (.int .i64 (r1:Nat))∧w'.cell? ⟨gD,2,none⟩=some (.int .i64 (r2:Nat))) (first | (exact ⟨k0',k1',k2',e0',e1',e2'⟩) | (refine ⟨?_,?_,?_,?_,?_,?_⟩<;>(apply cells_kept (by assumption);assumption)) | go_keep)
     (first | (go_at_call 170;refine (kW _).mono ?_;rintro e V4 ⟨rfl,hb⟩))
    rename_i hHeld
    have hb5:Below V3.heap.size V3 V4:=bel_trans (by go_grown) hb
    have bw5:=bel_trans bw4 hb5
    have pF5:Hid (Blk V4 gF 178 [.int .i64 (f 0:Nat),.int .i64 (f 1:Nat),.int .i64 (f 2:Nat)]):=pF4.out.below hb5
    have cX5:=cells_kept hb5 _ _ cX4
    clear hHeld k0' k1' k2' e0' e1' e2' cX4 pF4 bw4 hb hb5 kW
    cases o2
    ·have HO3:Hid (leastT ok th (i+1)=l):=by rw [Hid,HL.out,HO2.out];simp
     clear HO2 HL
     go_wp2
     go_roundw
     case rel=>exact ⟨i+1,by omega,by rw [HO3.out],by go_num,pF5,bw5⟩
     case measure=>simp [intOf];omega
    ·have HO3:Hid (leastT ok th (i+1)=Nat.min l t):=by rw [Hid,HL.out,HO2.out];simp
     clear HO2 HL
     by_cases hlt:l<t
     ·have HO4:Hid (leastT ok th (i+1)=l):=by rw [Hid,HO3.out];exact Nat.min_eq_left (by omega)
      have hlt':(l:Int)<(t:Int):=by omega
      have hlt9:¬ (t:Int)<(l:Int):=by omega
      clear HO3 hlt
      go_wp2
      go_roundw
      case rel=>exact ⟨i+1,by omega,by rw [HO4.out]<;>(try (congr 1;omega)),by go_num,pF5,bw5⟩
      case measure=>simp [intOf];omega
     ·have HO4:Hid (leastT ok th (i+1)=t):=by rw [Hid,HO3.out];exact Nat.min_eq_right (by omega)
      clear HO3
      by_cases hle:t<l
      ·have hlt':(t:Int)<(l:Int):=by omega
       have hlt9:¬ (l:Int)<(t:Int):=by omega
       clear hlt hle
       go_wp2
       go_roundw
       case rel=>exact ⟨i+1,by omega,by rw [HO4.out]<;>(try (congr 1;omega)),by go_num,pF5,bw5⟩
       case measure=>simp [intOf];omega
      ·obtain rfl:t=l:=by omega
       have hlt9:¬ (t:Int)<(t:Int):=by omega
       clear hlt hle
       go_wp2
       go_roundw
       case rel=>exact ⟨i+1,by omega,by rw [HO4.out]<;>(try (congr 1;omega)),by go_num,pF5,bw5⟩
       case measure=>simp [intOf];omega
   ·have qe:((qt:Int) == (rt:Int))=false:=by simp;omega
    have HO2:Hid (leastT ok th (i+1)=l):=by rw [Hid,HL.out,HO.out];simp [heq]
    clear HO HL kW heq
    go_quiet (fail)
    go_wp2
    go_quiet (fail)
    go_wp2
    go_roundw
    case rel=>exact ⟨i+1,by omega,by rw [HO2.out],by go_num,pF3.out.drewN _,bel_trans bw3 (below_dN _)⟩
    case measure=>simp [intOf];omega
  ·obtain rfl:i=n:=by omega
   go_wp2
   go_ret
   exact ⟨rfl,bw⟩


def LGot (e:Ending) (w:World) (B:Nat) (ks:List Int) (c:Int):Prop:=∃ v,e=.returned (.tuple #[v,.int .i64 c])∧w.ownsRow B 3 1 v ks.length (ks.map (Value.int .i64))
noncomputable def stJ (es:List I4) (s:Nat):(Nat→Nat) × List Nat:=stI (depE es) (thE es) es.length s
theorem stJ_next (es:List I4) (s:Nat):stJ es (s+1)=(fun t=>(stJ es s).1 t+(if t=leastT (okN (depE es) (thE es) (stJ es s).1) (thE es) es.length then 1 else 0),(stJ es s).2++[leastT (okN (depE es) (thE es) (stJ es s).1) (thE es) es.length]):=rfl
theorem stJ_bound (es:List I4) (t:Nat):∀ s,(stJ es s).1 t≤s
 | 0=>Nat.le_refl _
 | s+1=>by
  rw [stJ_next]
  have:=stJ_bound es t s
  show (stJ es s).1 t+_≤_
  split<;>omega
theorem stJ_least {es:List I4} (h:inThree es) {s:Nat} (hs:s<es.length):leastT (okN (depE es) (thE es) (stJ es s).1) (thE es) es.length<3:=by
 obtain ⟨_,_,_,h4⟩:=norm_same (D:=depE es) (B:=befB (depE es)) (depE_thread h) (thE_three h) (n:=es.length) (fun i k _ _=>befB_iff) s (by omega)
 obtain ⟨b,_,_,hl⟩:=h4 hs
 unfold stJ
 rw [hl]
 exact thE_three h b
theorem stJ_end {es:List I4} (h:inThree es):(stJ es es.length).2.map (fun t:Nat=>(t:Int))=nrmE es:=by
 unfold nrmE stJ
 rw [(norm_is h).2]
theorem stJ_len (es:List I4):∀ s,(stJ es s).2.length=s
 | 0=>rfl
 | s+1=>by rw [stJ_next,List.length_append,stJ_len es s];rfl
theorem nrmE_len {es:List I4} (h:inThree es):(nrmE es).length=es.length:=by
 rw [← stJ_end h,List.length_map,stJ_len]
theorem evsM_three {rows:List (List I3)}:∀ (ks:List Int) (m:V4) (fs:List I3),(runI rows m fs ks).2.2=0→inThree (evsM rows m ks)
 | [],_,_,_=>fun x hx=>by simp [evsM] at hx
 | k::ks,m,fs,h=>by
  obtain ⟨hz,he⟩:=runI_cons h
  rw [he] at h
  have ih:=evsM_three ks _ _ h
  obtain ⟨h0,h2,_⟩:=halt_can hz
  intro x hx
  simp only [evsM,List.mem_cons] at hx
  rcases hx with rfl | hx
  ·show 0≤(eventM rows m k.toNat).1∧(eventM rows m k.toNat).1<3
   unfold eventM
   simp only
   omega
  ·exact ih x hx
theorem evE_three (rows:List (List I3)) (ks:List Int):inThree (evE rows ks):=by
 unfold evE
 split
 ·intro x hx;simp at hx
 ·split
  ·split
   ·rename_i h;exact evsM_three ks _ _ h
   ·intro x hx;simp at hx
  ·intro x hx;simp at hx
theorem evE_len9 (rows:List (List I3)) (ks:List Int):(evE rows ks).length≤4096:=by
 unfold evE
 split
 ·simp
 ·split
  ·split
   ·rw [evsM_len];omega
   ·simp
  ·simp
theorem evE_nil {rows:List (List I3)} {ks:List Int} (h:evK rows ks≠0):evE rows ks=[]:=by
 unfold evK at h
 unfold evE
 split at h
 ·rename_i h1;rw [if_pos h1]
 ·rename_i h1
  rw [if_neg h1]
  split at h
  ·rename_i h2;rw [if_pos h2,if_neg h]
  ·rename_i h2;rw [if_neg h2]
def OnNrm (w wr:World) (gT:Nat) (es:List I4) (s:Nat) (v:Value):Prop:=
 Blk wr gT 178 (tab 3 fun u=>.int .i64 ((stJ es s).1 u:Nat))∧wr.ownsRow w.heap.size 3 1 v s (((stJ es s).2.map (fun t:Nat=>(t:Int))).map (Value.int .i64))∧Below w.heap.size w wr

def L1Got (e:Ending) (w:World) (B:Nat) (ks:List Int):Prop:=∃ v,e=.returned v∧w.ownsRow B 3 1 v ks.length (ks.map (Value.int .i64))

theorem normalOf_is (ea:Option Addr) (n9 ec:Nat) (es:List I4) (w1:World) (hEv:Evs w1 ea n9 es) (hE:n9≤4096) (hec:n9≤ec) (hI:inThree es) (hn9:n9=es.length) :
  Calls Tryz.prog 64 #[.slice ea n9 ec] w1 fun e w'=>L1Got e w' w1.heap.size (nrmE es)∧Below w1.heap.size w1 w':=by
 obtain ⟨i1,hi,hz3,hz4,hz5⟩:=info_parts info_int
 have HL:Hid (n9=es.length):=hn9
 clear hn9
 have kC:=clocksOf_is ea n9 ec es w1 hEv hE hec hI
 go_enter Tryz.func64,Tryz.ntmps64
 go_wp2_with fail
 refine kC.mono ?_
 rintro e w2 ⟨gC,rfl,pC,hgC,hb⟩
 have hEv2:=hEv.below hb
 have bw2:=hb
 clear kC hb hEv hgC
 have ha:Below w2.heap.size w2 (w2.alloc (.cells #[.int .i64 0,.int .i64 0,.int .i64 0] 178)):=by go_grown
 have pT:=Blk.new w2 178 [.int .i64 0,.int .i64 0,.int .i64 0]
 have st:OnNrm w2 (w2.alloc (.cells #[.int .i64 0,.int .i64 0,.int .i64 0] 178)) w2.heap.size es 0 (.slice none 0 0):=⟨pT,World.ownsRow_nil _ _ _ _,ha⟩
 have HLs:Hid (∀ s,s<n9→leastT (okN (depE es) (thE es) (stJ es s).1) (thE es) n9<3):=fun s hs=>by
  have:=stJ_least hI (s:=s) (by rw [← HL.out];exact hs)
  rw [← HL.out] at this
  exact this
 have HNx:Hid (∀ s,stJ es (s+1)=(fun t=>(stJ es s).1 t+(if t=leastT (okN (depE es) (thE es) (stJ es s).1) (thE es) n9 then 1 else 0),(stJ es s).2++[leastT (okN (depE es) (thE es) (stJ es s).1) (thE es) n9])):=fun s=>by rw [HL.out];exact stJ_next es s
 have kL:=fun W (b:Below w2.heap.size w2 W) (f:Nat→Nat) (hf:∀ t,f t≤5000)=>leastThread_is ea n9 ec gC es W (hEv2.below b) hE hI (pC.below b) f hf
 unfold ck at kL
 obtain ⟨gT,hgT⟩:∃ gT,gT=w2.heap.size:=⟨_,rfl⟩
 have hgTw:w2.heap.size≤gT:=by omega
 rw [← hgT] at st
 have HG:Hid (gT=w2.heap.size):=hgT
 clear pC hEv2 pT ha hgT
 go_wp2_with fail
 rw [← HG.out]
 go_loopw [4,11] (fun sv si wr=>∃ (s:Nat) (vv:Value),s≤n9∧vv=sv∧si=.int .i64 s∧OnNrm w2 wr gT es s vv) (fun _ si _=>n9 - (intOf si).toNat)
 case atStart=>exact ⟨0,_,by omega,rfl,rfl,st⟩
 case round =>
  clear st
  obtain ⟨s,vv,hs,rfl,rfl,pT,q,b2⟩:=hrel
  by_cases hsn:s<n9
  ·have hsn':(s:Int)<(n9:Int):=by omega
   have kLx:=kL wr b2 (stJ es s).1 (fun t=>by have:=stJ_bound es t s;omega)
   have hl3:=HLs.out s hsn
   have HX:Hid (stJ es (s+1)=_):=HNx.out s
   have hll:=stJ_len es s
   have hbd:=fun t=>stJ_bound es t s
   generalize leastT (okN (depE es) (thE es) (stJ es s).1) (thE es) n9=l at *
   have pT9:=pT
   rw [tab_three] at pT9
   go_wp2_with (first | refine wpList_load_blk rfl 178 _ rfl gT rfl pT9 _ Tryz.underlying178 rfl (by kernel_rfl) ?_)
   refine kLx.mono ?_
   rintro e w3 ⟨rfl,hb⟩
   have pT3:=pT.below hb
   have q3:=owns_below q hb
   have b3:=bel_trans b2 hb
   clear kLx hb pT pT9 q b2
   have ht9:(l:Int)<3:=by omega
   have ht8:(0:Int)≤(l:Int):=by omega
   have c0:=(pT3.cell l).trans (tab_get _ hl3)
   have f0:=pT3.frozen l
   have hft:=hbd l
   have pT4:Hid (Blk (w3.setCell ⟨gT,l,none⟩ (.int .i64 (((stJ es s).1 l:Nat)+1:Int))) gT 178 (tab 3 fun u=>.int .i64 ((stJ es (s+1)).1 u:Nat))):=by
    have:=pT3.set l (.int .i64 (((stJ es s).1 l:Nat)+1:Int))
    rw [tab_set] at this
    unfold Hid
    rw [HX.out]
    refine this.trans ?_
    congr 3
    refine tab_congr (fun u _=>?_)
    by_cases e:u=l
    ·subst e;simp
    ·simp [e]
   have gs:w3.grownBy (w3.setCell ⟨gT,l,none⟩ (.int .i64 (((stJ es s).1 l:Nat)+1:Int))) (some gT):=⟨rfl,rfl,rfl,by simp,fun i _ hr=>Below.heap_setCell w3 ⟨gT,l,none⟩ _ i (fun e=>hr (by rw [e]))⟩
   have q4:=q3.kept gs (.inr (own_ne_blk q3 pT3 (by decide)))
   have b4:=b3.grown gs b3.size (fun x hx=>by cases hx;exact hgTw)
   have hsz:=b4.size
   clear pT3 q3 b3 gs
   obtain ⟨wx,hwx⟩:∃ wx,wx=w3.setCell ⟨gT,l,none⟩ (.int .i64 (((stJ es s).1 l:Nat)+1:Int)):=⟨_,rfl⟩
   rw [← hwx] at pT4 q4 b4 hsz
   have HW:Hid (wx=w3.setCell ⟨gT,l,none⟩ (.int .i64 (((stJ es s).1 l:Nat)+1:Int))):=hwx
   have HZ:Hid (w3.heap.size=wx.heap.size):=by rw [Hid,hwx];simp
   clear hwx
   go_wp2_with (at_builtin;rw [← HW.out];(try rw [HZ.out]);refine wpList_append_own _ rfl _ _ 27 rfl w2.heap.size 3 i1 (.int .i64 0) 1 8 Tryz.underlying27 hi hz3 hz4 hz5 rfl (by decide) _ _ _ rfl (q4.alloc _) ⟨wx.heap.size,0,none⟩ 1 1 [.int .i64 (l:Int)] rfl rfl (cell_one_new _ _ _) (by simp [Value.oneCell']) ?c3 ?c4 ?c5 ?_)
   case c3=>unfold maxLen;omega
   case c4=>omega
   case c5=>simp;omega
   intro v' wn hown' hgrow hx9
   clear hx9
   have ha:Below wx.heap.size wx (wx.alloc (.cells #[.int .i64 (l:Int)] 3)):=by go_grown
   have R:wn.ownsRow w2.heap.size 3 1 v' (s+1) (((stJ es (s+1)).2.map (fun t:Nat=>(t:Int))).map (Value.int .i64)):=by
    rw [HX.out]
    simp only [List.map_append,List.map_map,List.map_cons,List.map_nil,Function.comp_apply]
    exact hown'
   have qa:=owns_below q4 ha
   have st2:OnNrm w2 wn gT es (s+1) v':=by
    have pTa:=pT4.out.below ha
    exact ⟨pTa.kept hgrow (own_ne_blk qa pTa (by decide)),R,(bel_trans b4 ha).grown hgrow (Nat.le_trans hsz ha.size) (fun x hx=>(q4.lt x hx).1)⟩
   clear hown' hgrow R qa ha q4 pT4 b4
   go_wp2
   go_roundw
   case rel=>exact ⟨s+1,_,by omega,rfl,by go_num,st2⟩
   case measure=>simp [intOf];omega
  ·obtain rfl:s=n9:=by omega
   have HE:Hid ((stJ es s).2.map (fun t:Nat=>(t:Int))=nrmE es):=by
    have:=stJ_end hI
    rw [← HL.out] at this
    exact this
   have hl9:(nrmE es).length=s:=by rw [← HE.out,List.length_map,stJ_len]
   rw [HE.out] at q
   have q9:=own_lowerB (B':=w1.heap.size) q bw2.size
   have b9:=bel_trans bw2 b2
   clear pT q
   go_wp2
   go_ret
   exact ⟨⟨_,rfl,by rw [hl9];exact q9⟩,b9⟩

theorem implNormalOf_is (a:Option Addr) (len cap:Nat) (rows:List (List I3)) (la:Option Addr) (n c:Nat) (ks:List Int) (w:World) (hC:Codes w a len cap rows) (hV:VmShape w) (hL:Ints .i64 w la n c ks) :
  Calls Tryz.prog 19 #[.agg #[.slice a len cap],.slice la n c] w fun e w'=>LGot e w' w.heap.size (nrmE (evE rows ks)) (evK rows ks)∧Below w.heap.size w w':=by
 have hI:=evE_three rows ks
 have hE:=evE_len9 rows ks
 have kE:=fun W (b:Below w.heap.size w W)=>implEventsOf_is a len cap rows la n c ks W (hC.below b) (hV.below b) (hL.below b)
 have HN:Hid (evK rows ks≠0→nrmE (evE rows ks)=[]):=fun h=>by rw [evE_nil h];rfl
 generalize evE rows ks=es at *
 generalize evK rows ks=cd at *
 have bw:Below w.heap.size w (w.alloc (.cells #[.slice a len cap] 25)):=by go_grown
 have pP:Blk (w.alloc (.cells #[.slice a len cap] 25)) w.heap.size 25 [.slice a len cap]:=blkAt _ _ _ rfl
 clear hC hV hL
 go_enter Tryz.func19,Tryz.ntmps19
 go_wp2_with fail
 generalize (w.alloc (.cells #[.slice a len cap] 25))=U at *
 go_wp2_with (first | refine wpList_load_blk rfl 25 _ rfl w.heap.size rfl pP _ Tryz.underlying25 rfl (by kernel_rfl) ?_)
 refine (kE _ bw).mono ?_
 rintro e w1 ⟨⟨v,rfl,q⟩,hb⟩
 replace bw:=bel_trans bw hb
 clear kE pP hb
 by_cases hcd:cd=0
 case neg =>
  have hne:(cd != 0)=true:=by simp [hcd]
  have HE:Hid (nrmE es=[]):=HN.out hcd
  clear q HN hcd
  go_wp2
  go_ret2
  rw [HE.out]
  exact ⟨⟨_,rfl,World.ownsRow_nil _ _ _ _⟩,bw⟩
 subst hcd
 clear HN
 obtain ⟨ea,ec,rfl,hEv⟩:=evs_slice q
 have hec:es.length≤ec:=by
  rcases q.2 with ⟨h1,_⟩ | ⟨g9,cap9,cur9,h1,_,_,h2,_⟩
  ·simp at h1;omega
  ·simp at h1;omega
 clear q
 obtain ⟨n9,hn9⟩:∃ n9,n9=es.length:=⟨_,rfl⟩
 rw [← hn9] at hEv hE hec ⊢
 have kN:=normalOf_is ea n9 ec es w1 hEv hE hec hI hn9
 clear hn9 hEv hec
 go_wp2_with fail
 refine kN.mono ?_
 rintro e w2 ⟨⟨v,rfl,q⟩,hb⟩
 have q9:=own_lowerB (B':=w.heap.size) q bw.size
 replace bw:=bel_trans bw hb
 clear kN q hb
 go_wp2
 go_ret2
 exact ⟨⟨_,rfl,q9⟩,bw⟩


theorem slEqual_is (a:Option Addr) (n c:Nat) (xs:List Int) (a':Option Addr) (n' c':Nat) (ys:List Int) (w:World) (h:Ints .i64 w a n c xs) (h':Ints .i64 w a' n' c' ys) :
  Calls Tryz.prog 61 #[.slice a n c,.slice a' n' c'] w fun e w'=>e=.returned (.bool (decide (xs=ys)))∧∃ d,w'=w.drewN d:=by
 obtain ⟨dd,hdd⟩:∃ dd,dd=decide (xs=ys):=⟨_,rfl⟩
 rw [← hdd]
 have HD:Hid (dd=decide (xs=ys)):=hdd
 clear hdd
 obtain ⟨hl,hlc,hcm,hcase⟩:=h
 obtain ⟨hl',hlc',hcm',hcase'⟩:=h'
 unfold maxLen at hcm hcm'
 by_cases hnn:n=n'
 case neg =>
  have hne:((n:Int) != (n':Int))=true:=by simp;omega
  have HF:Hid (dd=false):=by
   rw [Hid,HD.out,decide_eq_false_iff_not]
   intro e
   rw [e,hl'] at hl
   exact hnn hl.symm
  clear hcase hcase'
  go_enter Tryz.func61,Tryz.ntmps61
  go_wp2
  go_ret
  exact ⟨by rw [HF.out];rfl,0,rfl⟩
 subst hnn
 have hne:((n:Int) != (n:Int))=false:=by simp
 by_cases h0:n=0
 ·subst h0
  have HT:Hid (dd=true):=by
   rw [Hid,HD.out,decide_eq_true_iff,List.length_eq_zero_iff.1 hl,List.length_eq_zero_iff.1 hl']
  clear hcase hcase' hl hl'
  go_enter Tryz.func61,Tryz.ntmps61
  go_wp2
  refine wp_loop_rounds 1 ?_
  rw [rounds_succ]
  go_wp2
  go_ret
  exact ⟨by rw [HT.out];rfl,0,rfl⟩
 ·rcases hcase with h0' | ⟨b,off,rfl,hblt,hcell⟩
  ·exact absurd h0' h0
  rcases hcase' with h0' | ⟨b',off',rfl,hblt',hcell'⟩
  ·exact absurd h0' h0
  have HL:Hid (xs.length=n∧ys.length=n):=⟨hl,hl'⟩
  clear hl hl'
  go_enter Tryz.func61,Tryz.ntmps61
  go_wp2
  go_loopw [13] (fun si wr=>∃ k d:Nat,k≤n∧si=.int .i64 k∧Hid (∀ i,i<k→xs.getD i 0=ys.getD i 0)∧wr=w.drewN d) (fun si _=>n - (intOf si).toNat)
  case atStart=>exact ⟨0,0,by omega,rfl,fun i hi=>by omega,rfl⟩
  case round =>
   obtain ⟨k,d,hk,rfl,hH,rfl⟩:=hrel
   by_cases hlt:k<n
   ·have hc:=hcell k hlt
    have hc':=hcell' k hlt
    have hlt':(k:Int)<(n:Int):=by omega
    clear hcell hcell'
    by_cases hx:xs.getD k 0=ys.getD k 0
    ·have hH2:Hid (∀ i,i<k+1→xs.getD i 0=ys.getD i 0):=fun i hi=>by
      by_cases e:i=k
      ·subst e;exact hx
      ·exact hH.out i (by omega)
     rw [← hx] at hc'
     clear hx hH
     generalize xs.getD k 0=x at hc hc'
     have hxx:(x != x)=false:=by simp
     go_wp2
     go_quiet (fail)
     go_wp2
     go_roundw
     case rel=>exact ⟨k+1,_,by omega,by go_num,hH2,rfl⟩
     case measure=>simp [intOf];omega
    ·have HF:Hid (dd=false):=by
      rw [Hid,HD.out,decide_eq_false_iff_not]
      intro e
      rw [e] at hx
      exact hx rfl
     have hxx:(xs.getD k 0 != ys.getD k 0)=true:=by simpa using hx
     clear hx hH
     generalize xs.getD k 0=x at hc hxx
     generalize ys.getD k 0=y at hc' hxx
     go_wp2
     go_quiet (fail)
     go_wp2
     go_ret
     exact ⟨by rw [HF.out];rfl,d+nq,by simp [World.drewN];omega⟩
   ·have HT:Hid (dd=true):=by
     rw [Hid,HD.out,decide_eq_true_iff]
     have hL:=HL.out
     exact ext_getDL (by omega) (fun i hi=>hH.out i (by omega))
    clear hcell hcell' hH
    go_wp2
    go_ret
    exact ⟨by rw [HT.out];rfl,d,rfl⟩

theorem specNormalOf_is (a:Option Addr) (len cap:Nat) (rows:List (List I3)) (la:Option Addr) (n c:Nat) (ks:List Int) (w:World) (hC:Codes w a len cap rows) (hL:Ints .i64 w la n c ks) :
  Calls Tryz.prog 20 #[.agg #[.slice a len cap],.slice la n c] w fun e w'=>LGot e w' w.heap.size (nrmE (evE rows ks)) (evK rows ks)∧Below w.heap.size w w':=by
 have hI:=evE_three rows ks
 have hE:=evE_len9 rows ks
 have HN:Hid (evK rows ks≠0→nrmE (evE rows ks)=[]):=fun h=>by rw [evE_nil h];rfl
 have bw:Below w.heap.size w (w.alloc (.cells #[.slice a len cap] 25)):=by go_grown
 have pP:Blk (w.alloc (.cells #[.slice a len cap] 25)) w.heap.size 25 [.slice a len cap]:=blkAt _ _ _ rfl
 by_cases hn:4096<n
 ·have hn':(4096:Int)<(n:Int):=by omega
  have e1:evK rows ks=2:=by unfold evK;rw [hL.1,if_pos hn]
  rw [HN.out (by rw [e1];decide),e1]
  clear hC hL hn pP HN hI hE e1
  go_enter Tryz.func20,Tryz.ntmps20
  go_wp2
  go_ret2
  exact ⟨⟨_,rfl,by simpa using own_emptyB (w.alloc (.cells #[.slice a len cap] 25)) 3 1 w.heap.size (by simp)⟩,bel_trans bw (by go_grown)⟩
 have hn':¬ (4096:Int)<(n:Int):=by omega
 have kA:=fun W (b:Below w.heap.size w W)=>l05Ask_is a len cap rows la n c W (hC.below b) hn
 cases hp:progOk rows
 ·have e1:evK rows ks=1:=by unfold evK;rw [hL.1,if_neg hn,hp];rfl
  rw [HN.out (by rw [e1];decide),e1]
  rw [hp] at kA
  simp only [Bool.false_eq_true,if_false] at kA
  clear hp hC hL hn HN hI hE e1
  go_enter Tryz.func20,Tryz.ntmps20
  go_wp2_with fail
  generalize (w.alloc (.cells #[.slice a len cap] 25))=U at *
  go_wp2_with (first | refine wpList_load_blk rfl 25 _ rfl w.heap.size rfl pP _ Tryz.underlying25 rfl (by kernel_rfl) ?_)
  refine (kA _ bw).mono ?_
  rintro e w1 ⟨rfl,hb⟩
  replace bw:=bel_trans bw hb
  have q:=own_emptyB w1 3 1 w.heap.size bw.size
  have bz:=bel_trans bw (by go_grown:Below w1.heap.size w1 (w1.alloc (.cells #[] 3)))
  clear hb kA pP bw
  go_wp2
  go_ret2
  exact ⟨⟨_,rfl,q⟩,bz⟩
 ·rw [hp] at kA
  simp only [if_true] at kA
  obtain ⟨rfl,cs,hR⟩:=hC.rowsAt hp
  have kE:=fun W (b:Below w.heap.size w W)=>l05Events_is (cap:=cap) (hR.below b) hp (hL.below b) (by omega)
  have e1:(if (runI rows zeroV [] ks).2.2=0 then evsM rows zeroV ks else [])=evE rows ks:=by unfold evE;rw [hL.1,if_neg hn,hp];rfl
  have e2:(runI rows zeroV [] ks).2.2=evK rows ks:=by unfold evK;rw [hL.1,if_neg hn,hp];rfl
  rw [e1,e2] at kE
  clear e1 e2
  generalize evE rows ks=es at *
  generalize evK rows ks=cd at *
  clear hp hC hL hn hR
  go_enter Tryz.func20,Tryz.ntmps20
  go_wp2_with fail
  generalize (w.alloc (.cells #[.slice a 3 cap] 25))=U at *
  go_wp2_with (first | refine wpList_load_blk rfl 25 _ rfl w.heap.size rfl pP _ Tryz.underlying25 rfl (by kernel_rfl) ?_)
  refine (kA _ bw).mono ?_
  rintro e w1 ⟨rfl,hb⟩
  replace bw:=bel_trans bw hb
  replace pP:=pP.below hb
  clear hb kA
  go_wp2_with (first | refine wpList_load_blk rfl 25 _ rfl w.heap.size rfl pP _ Tryz.underlying25 rfl (by kernel_rfl) ?_)
  refine (kE _ bw).mono ?_
  rintro e w2 ⟨⟨v,rfl,q⟩,hb⟩
  replace bw:=bel_trans bw hb
  clear hb kE pP
  by_cases hcd:cd=0
  ·subst hcd
   obtain ⟨ea,ec,rfl,hEv⟩:=evs_slice q
   have kN:=l05Normal_is ea es.length ec es w2 hEv hE hI
   obtain ⟨n9,hn9⟩:∃ n9,n9=es.length:=⟨_,rfl⟩
   rw [← hn9] at kN ⊢
   clear q hEv hn9 HN
   go_wp2_with fail
   refine kN.mono ?_
   rintro e w3 ⟨⟨v3,rfl,q3⟩,hb⟩
   replace q3:=own_lowerB (B':=w.heap.size) q3 bw.size
   replace bw:=bel_trans bw hb
   clear hb kN
   go_wp2
   go_ret2
   exact ⟨⟨_,rfl,q3⟩,bw⟩
  ·have hne:(cd != 0)=true:=by simp [hcd]
   have HE:Hid (nrmE es=[]):=HN.out hcd
   have q9:=own_emptyB w2 3 1 w.heap.size bw.size
   have bz:=bel_trans bw (by go_grown:Below w2.heap.size w2 (w2.alloc (.cells #[] 3)))
   clear q HN hcd bw
   go_wp2
   go_ret2
   rw [HE.out]
   exact ⟨⟨_,rfl,q9⟩,bz⟩

theorem ints_of_row {w:World} {B n c:Nat} {a:Option Addr} {xs:List Int} (h:w.ownsRow B 3 1 (.slice a n c) n (xs.map (Value.int .i64))):Ints .i64 w a n c xs:=by
 have hl:=h.1
 rw [List.length_map,Nat.mul_one] at hl
 rcases h.2 with ⟨h1,h2⟩ | ⟨g,cap,cur,h1,_,_,h3,h4,_⟩
 ·cases h1
  exact ⟨hl,Nat.le_refl _,Nat.zero_le _,.inl rfl⟩
 ·cases h1
  exact Ints.of_owns h
noncomputable def scV (rows:List (List I3)) (ks ls:List Int):Bool:=if 4096<ks.length∨4096<ls.length then false else if evK rows ks=0 then (if evK rows ls=0 then decide (nrmE (evE rows ks)=nrmE (evE rows ls)) else false) else false
def scC (rows:List (List I3)) (ks ls:List Int):Int:=if 4096<ks.length∨4096<ls.length then 2 else if evK rows ks=0 then evK rows ls else evK rows ks

theorem implSameClass_is (a:Option Addr) (len cap:Nat) (rows:List (List I3)) (la:Option Addr) (n c:Nat) (ks:List Int) (lb:Option Addr) (n' c':Nat) (ls:List Int) (w:World) (hC:Codes w a len cap rows) (hV:VmShape w) (hL:Ints .i64 w la n c ks) (hM:Ints .i64 w lb n' c' ls) :
  Calls Tryz.prog 17 #[.agg #[.slice a len cap],.slice la n c,.slice lb n' c'] w fun e w'=>e=.returned (.tuple #[.bool (scV rows ks ls),.int .i64 (scC rows ks ls)])∧Below w.heap.size w w':=by
 have bw:Below w.heap.size w (w.alloc (.cells #[.slice a len cap] 25)):=by go_grown
 have pP:Blk (w.alloc (.cells #[.slice a len cap] 25)) w.heap.size 25 [.slice a len cap]:=blkAt _ _ _ rfl
 unfold scV scC
 rw [hL.1,hM.1]
 by_cases h1:4096<n
 ·have h1':(4096:Int)<(n:Int):=by omega
  rw [if_pos (Or.inl h1),if_pos (Or.inl h1)]
  clear hC hL hM h1 hV pP
  go_enter Tryz.func17,Tryz.ntmps17
  go_wp2
  go_ret2
  exact ⟨rfl,bw⟩
 have h1':¬ (4096:Int)<(n:Int):=by omega
 by_cases h2:4096<n'
 ·have h2':(4096:Int)<(n':Int):=by omega
  rw [if_pos (Or.inr h2),if_pos (Or.inr h2)]
  clear hC hL hM h1 h2 hV pP
  go_enter Tryz.func17,Tryz.ntmps17
  go_wp2
  go_ret2
  exact ⟨rfl,bw⟩
 have h2':¬ (4096:Int)<(n':Int):=by omega
 have h9:¬ (4096<n∨4096<n'):=by omega
 rw [if_neg h9,if_neg h9]
 have kN:=fun W (b:Below w.heap.size w W)=>implNormalOf_is a len cap rows la n c ks W (hC.below b) (hV.below b) (hL.below b)
 have kM:=fun W (b:Below w.heap.size w W)=>implNormalOf_is a len cap rows lb n' c' ls W (hC.below b) (hV.below b) (hM.below b)
 generalize nrmE (evE rows ks)=xs at *
 generalize nrmE (evE rows ls)=ys at *
 generalize evK rows ks=ck1 at *
 generalize evK rows ls=ck2 at *
 obtain ⟨b9,hb9⟩:∃ b9,b9=(if ck1=0 then (if ck2=0 then decide (xs=ys) else false) else false):=⟨_,rfl⟩
 obtain ⟨c9,hc9⟩:∃ c9,c9=(if ck1=0 then ck2 else ck1):=⟨_,rfl⟩
 have HB:Hid (b9=(if ck1=0 then (if ck2=0 then decide (xs=ys) else false) else false)∧c9=(if ck1=0 then ck2 else ck1)):=⟨hb9,hc9⟩
 rw [← hb9,← hc9]
 clear hC hL hM h1 h2 h9 hV hb9 hc9
 go_enter Tryz.func17,Tryz.ntmps17
 go_wp2_with fail
 generalize (w.alloc (.cells #[.slice a len cap] 25))=U at *
 go_wp2_with (first | refine wpList_load_blk rfl 25 _ rfl w.heap.size rfl pP _ Tryz.underlying25 rfl (by kernel_rfl) ?_)
 refine (kN _ bw).mono ?_
 rintro e w1 ⟨⟨v1,rfl,q1⟩,hb⟩
 replace bw:=bel_trans bw hb
 replace pP:=pP.below hb
 clear hb kN
 by_cases e1:ck1=0
 ·subst e1
  go_wp2_with (first | refine wpList_load_blk rfl 25 _ rfl w.heap.size rfl pP _ Tryz.underlying25 rfl (by kernel_rfl) ?_)
  refine (kM _ bw).mono ?_
  rintro e w2 ⟨⟨v2,rfl,q2⟩,hb⟩
  replace bw:=bel_trans bw hb
  replace q1:=owns_below q1 hb
  clear hb kM pP
  by_cases e2:ck2=0
  ·subst e2
   obtain ⟨x1,y1,rfl⟩:=owns_sliceN q1
   obtain ⟨x2,y2,rfl⟩:=owns_sliceN q2
   have kS:=slEqual_is x1 xs.length y1 xs x2 ys.length y2 ys w2 (ints_of_row q1) (ints_of_row q2)
   obtain ⟨n1,hn1⟩:∃ n1,n1=xs.length:=⟨_,rfl⟩
   obtain ⟨n2,hn2⟩:∃ n2,n2=ys.length:=⟨_,rfl⟩
   rw [← hn1,← hn2] at kS
   rw [← hn1,← hn2]
   clear q1 q2 hn1 hn2
   go_wp2_with fail
   refine kS.mono ?_
   rintro e w3 ⟨rfl,d,rfl⟩
   clear kS
   go_wp2
   go_ret2
   rw [HB.out.1,HB.out.2]
   exact ⟨rfl,bel_trans bw (below_dN d)⟩
  ·have hne:(ck2 != 0)=true:=by simp [e2]
   have HB2:Hid (b9=false∧c9=ck2):=by rw [Hid,HB.out.1,HB.out.2];simp [e2]
   clear q1 q2 e2
   go_wp2
   go_ret2
   rw [HB2.out.1,HB2.out.2]
   exact ⟨rfl,bw⟩
 ·have hne:(ck1 != 0)=true:=by simp [e1]
  have HB2:Hid (b9=false∧c9=ck1):=by rw [Hid,HB.out.1,HB.out.2];simp [e1]
  clear q1 e1 kM pP
  go_wp2
  go_ret2
  rw [HB2.out.1,HB2.out.2]
  exact ⟨rfl,bw⟩
end Go.Proofs.YtifoggpohlegmaaGreatDoor
