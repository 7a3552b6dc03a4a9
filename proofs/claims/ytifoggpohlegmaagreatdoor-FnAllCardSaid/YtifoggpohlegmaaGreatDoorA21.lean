/-
  Joined: RpC, RpD, RpE, RpF.
-/
import Derived.Recover
import Derived.Test.YtifoggpohlegmaaGreatDoorA16
import Derived.Test.YtifoggpohlegmaaGreatDoorA20

namespace Go.Proofs.YtifoggpohlegmaaGreatDoor
set_option maxRecDepth 100000
set_option maxHeartbeats 16000000
open Go.RowKit
set_option linter.unusedVariables false
set_option linter.unusedSimpArgs false

theorem catch_halt (p:Addr) (x:Value) (c:Int) (older:List PanicEntry) (w:World) (hc:w.cell? p=some x) (hz:w.frozen? p=false) :
  CallsD Tryz.prog 116 #[.pointer (some p)] (.panicking ({ v:=.iface 162 (.int .i64 c),recovered:=false }::older)) w fun e u' w' =>
   e=.returned (.tuple #[])∧u'=.panicking ({ v:=.iface 162 (.int .i64 c),recovered:=true }::older)∧w'=w.setCell p (.int .i64 c):=by
 have hA:=halt_of_halt
 refine callsD_of_wpS Tryz.func116 rfl fun c₀ cs hu=>?_
 apply wpS_seq
 apply wpS_region
 simp [wpOpsS,go_sem,recoverD,hu,Tryz.ntmps116,Exit.thenS]
 refine wpS_of_wp ?_
 show Code.wp Tryz.prog _ _ { tmps:=#[.pointer (some p),.iface 162 (.int .i64 c),.iface 162 (.int .i64 c),undef,undef,undef,undef,undef],defers:=[] } w
 go_wp2
 exact ⟨rfl,_,rfl,_,results_none rfl _ _ _,rfl,rfl,rfl⟩

theorem catch_idle (p:Addr) (w:World) :
  CallsD Tryz.prog 116 #[.pointer (some p)] .returning w fun e u' w'=>e=.returned (.tuple #[])∧u'=.returning∧w'=w:=by
 refine callsD_of_wpS Tryz.func116 rfl fun c₀ cs hu=>?_
 apply wpS_seq
 apply wpS_region
 simp [wpOpsS,go_sem,recoverD,hu,Tryz.ntmps116,Exit.thenS]
 refine wpS_of_wp ?_
 show Code.wp Tryz.prog _ _ { tmps:=#[.pointer (some p),.nilIface,.nilIface,undef,undef,undef,undef,undef],defers:=[] } w
 go_wp2
 exact ⟨rfl,.returning,by cases c₀;simp_all,_,results_none rfl _ _ _,rfl,rfl,rfl⟩


def ListAt (w:World) (B:Nat) (a:Option Addr) (n c:Nat) (ks:List Int):Prop:=
 Ints .i64 w a n c ks∧∀ b o,a=some ⟨b,o,none⟩→0<n→b<B∨∃ cur fz,w.heap[b]?=some (Obj.cells cur 3 fz)
theorem ListAt.kept {w w':World} {B:Nat} {a:Option Addr} {n c:Nat} {ks:List Int} (h:ListAt w B a n c ks) (hb:Below B w w') (hk:RunKept w w'):ListAt w' B a n c ks:=by
 obtain ⟨⟨h1,h2,h3,h4⟩,h5⟩:=h
 rcases Nat.eq_zero_or_pos n with hn | hn
 ·exact ⟨⟨h1,h2,h3,.inl hn⟩,fun _ _ _ h0=>absurd hn (by omega)⟩
 rcases h4 with h4 | ⟨b,off,ha,hl,hc⟩
 ·omega
 have e:w'.heap[b]?=w.heap[b]?:=by
  rcases h5 b off ha hn with h6 | ⟨cur,fz,h6⟩
  ·exact hb.block b h6
  ·rw [hk b cur _ fz h6 (by decide) (by decide),h6]
 refine ⟨⟨h1,h2,h3,.inr ⟨b,off,ha,Nat.lt_of_lt_of_le hl hb.size,fun t ht=>?_⟩⟩,fun b' o' ha' h0=>?_⟩
 ·rw [← hc t ht]
  unfold World.cell?
  simp only
  rw [e]
 ·rw [ha] at ha'
  cases ha'
  rcases h5 b off ha hn with h6 | ⟨cur,fz,h6⟩
  ·exact .inl h6
  ·exact .inr ⟨cur,fz,e.trans h6⟩
theorem ListAt.at {w:World} {B:Nat} {a:Option Addr} {n c:Nat} {ks:List Int} (h:ListAt w B a n c ks) {i:Nat} (hi:i<n):∃ b off,a=some ⟨b,off,none⟩∧w.cell? ⟨b,off+i,none⟩=some (.int .i64 (ks.getD i 0)):=by
 obtain ⟨⟨h1,h2,h3,h4⟩,h5⟩:=h
 rcases h4 with h4 | ⟨b,off,ha,hl,hc⟩
 ·omega
 ·exact ⟨b,off,ha,hc i hi⟩
theorem RunKept.set_new {w w':World} {R:Nat} {v:Value} (h:RunKept w w') (hR:w.heap.size≤R):RunKept w (w'.setCell ⟨R,0,none⟩ v):=fun j cur e fz h0 h1 h2=>by
 have hj:=(Array.getElem?_eq_some_iff.1 h0).1
 rw [Below.heap_setCell w' ⟨R,0,none⟩ v j (by show j≠R;omega)]
 exact h j cur e fz h0 h1 h2

def RanTo (w:World) (g B:Nat) (cs:Sl × Sl × Sl) (m:V4) (fs:List I3):Prop:=
 ∃ fv,Blk w g 91 (Rp.machR fv cs.1.val cs.2.1.val cs.2.2.val m)∧w.ownsRow B 64 3 fv fs.length (flat fs)
def OnRun (w0 w wr:World) (g B R:Nat) (cs:Sl × Sl × Sl) (rows:List (List I3)) (ks:List Int) (N n i:Nat) (fin:V4 × List I3 × Int) (m:V4) (fs:List I3):Prop:=
 i≤n∧runI rows m fs (ks.drop i)=fin∧shapeOk m=true∧RanTo wr g B cs m fs∧Below B w0 wr∧Below B w wr∧RunKept w wr∧Blk wr R 3 [.int .i64 0]∧fs.length≤N+i
theorem runI_halt {rows:List (List I3)} {m:V4} {fs:List I3} {ks:List Int} {i:Nat} (hi:i<ks.length) (h:haltM rows m (ks.getD i 0)≠0):runI rows m fs (ks.drop i)=(m,fs,haltM rows m (ks.getD i 0)):=by
 have e:ks.drop i=ks.getD i 0::ks.drop (i+1):=by rw [List.drop_eq_getElem_cons hi];simp [List.getD,hi]
 rw [e]
 show (if haltM rows m (ks.getD i 0)=0 then _ else _)=_
 rw [if_neg h]
theorem runI_go {rows:List (List I3)} {m:V4} {fs:List I3} {ks:List Int} {i:Nat} (hi:i<ks.length) (h:haltM rows m (ks.getD i 0)=0):runI rows m fs (ks.drop i)=runI rows (goM rows m (ks.getD i 0)).1 (fs++ownM rows m (ks.getD i 0)) (ks.drop (i+1)):=by
 have e:ks.drop i=ks.getD i 0::ks.drop (i+1):=by rw [List.drop_eq_getElem_cons hi];simp [List.getD,hi]
 rw [e]
 show (if haltM rows m (ks.getD i 0)=0 then _ else _)=_
 rw [if_pos h]

theorem rowsMach {w:World} {a:Option Addr} {cs:Sl × Sl × Sl} {rows:List (List I3)} {m:V4} {g:Nat} {fv:Value} (h:RowsAt w a cs rows) (hB:Blk w g 91 (Rp.machR fv cs.1.val cs.2.1.val cs.2.2.val m)):Rp.MachAt fv w g cs rows m:=by
 obtain ⟨b,off,_,_,hk⟩:=h
 exact ⟨hB,fun k h3=>(hk k h3).2⟩
def StepsTo (e:Ending) (w w':World) (g B:Nat) (cs:Sl × Sl × Sl) (rows:List (List I3)) (m:V4) (fv:Value) (k:Int):Prop:=
 (haltM rows m k≠0∧e=.returned (.iface 162 (.int .i64 (haltM rows m k)))∧Below w.heap.size w w') ∨
 (haltM rows m k=0∧e=.returned (.iface 64 (.agg #[.int .i64 (goM rows m k).2,.int .i64 k,.int .i64 (m.1.getD k.toNat 0)]))∧Blk w' g 91 (Rp.machR fv cs.1.val cs.2.1.val cs.2.2.val (goM rows m k).1)∧w.grownBy w' (some g)∧shapeOk (goM rows m k).1=true)
theorem rstep_is {fv:Value} {w:World} {g B:Nat} {cs:Sl × Sl × Sl} {rows:List (List I3)} {m:V4} (h:Rp.MachAt fv w g cs rows m) (hp:progOk rows=true) (hs:shapeOk m=true) (k:Int) :
  Calls Tryz.prog 119 #[.pointer (some ⟨g,0,none⟩),.int .i64 k] w fun e w'=>StepsTo e w w' g B cs rows m fv k:=by
 by_cases hk:0≤k∧k≤2
 ·obtain ⟨q,rfl⟩:∃ q:Nat,k=q:=⟨k.toNat,by omega⟩
  have hq:q<3:=by omega
  cases hd:doneM rows m q
  ·cases hw:waitM rows m q
   ·have hz:haltM rows m (q:Int)=0:=by
     unfold haltM
     rw [if_pos hk]
     unfold waitM at hw
     rw [Int.toNat_natCast]
     simp only [hd]
     unfold canM
     rw [hd] at hw ⊢
     simp at hw ⊢
     exact hw
    refine (rstep_go h hp hs hq hd hw).mono ?_
    rintro e w' ⟨he,hM,hg⟩
    refine .inr ⟨hz,by rw [he,Int.toNat_natCast],hM,hg,?_⟩
    rw [goM_natR]
    exact shape_step hp hs hq hd
   ·have hz:haltM rows m (q:Int)=11:=by
     unfold haltM
     rw [if_pos hk]
     unfold waitM at hw
     rw [Int.toNat_natCast]
     simp only [hd]
     unfold canM
     rw [hd] at hw ⊢
     simp at hw ⊢
     simp [hw]
    refine (rstep_waits h hp hs hq hd hw).mono ?_
    rintro e w' ⟨he,hb⟩
    exact .inl ⟨by rw [hz];decide,by rw [hz];exact he,hb⟩
  ·have hz:haltM rows m (q:Int)=10:=by
    unfold haltM
    rw [if_pos hk,Int.toNat_natCast]
    simp [hd]
   refine (rstep_done h hq hd).mono ?_
   rintro e w' ⟨he,hb⟩
   exact .inl ⟨by rw [hz];decide,by rw [hz];exact he,hb⟩
 ·have hz:haltM rows m k=4:=by unfold haltM;rw [if_neg hk]
  have hi:inB k 0 2=false:=inB_false.2 (by omega)
  refine (rstep_range g k w hi).mono ?_
  rintro e w' ⟨he,rfl⟩
  exact .inl ⟨by rw [hz];decide,by rw [hz];exact he,Below.refl _ _⟩

theorem keep_is {fv:Value} {w:World} {g B:Nat} {cs:Sl × Sl × Sl} {m:V4} {fs:List I3} (hM:Blk w g 91 (Rp.machR fv cs.1.val cs.2.1.val cs.2.2.val m)) (hF:w.ownsRow B 64 3 fv fs.length (flat fs)) (hgB:B≤g) (hn:fs.length≤1000000) (f k pc:Int) :
  Calls Tryz.prog 118 #[.pointer (some ⟨g,0,none⟩),.iface 64 (.agg #[.int .i64 f,.int .i64 k,.int .i64 pc])] w fun e w'=>e=.returned (.tuple #[])∧RanTo w' g B cs m (fs++if f=0 then [] else [(f,k,pc)])∧Below B w w'∧RunKept w w':=by
 by_cases hf:f=0
 ·subst hf
  refine (keep_ok g k pc w).mono ?_
  rintro e w' ⟨he,hb⟩
  rw [if_pos rfl,List.append_nil]
  exact ⟨he,⟨fv,hM.below hb,owns_below hF hb⟩,below_lowR hb (by have:=hM.lt;omega),RunKept.of_below hb⟩
 ·refine (keep_bug hM hF hgB hn hf).mono ?_
  rintro e w' ⟨he,fv',h1,h2,h3,h4⟩
  rw [if_neg hf]
  exact ⟨he,⟨fv',h1,by simpa using h2⟩,h3,h4⟩


theorem bel_transR {B:Nat} {a b c:World} (h:Below B a b) (k:Below B b c):Below B a c:=⟨k.os.trans h.os,k.tape.trans h.tape,k.output.trans h.output,Nat.le_trans h.size k.size,fun j hj=>(k.block j hj).trans (h.block j hj)⟩
theorem ownM_len (rows:List (List I3)) (m:V4) (k:Int):(ownM rows m k).length≤1:=by unfold ownM;split<;>simp
theorem run_is {w0 w:World} {g:Nat} {a9:Option Addr} {cs:Sl × Sl × Sl} {rows:List (List I3)} {m:V4} {fs:List I3} {la:Option Addr} {n c:Nat} {ks:List Int} (hR:RowsAt w0 a9 cs rows) (bw:Below w0.heap.size w0 w) (hg:w0.heap.size≤g) (hp:progOk rows=true) (hs:shapeOk m=true)
  (hM:RanTo w g w0.heap.size cs m fs) (hL:ListAt w w0.heap.size la n c ks) (hn:fs.length+n≤500000) :
  Calls Tryz.prog 55 #[.pointer (some ⟨g,0,none⟩),.slice la n c] w fun e w'=>e=.returned (.int .i64 (runI rows m fs ks).2.2)∧RanTo w' g w0.heap.size cs (runI rows m fs ks).1 (runI rows m fs ks).2.1∧Below w0.heap.size w0 w'∧RunKept w w':=by
 have hmf:∀ (fn:Fn) (first cap:Array Value) (w:World),(Instr.makeFunc fn first cap).run Tryz.prog w=.ok (.func fn first cap) w:=fun _ _ _ _=>rfl
 obtain ⟨fin,hfin⟩:∃ fin,fin=runI rows m fs ks:=⟨_,rfl⟩
 rw [← hfin]
 have hll:=hL.1.1
 have hsz0:=bw.size
 have hgl:g<w.heap.size:=by obtain ⟨fv,h1,_⟩:=hM;exact h1.lt
 have ha:Below w.heap.size w (w.alloc (.cells #[.int .i64 0] 3)):=by go_grown
 have st:OnRun w0 w (w.alloc (.cells #[.int .i64 0] 3)) g w0.heap.size w.heap.size cs rows ks fs.length n 0 fin m fs:=by
  obtain ⟨fv,h1,h2⟩:=hM
  exact ⟨by omega,by rw [hfin];rfl,hs,⟨fv,h1.below ha,owns_below h2 ha⟩,below_thenR bw ha hsz0,below_lowR ha hsz0,RunKept.of_below ha,blkAt _ _ _ rfl,by omega⟩
 clear hfin hs hM ha
 go_enter_defers Tryz.func55,Tryz.ntmps55
 go_wp2_with fail
 generalize w.alloc (.cells #[.int .i64 0] 3)=W1 at *
 go_loopw [10] (fun si wr=>∃ (i:Nat) (m':V4) (fs':List I3),si=.int .i64 i∧OnRun w0 w wr g w0.heap.size w.heap.size cs rows ks fs.length n i fin m' fs') (fun si _=>n - (intOf si).toNat)
 case atStart=>exact ⟨0,m,fs,rfl,st⟩
 case round =>
  clear st
  obtain ⟨i,m',fs',rfl,hi,hr,hs,⟨fv,hM,hF⟩,bw0,bw1,kp,pR,hf9⟩:=hrel
  by_cases hlt:i<n
  ·have hLr:=hL.kept bw1 kp
   obtain ⟨b,off,rfl,hc⟩:=hLr.at hlt
   have kS:=rstep_is (B:=w0.heap.size) (rowsMach (hR.below bw0) hM) hp hs (ks.getD i 0)
   have HH:Hid (haltM rows m' (ks.getD i 0)≠0→fin=(m',fs',haltM rows m' (ks.getD i 0))):=fun h0=>hr.symm.trans (runI_halt (by omega) h0)
   have HG:Hid (haltM rows m' (ks.getD i 0)=0→runI rows (goM rows m' (ks.getD i 0)).1 (fs'++ownM rows m' (ks.getD i 0)) (ks.drop (i+1))=fin):=fun h0=>(runI_go (by omega) h0).symm.trans hr
   have hlt':(i:Int)<(n:Int):=by omega
   have hi0:(0:Int)≤(i:Int):=by omega
   have hRg:g≠w.heap.size:=by omega
   generalize ks.getD i 0=kk at *
   clear hr hLr hs
   go_wp2_with fail
   refine kS.mono ?_
   rintro e w1 (⟨hz,rfl,hb⟩ | ⟨hz,rfl,hM1,g1,hs1⟩)
   ·have hfe:=HH.out hz
    clear HH HG kS
    go_wp2_with fail
    refine (keep_halt g _ w1).mono ?_
    rintro e w2 ⟨rfl,hb2⟩
    replace hb:=bel_trans hb hb2
    clear hb2
    replace pR:=pR.below hb
    go_wp2_with fail
    have cR:=pR.cell 0
    have fR:=pR.frozen 0
    simp only [List.getElem?_cons_zero] at cR
    refine leaves_cons (f:=116) (args:=#[.pointer (some ⟨w.heap.size,0,none⟩)]) (by simp) (by simp [go_sem]) ?_
    refine (catch_halt ⟨w.heap.size,0,none⟩ _ (haltM rows m' kk) [] _ cR fR).mono ?_
    rintro e u' w3 ⟨rfl,rfl,rfl⟩
    have cS:(w2.setCell ⟨w.heap.size,0,none⟩ (.int .i64 (haltM rows m' kk))).cell? ⟨w.heap.size,0,none⟩=some (.int .i64 (haltM rows m' kk)):=by simpa using (pR.set 0 (.int .i64 (haltM rows m' kk))).cell 0
    have gS:=grown_cell w2 w.heap.size 0 (.int .i64 (haltM rows m' kk))
    have hM3:=(hM.below hb).off ⟨w.heap.size,0,none⟩ (.int .i64 (haltM rows m' kk)) hRg
    have hF2:=owns_below hF hb
    have hF3:=hF2.kept gS (.inr (own_ne_blkR hF2 pR (by decide)).symm)
    have bz:=(below_thenR bw0 hb bw0.size).grown gS (Nat.le_trans bw0.size hb.size) (fun j hj=>by cases hj;exact hsz0)
    have kz:=(kp.trans (RunKept.of_below hb)).set_new (v:=.int .i64 (haltM rows m' kk)) (Nat.le_refl w.heap.size)
    show Leaves _ _ _ _ [] .returning _
    refine ⟨.int .i64 (haltM rows m' kk),?_,?_⟩
    ·simp [results,Tryz.results55,go_sem,cS]
    ·rw [hfe]
     exact ⟨rfl,⟨fv,hM3,hF3⟩,bz,kz⟩
   ·have hfe:=HG.out hz
    clear HH HG kS hc hlt' hi0
    have hF1:=hF.kept g1 (.inr (own_ne_blkR hF hM (by decide)).symm)
    have hn1:fs'.length≤1000000:=by omega
    have bA:=bw0.grown g1 bw0.size (fun j hj=>by cases hj;exact hg)
    have bB:=bw1.grown g1 (Nat.le_trans hsz0 bw1.size) (fun j hj=>by cases hj;exact hg)
    have kA:=kp.trans (RunKept.of_blk hM g1)
    have pR1:=pR.kept g1 (fun e=>hRg (by cases e;rfl))
    go_wp2_with fail
    refine (keep_is hM1 hF1 hg hn1 _ _ _).mono ?_
    rintro e w2 ⟨rfl,hM2,hb2,kp2⟩
    have pR2:=kp2.blk pR1 (by decide) (by decide)
    have st2:OnRun w0 w w2 g w0.heap.size w.heap.size cs rows ks fs.length n (i+1) fin (goM rows m' kk).1 (fs'++ownM rows m' kk):=⟨by omega,hfe,hs1,hM2,bel_transR bA hb2,bel_transR bB hb2,kA.trans kp2,pR2,by have:=ownM_len rows m' kk;rw [List.length_append];omega⟩
    clear hM2 hb2 kp2 pR1 pR2 kA bA bB hF1 hM1 g1 hs1 hz hfe hM hF bw0 bw1 kp pR
    go_wp2
    go_roundw
    case rel=>exact ⟨i+1,_,_,by go_num,st2⟩
    case measure=>simp [intOf];omega
  ·obtain rfl:i=n:=by omega
   have hfe:fin=(m',fs',0):=by rw [← hr,List.drop_of_length_le (by omega)];rfl
   clear hr
   have cR:=pR.cell 0
   have fR:=pR.frozen 0
   simp only [List.getElem?_cons_zero] at cR
   go_wp2
   have cS:(wr.setCell ⟨w.heap.size,0,none⟩ (.int .i64 0)).cell? ⟨w.heap.size,0,none⟩=some (.int .i64 0):=by simpa using (pR.set 0 (.int .i64 0)).cell 0
   have gS:=grown_cell wr w.heap.size 0 (.int .i64 0)
   have hRg:g≠w.heap.size:=by omega
   have hM3:=hM.off ⟨w.heap.size,0,none⟩ (.int .i64 0) hRg
   have hF3:=hF.kept gS (.inr (own_ne_blkR hF pR (by decide)).symm)
   have bz:=bw0.grown gS bw0.size (fun j hj=>by cases hj;exact hsz0)
   have kz:=kp.set_new (v:=.int .i64 0) (Nat.le_refl w.heap.size)
   refine leaves_cons (f:=116) (args:=#[.pointer (some ⟨w.heap.size,0,none⟩)]) (by simp) (by simp [go_sem]) ?_
   refine (catch_idle ⟨w.heap.size,0,none⟩ _).mono ?_
   rintro e u' w3 ⟨rfl,rfl,rfl⟩
   show Leaves _ _ _ _ [] .returning _
   refine ⟨.int .i64 0,?_,?_⟩
   ·simp [results,Tryz.results55,go_sem,cS]
   ·rw [hfe]
    exact ⟨rfl,⟨fv,hM3,hF3⟩,bz,kz⟩


theorem newReplay_of (a:Option Addr) (len cap:Nat) (w:World) (c:Int) (da0:Option Addr) (dn0 dc0:Nat) (da1:Option Addr) (dn1 dc1:Nat) (da2:Option Addr) (dn2 dc2:Nat) (p0 p1 p2 v0 v1 v2 v3 h0 h1 x0 y0 x1 y1 x2 y2:Int)
  (kM:∀ (W:World) (s:S4),Below w.heap.size w W→Vmem W s zeroV→Calls Tryz.prog 71 #[.agg #[.slice a len cap],s.val] W fun e w'=>e=.returned (.tuple #[.agg #[.slice da0 dn0 dc0,.int .i64 p0,.int .i64 x0,.int .i64 y0,.slice da1 dn1 dc1,.int .i64 p1,.int .i64 x1,.int .i64 y1,.slice da2 dn2 dc2,.int .i64 p2,.int .i64 x2,.int .i64 y2,.int .i64 v0,.int .i64 v1,.int .i64 v2,.int .i64 v3,.int .i64 h0,.int .i64 h1],.int .i64 c])∧Below W.heap.size W w') :
  Calls Tryz.prog 54 #[.agg #[.slice a len cap]] w fun e w'=>e=.returned (.tuple #[.agg #[.slice da0 dn0 dc0,.int .i64 p0,.int .i64 x0,.int .i64 y0,.slice da1 dn1 dc1,.int .i64 p1,.int .i64 x1,.int .i64 y1,.slice da2 dn2 dc2,.int .i64 p2,.int .i64 x2,.int .i64 y2,.int .i64 v0,.int .i64 v1,.int .i64 v2,.int .i64 v3,.int .i64 h0,.int .i64 h1,.slice none 0 0],.int .i64 c])∧Below w.heap.size w w':=by
 have fz:=(shape_fits9 zero_shape).1
 have kN:=implNewVm_is
 have bw:Below w.heap.size w ((w.alloc (.cells #[.slice a len cap] 25)).alloc (.cells #[.slice none 0 0,.int .i64 0,.int .i64 0,.int .i64 0,.slice none 0 0,.int .i64 0,.int .i64 0,.int .i64 0,.slice none 0 0,.int .i64 0,.int .i64 0,.int .i64 0,.int .i64 0,.int .i64 0,.int .i64 0,.int .i64 0,.int .i64 0,.int .i64 0,.slice none 0 0] 91)):=by go_grown
 have pP:Blk ((w.alloc (.cells #[.slice a len cap] 25)).alloc (.cells #[.slice none 0 0,.int .i64 0,.int .i64 0,.int .i64 0,.slice none 0 0,.int .i64 0,.int .i64 0,.int .i64 0,.slice none 0 0,.int .i64 0,.int .i64 0,.int .i64 0,.int .i64 0,.int .i64 0,.int .i64 0,.int .i64 0,.int .i64 0,.int .i64 0,.slice none 0 0] 91)) w.heap.size 25 [.slice a len cap]:=blkOld _ (blkAt _ _ _ rfl)
 have pR:Blk ((w.alloc (.cells #[.slice a len cap] 25)).alloc (.cells #[.slice none 0 0,.int .i64 0,.int .i64 0,.int .i64 0,.slice none 0 0,.int .i64 0,.int .i64 0,.int .i64 0,.slice none 0 0,.int .i64 0,.int .i64 0,.int .i64 0,.int .i64 0,.int .i64 0,.int .i64 0,.int .i64 0,.int .i64 0,.int .i64 0,.slice none 0 0] 91)) (w.heap.size+1) 91 [.slice none 0 0,.int .i64 0,.int .i64 0,.int .i64 0,.slice none 0 0,.int .i64 0,.int .i64 0,.int .i64 0,.slice none 0 0,.int .i64 0,.int .i64 0,.int .i64 0,.int .i64 0,.int .i64 0,.int .i64 0,.int .i64 0,.int .i64 0,.int .i64 0,.slice none 0 0]:=blkAt _ _ _ (by simp)
 have hsz:w.heap.size+2≤((w.alloc (.cells #[.slice a len cap] 25)).alloc (.cells #[.slice none 0 0,.int .i64 0,.int .i64 0,.int .i64 0,.slice none 0 0,.int .i64 0,.int .i64 0,.int .i64 0,.slice none 0 0,.int .i64 0,.int .i64 0,.int .i64 0,.int .i64 0,.int .i64 0,.int .i64 0,.int .i64 0,.int .i64 0,.int .i64 0,.slice none 0 0] 91)).heap.size:=by simp
 go_enter Tryz.func54,Tryz.ntmps54
 go_wp2_with fail
 generalize ((w.alloc (.cells #[.slice a len cap] 25)).alloc (.cells #[.slice none 0 0,.int .i64 0,.int .i64 0,.int .i64 0,.slice none 0 0,.int .i64 0,.int .i64 0,.int .i64 0,.slice none 0 0,.int .i64 0,.int .i64 0,.int .i64 0,.int .i64 0,.int .i64 0,.int .i64 0,.int .i64 0,.int .i64 0,.int .i64 0,.slice none 0 0] 91))=U at *
 have cP:U.cell? ⟨w.heap.size,0,none⟩=some (.slice a len cap):=by simpa using pP.cell 0
 refine wp_region_held_drew (S:=(fun w'=>w'.cell? ⟨w.heap.size,0,none⟩=some (.slice a len cap))) (by kernel_rfl) cP (fun hS0=>?_)
 refine tkm 0 7 (.agg #[.slice a len cap]) ?_
 refine wpAnyH_ready (rs:=[1,6]) (by kernel_rfl) (by simp) ?_
 refine AllReadyH.cons (o:=⟨some 8,_,_,_,_,_⟩) rfl (fun K hK=>?_) (AllReadyH.cons (o:=⟨some 4,_,_,_,_,_⟩) rfl (fun K hK=>?_) AllReadyH.nil)
 ·have hdr:Below U.heap.size U U.drew:=by go_grown
  replace cP:=cells_kept hdr _ _ cP
  replace pP:=pP.below hdr
  replace pR:=pR.below hdr
  replace bw:=bel_trans bw hdr
  replace hsz:w.heap.size+2≤U.drew.heap.size:=hsz
  clear hdr
  generalize U.drew=Ud at *
  go_simp
  refine (kN _).mono ?_
  rintro e U1 ⟨⟨s4,rfl,hO⟩,hb⟩
  replace cP:=cells_kept hb _ _ cP
  replace pP:=pP.below hb
  replace pR:=pR.below hb
  replace bw:=bel_trans bw hb
  replace hsz:w.heap.size+2≤U1.heap.size:=Nat.le_trans hsz hb.size
  go_wp2_with fail
  refine hK.out _ _ cP (fun hS1=>?_)
  clear hK hb
  try simp only [Act.put,tka,tkb,tkc]
  refine wpAnyH_ready (rs:=[2,6]) (by kernel_rfl) (by simp) ?_
  refine AllReadyH.cons (o:=⟨some 9,_,_,_,_,_⟩) rfl (fun K hK=>?_) (AllReadyH.cons (o:=⟨some 4,_,_,_,_,_⟩) rfl (fun K hK=>?_) AllReadyH.nil)
  ·go_simp
   refine (kM _ s4 bw (hO.mem fz)).mono ?_
   rintro e U2 ⟨rfl,hb⟩
   replace cP:=cells_kept hb _ _ cP
   replace pP:=pP.below hb
   replace pR:=pR.below hb
   replace bw:=bel_trans bw hb
   replace hO:=hO.below hb
   replace hsz:w.heap.size+2≤U2.heap.size:=Nat.le_trans hsz hb.size
   go_wp2_with fail
   refine hK.out _ _ cP (fun hS2=>?_)
   clear hK hb
   try simp only [Act.put,tka,tkb,tkc]
   refine tkm 3 6 (.tuple #[.agg #[.slice da0 dn0 dc0,.int .i64 p0,.int .i64 x0,.int .i64 y0,.slice da1 dn1 dc1,.int .i64 p1,.int .i64 x1,.int .i64 y1,.slice da2 dn2 dc2,.int .i64 p2,.int .i64 x2,.int .i64 y2,.int .i64 v0,.int .i64 v1,.int .i64 v2,.int .i64 v3,.int .i64 h0,.int .i64 h1],.int .i64 c]) ?_
   refine tkm 4 10 (.agg #[.slice da0 dn0 dc0,.int .i64 p0,.int .i64 x0,.int .i64 y0,.slice da1 dn1 dc1,.int .i64 p1,.int .i64 x1,.int .i64 y1,.slice da2 dn2 dc2,.int .i64 p2,.int .i64 x2,.int .i64 y2,.int .i64 v0,.int .i64 v1,.int .i64 v2,.int .i64 v3,.int .i64 h0,.int .i64 h1]) ?_
   refine tkm 5 11 (.int .i64 c) ?_
   refine tkr 6 4 (fun K hK=>?_)
   have hb:Below U2.heap.size U2 (U2.alloc (.cells #[.slice none 0 0,.int .i64 0,.int .i64 0,.int .i64 0,.slice none 0 0,.int .i64 0,.int .i64 0,.int .i64 0,.slice none 0 0,.int .i64 0,.int .i64 0,.int .i64 0,.int .i64 0,.int .i64 0,.int .i64 0,.int .i64 0,.int .i64 0,.int .i64 0] 89)):=by go_grown
   have pM:Blk (U2.alloc (.cells #[.slice none 0 0,.int .i64 0,.int .i64 0,.int .i64 0,.slice none 0 0,.int .i64 0,.int .i64 0,.int .i64 0,.slice none 0 0,.int .i64 0,.int .i64 0,.int .i64 0,.int .i64 0,.int .i64 0,.int .i64 0,.int .i64 0,.int .i64 0,.int .i64 0] 89)) U2.heap.size 89 [.slice none 0 0,.int .i64 0,.int .i64 0,.int .i64 0,.slice none 0 0,.int .i64 0,.int .i64 0,.int .i64 0,.slice none 0 0,.int .i64 0,.int .i64 0,.int .i64 0,.int .i64 0,.int .i64 0,.int .i64 0,.int .i64 0,.int .i64 0,.int .i64 0]:=blkAt _ _ _ rfl
   replace cP:=cells_kept hb _ _ cP
   replace pP:=pP.below hb
   replace pR:=pR.below hb
   replace bw:=bel_trans bw hb
   replace hO:=hO.below hb
   have hXM:w.heap.size+2≤U2.heap.size:=hsz
   replace hsz:w.heap.size+2≤(U2.alloc (.cells #[.slice none 0 0,.int .i64 0,.int .i64 0,.int .i64 0,.slice none 0 0,.int .i64 0,.int .i64 0,.int .i64 0,.slice none 0 0,.int .i64 0,.int .i64 0,.int .i64 0,.int .i64 0,.int .i64 0,.int .i64 0,.int .i64 0,.int .i64 0,.int .i64 0] 89)).heap.size:=Nat.le_trans hsz hb.size
   go_simp
   refine hK.out _ _ cP (fun hS3=>?_)
   clear hK hb
   generalize (U2.alloc (.cells #[.slice none 0 0,.int .i64 0,.int .i64 0,.int .i64 0,.slice none 0 0,.int .i64 0,.int .i64 0,.int .i64 0,.slice none 0 0,.int .i64 0,.int .i64 0,.int .i64 0,.int .i64 0,.int .i64 0,.int .i64 0,.int .i64 0,.int .i64 0,.int .i64 0] 89))=U3 at *
   generalize U2.heap.size=XM at *
   try simp only [Act.put,tka,tkb,tkc]
   refine tkz 7 (fun K hK=>?_)
   refine step_store_blkD rfl 89 _ _ rfl XM [.slice da0 dn0 dc0,.int .i64 p0,.int .i64 x0,.int .i64 y0,.slice da1 dn1 dc1,.int .i64 p1,.int .i64 x1,.int .i64 y1,.slice da2 dn2 dc2,.int .i64 p2,.int .i64 x2,.int .i64 y2,.int .i64 v0,.int .i64 v1,.int .i64 v2,.int .i64 v3,.int .i64 h0,.int .i64 h1] rfl rfl pM (by kernel_rfl) rfl rfl ?_
   intro U9 pM2 g2
   have hne:w.heap.size≠XM:=by omega
   have hne1:w.heap.size+1≠XM:=by omega
   replace pP:=pP.kept g2 (fun e=>hne (by cases e;rfl))
   replace pR:=pR.kept g2 (fun e=>hne1 (by cases e;rfl))
   replace bw:=bw.grown g2 bw.size (fun k e=>by cases e;omega)
   refine hK.out _ _ (by simpa using pP.cell 0) (fun hS9=>?_)
   clear hK hO
   try simp only [Act.put,tka,tkb,tkc]
   refine tkm 8 5 (.int .i64 c) ?_
   refine wpAnyH_done (by kernel_rfl) ?_ _
   clear hS9 cP hS0 pM
   have pM:=pM2.out
   clear pM2 pP
   go_wp2_with (first | refine wpList_load_blk rfl 89 _ rfl XM rfl pM _ Tryz.underlying89 rfl (by kernel_rfl) ?_ | refine wpList_store_blk rfl 91 _ _ rfl (w.heap.size+1) [.slice da0 dn0 dc0,.int .i64 p0,.int .i64 x0,.int .i64 y0,.slice da1 dn1 dc1,.int .i64 p1,.int .i64 x1,.int .i64 y1,.slice da2 dn2 dc2,.int .i64 p2,.int .i64 x2,.int .i64 y2,.int .i64 v0,.int .i64 v1,.int .i64 v2,.int .i64 v3,.int .i64 h0,.int .i64 h1,.slice none 0 0] rfl rfl pR (by kernel_rfl) rfl rfl ?_)
   intro U10 pR2 g3
   have bw2:=bw.grown g3 bw.size (fun k e=>by cases e;omega)
   clear bw g2 g3 pM pR
   go_wp2_with fail
   refine bodyPost_ret (results_blk2 Tryz.results54 _ _ _ _ _ _ rfl pR2.out Tryz.underlying91 rfl (by kernel_rfl)) rfl ?_
   exact ⟨rfl,bw2⟩
  ·have hb:Below U1.heap.size U1 (U1.alloc (.cells #[.slice none 0 0,.int .i64 0,.int .i64 0,.int .i64 0,.slice none 0 0,.int .i64 0,.int .i64 0,.int .i64 0,.slice none 0 0,.int .i64 0,.int .i64 0,.int .i64 0,.int .i64 0,.int .i64 0,.int .i64 0,.int .i64 0,.int .i64 0,.int .i64 0] 89)):=by go_grown
   have pM:Blk (U1.alloc (.cells #[.slice none 0 0,.int .i64 0,.int .i64 0,.int .i64 0,.slice none 0 0,.int .i64 0,.int .i64 0,.int .i64 0,.slice none 0 0,.int .i64 0,.int .i64 0,.int .i64 0,.int .i64 0,.int .i64 0,.int .i64 0,.int .i64 0,.int .i64 0,.int .i64 0] 89)) U1.heap.size 89 [.slice none 0 0,.int .i64 0,.int .i64 0,.int .i64 0,.slice none 0 0,.int .i64 0,.int .i64 0,.int .i64 0,.slice none 0 0,.int .i64 0,.int .i64 0,.int .i64 0,.int .i64 0,.int .i64 0,.int .i64 0,.int .i64 0,.int .i64 0,.int .i64 0]:=blkAt _ _ _ rfl
   replace cP:=cells_kept hb _ _ cP
   replace pP:=pP.below hb
   replace pR:=pR.below hb
   replace bw:=bel_trans bw hb
   replace hO:=hO.below hb
   have hXM:w.heap.size+2≤U1.heap.size:=hsz
   replace hsz:w.heap.size+2≤(U1.alloc (.cells #[.slice none 0 0,.int .i64 0,.int .i64 0,.int .i64 0,.slice none 0 0,.int .i64 0,.int .i64 0,.int .i64 0,.slice none 0 0,.int .i64 0,.int .i64 0,.int .i64 0,.int .i64 0,.int .i64 0,.int .i64 0,.int .i64 0,.int .i64 0,.int .i64 0] 89)).heap.size:=Nat.le_trans hsz hb.size
   go_simp
   refine hK.out _ _ cP (fun hS4=>?_)
   clear hK hb
   generalize (U1.alloc (.cells #[.slice none 0 0,.int .i64 0,.int .i64 0,.int .i64 0,.slice none 0 0,.int .i64 0,.int .i64 0,.int .i64 0,.slice none 0 0,.int .i64 0,.int .i64 0,.int .i64 0,.int .i64 0,.int .i64 0,.int .i64 0,.int .i64 0,.int .i64 0,.int .i64 0] 89))=U4 at *
   generalize U1.heap.size=XM at *
   try simp only [Act.put,tka,tkb,tkc]
   refine tkr 2 9 (fun K hK=>?_)
   go_simp
   refine (kM _ s4 bw (hO.mem fz)).mono ?_
   rintro e U5 ⟨rfl,hb⟩
   replace cP:=cells_kept hb _ _ cP
   replace pP:=pP.below hb
   replace pR:=pR.below hb
   replace bw:=bel_trans bw hb
   replace pM:=pM.below hb
   replace hO:=hO.below hb
   replace hsz:w.heap.size+2≤U5.heap.size:=Nat.le_trans hsz hb.size
   go_wp2_with fail
   refine hK.out _ _ cP (fun hS5=>?_)
   clear hK hb
   try simp only [Act.put,tka,tkb,tkc]
   refine tkm 3 6 (.tuple #[.agg #[.slice da0 dn0 dc0,.int .i64 p0,.int .i64 x0,.int .i64 y0,.slice da1 dn1 dc1,.int .i64 p1,.int .i64 x1,.int .i64 y1,.slice da2 dn2 dc2,.int .i64 p2,.int .i64 x2,.int .i64 y2,.int .i64 v0,.int .i64 v1,.int .i64 v2,.int .i64 v3,.int .i64 h0,.int .i64 h1],.int .i64 c]) ?_
   refine tkm 4 10 (.agg #[.slice da0 dn0 dc0,.int .i64 p0,.int .i64 x0,.int .i64 y0,.slice da1 dn1 dc1,.int .i64 p1,.int .i64 x1,.int .i64 y1,.slice da2 dn2 dc2,.int .i64 p2,.int .i64 x2,.int .i64 y2,.int .i64 v0,.int .i64 v1,.int .i64 v2,.int .i64 v3,.int .i64 h0,.int .i64 h1]) ?_
   refine tkm 5 11 (.int .i64 c) ?_
   refine tkz 7 (fun K hK=>?_)
   refine step_store_blkD rfl 89 _ _ rfl XM [.slice da0 dn0 dc0,.int .i64 p0,.int .i64 x0,.int .i64 y0,.slice da1 dn1 dc1,.int .i64 p1,.int .i64 x1,.int .i64 y1,.slice da2 dn2 dc2,.int .i64 p2,.int .i64 x2,.int .i64 y2,.int .i64 v0,.int .i64 v1,.int .i64 v2,.int .i64 v3,.int .i64 h0,.int .i64 h1] rfl rfl pM (by kernel_rfl) rfl rfl ?_
   intro U9 pM2 g2
   have hne:w.heap.size≠XM:=by omega
   have hne1:w.heap.size+1≠XM:=by omega
   replace pP:=pP.kept g2 (fun e=>hne (by cases e;rfl))
   replace pR:=pR.kept g2 (fun e=>hne1 (by cases e;rfl))
   replace bw:=bw.grown g2 bw.size (fun k e=>by cases e;omega)
   refine hK.out _ _ (by simpa using pP.cell 0) (fun hS9=>?_)
   clear hK hO
   try simp only [Act.put,tka,tkb,tkc]
   refine tkm 8 5 (.int .i64 c) ?_
   refine wpAnyH_done (by kernel_rfl) ?_ _
   clear hS9 cP hS0 pM
   have pM:=pM2.out
   clear pM2 pP
   go_wp2_with (first | refine wpList_load_blk rfl 89 _ rfl XM rfl pM _ Tryz.underlying89 rfl (by kernel_rfl) ?_ | refine wpList_store_blk rfl 91 _ _ rfl (w.heap.size+1) [.slice da0 dn0 dc0,.int .i64 p0,.int .i64 x0,.int .i64 y0,.slice da1 dn1 dc1,.int .i64 p1,.int .i64 x1,.int .i64 y1,.slice da2 dn2 dc2,.int .i64 p2,.int .i64 x2,.int .i64 y2,.int .i64 v0,.int .i64 v1,.int .i64 v2,.int .i64 v3,.int .i64 h0,.int .i64 h1,.slice none 0 0] rfl rfl pR (by kernel_rfl) rfl rfl ?_)
   intro U10 pR2 g3
   have bw2:=bw.grown g3 bw.size (fun k e=>by cases e;omega)
   clear bw g2 g3 pM pR
   go_wp2_with fail
   refine bodyPost_ret (results_blk2 Tryz.results54 _ _ _ _ _ _ rfl pR2.out Tryz.underlying91 rfl (by kernel_rfl)) rfl ?_
   exact ⟨rfl,bw2⟩
 ·have hdr:Below U.heap.size U U.drew:=by go_grown
  replace cP:=cells_kept hdr _ _ cP
  replace pP:=pP.below hdr
  replace pR:=pR.below hdr
  replace bw:=bel_trans bw hdr
  replace hsz:w.heap.size+2≤U.drew.heap.size:=hsz
  clear hdr
  generalize U.drew=Ud at *
  have hb:Below Ud.heap.size Ud (Ud.alloc (.cells #[.slice none 0 0,.int .i64 0,.int .i64 0,.int .i64 0,.slice none 0 0,.int .i64 0,.int .i64 0,.int .i64 0,.slice none 0 0,.int .i64 0,.int .i64 0,.int .i64 0,.int .i64 0,.int .i64 0,.int .i64 0,.int .i64 0,.int .i64 0,.int .i64 0] 89)):=by go_grown
  have pM:Blk (Ud.alloc (.cells #[.slice none 0 0,.int .i64 0,.int .i64 0,.int .i64 0,.slice none 0 0,.int .i64 0,.int .i64 0,.int .i64 0,.slice none 0 0,.int .i64 0,.int .i64 0,.int .i64 0,.int .i64 0,.int .i64 0,.int .i64 0,.int .i64 0,.int .i64 0,.int .i64 0] 89)) Ud.heap.size 89 [.slice none 0 0,.int .i64 0,.int .i64 0,.int .i64 0,.slice none 0 0,.int .i64 0,.int .i64 0,.int .i64 0,.slice none 0 0,.int .i64 0,.int .i64 0,.int .i64 0,.int .i64 0,.int .i64 0,.int .i64 0,.int .i64 0,.int .i64 0,.int .i64 0]:=blkAt _ _ _ rfl
  replace cP:=cells_kept hb _ _ cP
  replace pP:=pP.below hb
  replace pR:=pR.below hb
  replace bw:=bel_trans bw hb
  have hXM:w.heap.size+2≤Ud.heap.size:=hsz
  replace hsz:w.heap.size+2≤(Ud.alloc (.cells #[.slice none 0 0,.int .i64 0,.int .i64 0,.int .i64 0,.slice none 0 0,.int .i64 0,.int .i64 0,.int .i64 0,.slice none 0 0,.int .i64 0,.int .i64 0,.int .i64 0,.int .i64 0,.int .i64 0,.int .i64 0,.int .i64 0,.int .i64 0,.int .i64 0] 89)).heap.size:=Nat.le_trans hsz hb.size
  go_simp
  refine hK.out _ _ cP (fun hS6=>?_)
  clear hK hb
  generalize (Ud.alloc (.cells #[.slice none 0 0,.int .i64 0,.int .i64 0,.int .i64 0,.slice none 0 0,.int .i64 0,.int .i64 0,.int .i64 0,.slice none 0 0,.int .i64 0,.int .i64 0,.int .i64 0,.int .i64 0,.int .i64 0,.int .i64 0,.int .i64 0,.int .i64 0,.int .i64 0] 89))=U6 at *
  generalize Ud.heap.size=XM at *
  try simp only [Act.put,tka,tkb,tkc]
  refine tkr 1 8 (fun K hK=>?_)
  go_simp
  refine (kN _).mono ?_
  rintro e U7 ⟨⟨s4,rfl,hO⟩,hb⟩
  replace cP:=cells_kept hb _ _ cP
  replace pP:=pP.below hb
  replace pR:=pR.below hb
  replace bw:=bel_trans bw hb
  replace pM:=pM.below hb
  replace hsz:w.heap.size+2≤U7.heap.size:=Nat.le_trans hsz hb.size
  go_wp2_with fail
  refine hK.out _ _ cP (fun hS7=>?_)
  clear hK hb
  try simp only [Act.put,tka,tkb,tkc]
  refine tkr 2 9 (fun K hK=>?_)
  go_simp
  refine (kM _ s4 bw (hO.mem fz)).mono ?_
  rintro e U8 ⟨rfl,hb⟩
  replace cP:=cells_kept hb _ _ cP
  replace pP:=pP.below hb
  replace pR:=pR.below hb
  replace bw:=bel_trans bw hb
  replace pM:=pM.below hb
  replace hO:=hO.below hb
  replace hsz:w.heap.size+2≤U8.heap.size:=Nat.le_trans hsz hb.size
  go_wp2_with fail
  refine hK.out _ _ cP (fun hS8=>?_)
  clear hK hb
  try simp only [Act.put,tka,tkb,tkc]
  refine tkm 3 6 (.tuple #[.agg #[.slice da0 dn0 dc0,.int .i64 p0,.int .i64 x0,.int .i64 y0,.slice da1 dn1 dc1,.int .i64 p1,.int .i64 x1,.int .i64 y1,.slice da2 dn2 dc2,.int .i64 p2,.int .i64 x2,.int .i64 y2,.int .i64 v0,.int .i64 v1,.int .i64 v2,.int .i64 v3,.int .i64 h0,.int .i64 h1],.int .i64 c]) ?_
  refine tkm 4 10 (.agg #[.slice da0 dn0 dc0,.int .i64 p0,.int .i64 x0,.int .i64 y0,.slice da1 dn1 dc1,.int .i64 p1,.int .i64 x1,.int .i64 y1,.slice da2 dn2 dc2,.int .i64 p2,.int .i64 x2,.int .i64 y2,.int .i64 v0,.int .i64 v1,.int .i64 v2,.int .i64 v3,.int .i64 h0,.int .i64 h1]) ?_
  refine tkm 5 11 (.int .i64 c) ?_
  refine tkz 7 (fun K hK=>?_)
  refine step_store_blkD rfl 89 _ _ rfl XM [.slice da0 dn0 dc0,.int .i64 p0,.int .i64 x0,.int .i64 y0,.slice da1 dn1 dc1,.int .i64 p1,.int .i64 x1,.int .i64 y1,.slice da2 dn2 dc2,.int .i64 p2,.int .i64 x2,.int .i64 y2,.int .i64 v0,.int .i64 v1,.int .i64 v2,.int .i64 v3,.int .i64 h0,.int .i64 h1] rfl rfl pM (by kernel_rfl) rfl rfl ?_
  intro U9 pM2 g2
  have hne:w.heap.size≠XM:=by omega
  have hne1:w.heap.size+1≠XM:=by omega
  replace pP:=pP.kept g2 (fun e=>hne (by cases e;rfl))
  replace pR:=pR.kept g2 (fun e=>hne1 (by cases e;rfl))
  replace bw:=bw.grown g2 bw.size (fun k e=>by cases e;omega)
  refine hK.out _ _ (by simpa using pP.cell 0) (fun hS9=>?_)
  clear hK hO
  try simp only [Act.put,tka,tkb,tkc]
  refine tkm 8 5 (.int .i64 c) ?_
  refine wpAnyH_done (by kernel_rfl) ?_ _
  clear hS9 cP hS0 pM
  have pM:=pM2.out
  clear pM2 pP
  go_wp2_with (first | refine wpList_load_blk rfl 89 _ rfl XM rfl pM _ Tryz.underlying89 rfl (by kernel_rfl) ?_ | refine wpList_store_blk rfl 91 _ _ rfl (w.heap.size+1) [.slice da0 dn0 dc0,.int .i64 p0,.int .i64 x0,.int .i64 y0,.slice da1 dn1 dc1,.int .i64 p1,.int .i64 x1,.int .i64 y1,.slice da2 dn2 dc2,.int .i64 p2,.int .i64 x2,.int .i64 y2,.int .i64 v0,.int .i64 v1,.int .i64 v2,.int .i64 v3,.int .i64 h0,.int .i64 h1,.slice none 0 0] rfl rfl pR (by kernel_rfl) rfl rfl ?_)
  intro U10 pR2 g3
  have bw2:=bw.grown g3 bw.size (fun k e=>by cases e;omega)
  clear bw g2 g3 pM pR
  go_wp2_with fail
  refine bodyPost_ret (results_blk2 Tryz.results54 _ _ _ _ _ _ rfl pR2.out Tryz.underlying91 rfl (by kernel_rfl)) rfl ?_
  exact ⟨rfl,bw2⟩

end Go.Proofs.YtifoggpohlegmaaGreatDoor
