/-
  Joined: SmB, WtnP.
-/
import Derived.Test.YtifoggpohlegmaaGreatDoorW37
import Derived.Test.YtifoggpohlegmaaGreatDoorW38
import Derived.Test.YtifoggpohlegmaaGreatDoorW40

namespace Go.Proofs.YtifoggpohlegmaaGreatDoor
set_option maxRecDepth 100000
set_option maxHeartbeats 16000000
open Go.RowKit
set_option linter.unusedVariables false
set_option linter.unusedSimpArgs false

def hasB:List I3→I3→Bool
 | [],_=>false
 | y::l,x=>decide (y=x) || hasB l x
theorem hasB_iff {x:I3}:∀ {l:List I3},hasB l x=true↔x ∈ l
 | []=>by simp [hasB]
 | y::l=>by
  have h:=hasB_iff (x:=x) (l:=l)
  show (decide (y=x) || hasB l x)=true↔_
  rw [Bool.or_eq_true,h,List.mem_cons,decide_eq_true_iff]
  exact or_congr ⟨Eq.symm,Eq.symm⟩ Iff.rfl
theorem hasB_step {xs:List I3} {k:Nat} (hk:k<xs.length) (y:I3):hasB (xs.drop k) y=(decide (xs.getD k (0,0,0)=y) || hasB (xs.drop (k+1)) y):=by
 rw [List.drop_eq_getElem_cons hk]
 simp [hasB,List.getD,List.getElem?_eq_getElem hk]

theorem hasBug_is (a:Option Addr) (n cap:Nat) (xs:List I3) (y:I3) (w:World) (h:Instrs w a n cap xs) (hn:n≤1000000) :
  Calls Tryz.prog 34 #[.slice a n cap,y.val] w fun e w'=>e=.returned (.bool (hasB xs y))∧Below w.heap.size w w':=by
 have hl:=h.1
 obtain ⟨r,hr⟩:∃ r,r=hasB xs y:=⟨_,rfl⟩
 rw [← hr]
 have HR:Hid (r=hasB (xs.drop 0) y):=by rw [Hid];simpa using hr
 clear hr
 obtain ⟨y0,y1,y2⟩:=y
 unfold I3.val
 simp only
 have bw0:Below w.heap.size w (w.alloc (.cells #[.int .i64 y0,.int .i64 y1,.int .i64 y2] 64)):=by go_grown
 have c0:(w.alloc (.cells #[.int .i64 y0,.int .i64 y1,.int .i64 y2] 64)).cell? ⟨w.heap.size,0,none⟩=some (.int .i64 y0):=by simp [go_sem]
 have c1:(w.alloc (.cells #[.int .i64 y0,.int .i64 y1,.int .i64 y2] 64)).cell? ⟨w.heap.size,1,none⟩=some (.int .i64 y1):=by simp [go_sem]
 have c2:(w.alloc (.cells #[.int .i64 y0,.int .i64 y1,.int .i64 y2] 64)).cell? ⟨w.heap.size,2,none⟩=some (.int .i64 y2):=by simp [go_sem]
 go_enter Tryz.func34,Tryz.ntmps34
 go_wp2_with fail
 generalize w.alloc (.cells #[.int .i64 y0,.int .i64 y1,.int .i64 y2] 64)=W0 at *
 go_loopw [5] (fun si wr=>∃ k:Nat,k≤n∧si=.int .i64 k∧Hid (r=hasB (xs.drop k) (y0,y1,y2))∧Below w.heap.size w wr∧wr.cell? ⟨w.heap.size,0,none⟩=some (.int .i64 y0)∧wr.cell? ⟨w.heap.size,1,none⟩=some (.int .i64 y1)∧wr.cell? ⟨w.heap.size,2,none⟩=some (.int .i64 y2)) (fun si _=>n - (intOf si).toNat)
 case atStart=>exact ⟨0,by omega,rfl,HR,bw0,c0,c1,c2⟩
 case round =>
  clear HR bw0 c0 c1 c2
  obtain ⟨k,hk,rfl,HR,bw,c0,c1,c2⟩:=hrel
  by_cases hlt:k<n
  ·obtain ⟨_,_,_,_,hcase⟩:=h.below bw
   rcases hcase with e0 | ⟨b,off,rfl,hb,hc⟩
   ·omega
   obtain ⟨d0,d1,d2⟩:=hc k hlt
   clear hc hb
   have hst:=hasB_step (xs:=xs) (k:=k) (by omega) (y0,y1,y2)
   generalize xs.getD k (0,0,0)=x at d0 d1 d2 hst
   have HS:Hid (hasB (xs.drop k) (y0,y1,y2)=(decide (x=(y0,y1,y2)) || hasB (xs.drop (k+1)) (y0,y1,y2))):=hst
   clear hst
   have hlt':(k:Int)<(n:Int):=by omega
   have hk0:(0:Int)≤(k:Int):=by omega
   obtain ⟨x0,x1,x2⟩:=x
   simp only at d0 d1 d2
   by_cases hE:(x0,x1,x2)=(y0,y1,y2)
   ·cases hE
    have HF:Hid (r=true):=by rw [Hid,HR.out,HS.out];simp
    clear HS HR
    have q0:(y0 == y0)=true:=by simp
    have q1:(y1 == y1)=true:=by simp
    have q2:(y2 == y2)=true:=by simp
    go_wp2_with fail
    go_quiet (fail)
    have bwd:=below_drewN bw nq
    generalize wr.drewN nq=U at *
    clear d0 d1 d2 c0 c1 c2 bw q0 q1 q2
    go_wp2
    go_ret
    exact ⟨by rw [HF.out];rfl,bwd⟩
   ·have HF:Hid (r=hasB (xs.drop (k+1)) (y0,y1,y2)):=by rw [Hid,HR.out,HS.out];simp only [hE,decide_false,Bool.false_or]
    clear HS HR
    have h3:x0≠y0∨(x0=y0∧x1≠y1)∨(x0=y0∧x1=y1∧x2≠y2):=by
     by_cases q0:x0=y0
     ·by_cases q1:x1=y1
      ·refine .inr (.inr ⟨q0,q1,fun q2=>hE ?_⟩)
       rw [q0,q1,q2]
      ·exact .inr (.inl ⟨q0,q1⟩)
     ·exact .inl q0
    clear hE
    go_wp2_with fail
    rcases h3 with t0 | ⟨rfl,t1⟩ | ⟨rfl,rfl,t2⟩
    ·have t0':(x0 == y0)=false:=by simp [t0]
     go_quiet (fail)
     have bwd:=below_drewN bw nq
     replace c0:(wr.drewN nq).cell? ⟨w.heap.size,0,none⟩=some (.int .i64 y0):=c0
     replace c1:(wr.drewN nq).cell? ⟨w.heap.size,1,none⟩=some (.int .i64 y1):=c1
     replace c2:(wr.drewN nq).cell? ⟨w.heap.size,2,none⟩=some (.int .i64 y2):=c2
     generalize wr.drewN nq=U at *
     clear d0 d1 d2 bw t0 t0'
     go_wp2
     go_roundw
     case rel=>exact ⟨k+1,by omega,by go_num,HF,bwd,c0,c1,c2⟩
     case measure=>simp [intOf];omega
    ·have q0:(x0 == x0)=true:=by simp
     have t1':(x1 == y1)=false:=by simp [t1]
     go_quiet (fail)
     have bwd:=below_drewN bw nq
     replace c0:(wr.drewN nq).cell? ⟨w.heap.size,0,none⟩=some (.int .i64 x0):=c0
     replace c1:(wr.drewN nq).cell? ⟨w.heap.size,1,none⟩=some (.int .i64 y1):=c1
     replace c2:(wr.drewN nq).cell? ⟨w.heap.size,2,none⟩=some (.int .i64 y2):=c2
     generalize wr.drewN nq=U at *
     clear d0 d1 d2 bw q0 t1 t1'
     go_wp2
     go_roundw
     case rel=>exact ⟨k+1,by omega,by go_num,HF,bwd,c0,c1,c2⟩
     case measure=>simp [intOf];omega
    ·have q0:(x0 == x0)=true:=by simp
     have q1:(x1 == x1)=true:=by simp
     have t2':(x2 == y2)=false:=by simp [t2]
     go_quiet (fail)
     have bwd:=below_drewN bw nq
     replace c0:(wr.drewN nq).cell? ⟨w.heap.size,0,none⟩=some (.int .i64 x0):=c0
     replace c1:(wr.drewN nq).cell? ⟨w.heap.size,1,none⟩=some (.int .i64 x1):=c1
     replace c2:(wr.drewN nq).cell? ⟨w.heap.size,2,none⟩=some (.int .i64 y2):=c2
     generalize wr.drewN nq=U at *
     clear d0 d1 d2 bw q0 q1 t2 t2'
     go_wp2
     go_roundw
     case rel=>exact ⟨k+1,by omega,by go_num,HF,bwd,c0,c1,c2⟩
     case measure=>simp [intOf];omega
  ·obtain rfl:k=n:=by omega
   have HF:Hid (r=false):=by rw [Hid,HR.out,List.drop_of_length_le (by omega)];rfl
   clear HR c0 c1 c2
   go_wp2
   go_ret
   exact ⟨by rw [HF.out];rfl,bw⟩


theorem small_code {rows:List (List I3)} (h:ProgS rows):codeF rows=0:=by
 have:=small_room h.1 h.2.1 h.2.2.1 h.2.2.2
 unfold codeF
 rw [if_pos h.1,if_pos (by omega)]
theorem halt_enab6 {rows:List (List I3)} {m:V4} {k:Int} (h:haltM rows m k=0):k ∈ enabM rows m 3:=by
 obtain ⟨j,hj,e⟩:=List.mem_map.1 (nxM_of h)
 have:j=k:=congrArg Prod.fst e
 exact this▸hj
theorem run_bugs6 {rows:List (List I3)} (h:(fullS rows).length≤2000) {x:I3}:∀ (ks:List Int) (m:V4) (fs:List I3),m ∈ (fullS rows).map (·.1)→(runI rows m fs ks).2.2=0→x ∈ (runI rows m fs ks).2.1→x ∈ fs∨x ∈ allI rows (fullS rows)
 | [],m,fs,_,_,hx=>.inl hx
 | k::ks,m,fs,hm,hz,hx=>by
  obtain ⟨hh,he⟩:=runI_cons hz
  rw [he] at hz hx
  obtain ⟨r,hr,rfl⟩:=List.mem_map.1 hm
  rcases run_bugs6 h ks _ _ (fullS_closed h r hr _ (nxM_of hh)) hz hx with hx | hx
  ·rcases List.mem_append.1 hx with hx | hx
   ·exact .inl hx
   ·exact .inr (mem_allI.2 ⟨r,hr,mem_bugsI.2 (.inr ⟨k,halt_enab6 hh,hx⟩)⟩)
  ·exact .inr hx
theorem zero_in6 (rows:List (List I3)):zeroV ∈ (fullS rows).map (·.1):=List.mem_map.2 ⟨_,List.mem_of_getElem? (fullS_head rows),rfl⟩
theorem wit_all6 {rows:List (List I3)} {ks:List Int} {y:I3} (hf:(fullS rows).length≤2000) (h:witV rows ks y=true):y ∈ allI rows (fullS rows):=by
 unfold witV at h
 split at h
 ·simp at h
 ·rename_i h4
  split at h
  ·rename_i hp
   simp only [Bool.and_eq_true] at hp
   rw [Bool.and_eq_true,decide_eq_true_iff] at h
   obtain ⟨hc,hw⟩:=h
   have hx:=hasW_iff.1 hw
   unfold runC at hc
   rw [if_neg h4,if_pos hp.1] at hc
   unfold runF at hx
   rw [if_neg h4,if_pos hp.1] at hx
   rcases mem_mergeB.1 hx with hx | hx
   ·rcases run_bugs6 hf ks zeroV [] (zero_in6 rows) hc hx with hx | hx
    ·simp at hx
    ·exact hx
   ·obtain ⟨r,hr,e⟩:=List.mem_map.1 (fullS_runs hf ks zeroV [] (zero_in6 rows) hc)
    exact mem_allI.2 ⟨r,hr,mem_bugsI.2 (.inl (by rw [e];exact hx))⟩
  ·simp at h
theorem witF_of {S:List (Rec6 V4)} {hit:V4→Option (List Int)} {ks:List Int}:∀ (rs:List (Rec6 V4)) (i:Nat),rs=S.drop i→witF S hit i rs=some ks→∃ j r t,S[j]?=some r∧hit r.1=some t∧ks=pathS S j j++t
 | [],i,_,h=>by simp [witF] at h
 | r::rs,i,hd,h=>by
  have hr:S[i]?=some r:=by
   have:=congrArg (·[0]?) hd
   simp at this
   exact this.symm
  have hd2:rs=S.drop (i+1):=by
   have:=congrArg List.tail hd
   simpa using this
  have h2:(match hit r.1 with | some t=>some (pathS S i i++t) | none=>witF S hit (i+1) rs)=some ks:=h
  cases e:hit r.1 with
  | some t =>
   rw [e] at h2
   simp at h2
   exact ⟨i,r,t,hr,e,h2.symm⟩
  | none =>
   rw [e] at h2
   exact witF_of rs (i+1) hd2 h2
theorem witF_some6 {S:List (Rec6 V4)} {hit:V4→Option (List Int)}:∀ (rs:List (Rec6 V4)) (i:Nat),(witF S hit i rs).isSome=true↔∃ r ∈ rs,(hit r.1).isSome=true
 | [],i=>by simp [witF]
 | r::rs,i=>by
  have h2:witF S hit i (r::rs)=(match hit r.1 with | some t=>some (pathS S i i++t) | none=>witF S hit (i+1) rs):=rfl
  rw [h2]
  have ih:=witF_some6 (S:=S) (hit:=hit) rs (i+1)
  cases e:hit r.1 with
  | some t=>simp [e]
  | none=>simp only [ih];simp [e]
theorem witO_some {rows:List (List I3)} {b:I3}:(witO rows b).isSome=true↔b ∈ allI rows (fullS rows):=by
 unfold witO
 rw [witF_some6,mem_allI]
 constructor
 ·rintro ⟨r,hr,h⟩
  refine ⟨r,hr,?_⟩
  unfold hitI at h
  split at h
  ·assumption
  ·simp at h
 ·rintro ⟨r,hr,h⟩
  refine ⟨r,hr,?_⟩
  unfold hitI
  rw [if_pos h]
  rfl
theorem witO_wit {rows:List (List I3)} {b:I3} {ks:List Int} (hp:progOk rows=true) (hf:(fullS rows).length≤2000) (hb:okB b=true) (h:witO rows b=some ks):witV rows ks b=true∧witC rows ks b=0:=by
 obtain ⟨j,r,t,hr,ht,rfl⟩:=witF_of (fullS rows) 0 (by simp) h
 have hj:=(List.getElem?_eq_some_iff.1 hr).1
 obtain ⟨p1,p2,p3⟩:=path_run (fullS_came rows) (fullS_head rows) j j r (Nat.le_refl _) hr
 unfold hitI at ht
 split at ht
 ·rename_i hx
  simp only [Option.some.injEq] at ht
  have hrun:(pathS (fullS rows) j j++t).length≤4096∧(runI rows zeroV [] (pathS (fullS rows) j j++t)).2.2=0∧b ∈ mergeB (runI rows zeroV [] (pathS (fullS rows) j j++t)).2.1 (deadM rows (runI rows zeroV [] (pathS (fullS rows) j j++t)).1):=by
   rcases mem_bugsI.1 hx with hd | ⟨k,hk,hd⟩
   ·have e:=(dead_kind hd).1
    rw [if_pos (by rw [e])] at ht
    subst ht
    rw [List.append_nil]
    exact ⟨by omega,p2,mem_mergeB.2 (.inr (by rw [p1];exact hd))⟩
   ·obtain ⟨e1,e2⟩:=own_kind hd
    rw [if_neg (by rcases e2 with e | e<;>rw [e]<;>decide)] at ht
    subst ht
    rw [e1]
    have hh:=enab_halt hk
    have e:=runI_snoc rows k (pathS (fullS rows) j j) zeroV [] p2
    rw [p1] at e
    have e2:runI rows r.1 (runI rows zeroV [] (pathS (fullS rows) j j)).2.1 [k]=((goM rows r.1 k).1,(runI rows zeroV [] (pathS (fullS rows) j j)).2.1++ownM rows r.1 k,0):=by
     show (if haltM rows r.1 k=0 then _ else _)=_
     rw [if_pos hh]
     rfl
    rw [e2] at e
    rw [e]
    refine ⟨by simp;omega,rfl,mem_mergeB.2 (.inl (List.mem_append.2 (.inr hd)))⟩
  obtain ⟨r1,r2,r3⟩:=hrun
  unfold witV witC runC runF
  simp only [hp,hb,Bool.and_self,if_true,if_neg (show ¬ 4096<(pathS (fullS rows) j j++t).length by omega),r2,decide_true,Bool.true_and]
  exact ⟨hasW_iff.2 r3,trivial⟩
 ·simp at ht
theorem found_law {rows:List (List I3)} {b:I3} (h:ProgS rows) (hb:b ∈ allI rows (fullS rows)):wofC rows b=0∧witV rows (wofL rows b) b=true∧witC rows (wofL rows b) b=0:=by
 have hc:=small_code h
 obtain ⟨hp,hf⟩:=code_parts hc
 have hok:=allI_ok hp (fullS_shaped hp) b hb
 obtain ⟨ks,hk⟩:=Option.isSome_iff_exists.1 (witO_some.2 hb)
 obtain ⟨h1,h2⟩:=witO_wit hp hf hok hk
 unfold wofC wofL wofK
 simp only [hok,hc,hk,if_true,Option.isSome_some,Option.getD_some,and_self]
 exact ⟨trivial,h1,h2⟩
theorem other_law {rows:List (List I3)} {b:I3} (h:ProgS rows) (hok:okB b=true):wofC rows b=(if hasB (allI rows (fullS rows)) b then 0 else 5)∧∀ ks,ks.length≤4096→witC rows ks b=0∧(witV rows ks b=true→hasB (allI rows (fullS rows)) b=true):=by
 have hc:=small_code h
 obtain ⟨hp,hf⟩:=code_parts hc
 refine ⟨?_,fun ks hk=>⟨?_,fun hv=>hasB_iff.2 (wit_all6 hf hv)⟩⟩
 ·unfold wofC wofK
  rw [if_pos hok,if_pos hc]
  cases hh:hasB (allI rows (fullS rows)) b
  ·rw [if_neg (fun hs=>by rw [hasB_iff.2 (witO_some.1 hs)] at hh;cases hh)];rfl
  ·rw [if_pos (witO_some.2 (hasB_iff.1 hh))];rfl
 ·unfold witC
  rw [if_neg (by omega),hp,hok]
  rfl
end Go.Proofs.YtifoggpohlegmaaGreatDoor
