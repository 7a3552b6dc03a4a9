/-
  Joined: SmB, FalP.
-/
import Derived.Test.YtifoggpohlegmaaGreatDoorA39
import Derived.Test.YtifoggpohlegmaaGreatDoorA41
import Derived.Test.YtifoggpohlegmaaGreatDoorA42

namespace Go.Proofs.YtifoggpohlegmaaGreatDoor
set_option maxRecDepth 100000
set_option maxHeartbeats 16000000
open Go.RowKit
set_option linter.unusedVariables false
set_option linter.unusedSimpArgs false

theorem sameBugs_same (a0 a1:Option Addr) (n c0 c1:Nat) (xs:List I3) (w:World) (h0:Instrs w a0 n c0 xs) (h1:Instrs w a1 n c1 xs) (hn:n≤1000000) :
  Calls Tryz.prog 35 #[.slice a0 n c0,.slice a1 n c1] w fun e w'=>e=.returned (.bool true)∧Below w.heap.size w w':=by
 have hl:=h0.1
 go_enter Tryz.func35,Tryz.ntmps35
 go_wp2_with fail
 go_loopw [5] (fun si wr=>∃ k:Nat,k≤n∧si=.int .i64 k∧Below w.heap.size w wr) (fun si _=>n - (intOf si).toNat)
 case atStart=>exact ⟨0,by omega,rfl,Below.refl _ _⟩
 case round =>
  obtain ⟨k,hk,rfl,bw⟩:=hrel
  by_cases hlt:k<n
  ·obtain ⟨_,_,_,_,hcase⟩:=h0.below bw
   rcases hcase with e0 | ⟨b,off,rfl,hb,hc⟩
   ·omega
   obtain ⟨d0,d1,d2⟩:=hc k hlt
   clear hc hb
   obtain ⟨_,_,_,_,hcase⟩:=h1.below bw
   rcases hcase with e0 | ⟨b',off',rfl,hb,hc⟩
   ·omega
   obtain ⟨f0,f1,f2⟩:=hc k hlt
   clear hc hb
   generalize xs.getD k (0,0,0)=x at d0 d1 d2 f0 f1 f2
   obtain ⟨x0,x1,x2⟩:=x
   simp only at d0 d1 d2 f0 f1 f2
   have hlt':(k:Int)<(n:Int):=by omega
   have hk0:(0:Int)≤(k:Int):=by omega
   have q0:(x0 == x0)=true:=by simp
   have q1:(x1 == x1)=true:=by simp
   have q2:(x2 == x2)=true:=by simp
   go_wp2_with fail
   go_quiet (fail)
   have bwd:=below_drewN bw nq
   generalize wr.drewN nq=U at *
   clear d0 d1 d2 f0 f1 f2 bw q0 q1 q2
   go_wp2
   go_roundw
   case rel=>exact ⟨k+1,by omega,by go_num,bwd⟩
   case measure=>simp [intOf];omega
  ·obtain rfl:k=n:=by omega
   go_wp2
   go_ret
   exact ⟨rfl,bw⟩

def hasB:List I3→I3→Bool
 | [],_=>false
 | y::l,x=>decide (y=x) || hasB l x
theorem hasB_iff {x:I3}:∀ {l:List I3},hasB l x=true↔x ∈ l
 | []=>by simp [hasB]
 | y::l=>by
  have h:=hasB_iff (x:=x) (l:=l)
  show (decide (y=x) || hasB l x)=true↔_
  rw [Bool.or_eq_true,h,List.mem_cons,decide_eq_true_iff]
  exact or_congr ⟨Eq.symm,Eq.symm⟩ Iff.rfl
theorem hasB_step {xs:List I3} {k:Nat} (hk:k<xs.length) (y:I3):hasB (xs.drop k) y=(decide (xs.getD k (0,0,0)=y) || hasB (xs.drop (k+1)) y):=by
 rw [List.drop_eq_getElem_cons hk]
 simp [hasB,List.getD,List.getElem?_eq_getElem hk]

theorem hasBug_is (a:Option Addr) (n cap:Nat) (xs:List I3) (y:I3) (w:World) (h:Instrs w a n cap xs) (hn:n≤1000000) :
  Calls Tryz.prog 34 #[.slice a n cap,y.val] w fun e w'=>e=.returned (.bool (hasB xs y))∧Below w.heap.size w w':=by
 have hl:=h.1
 obtain ⟨r,hr⟩:∃ r,r=hasB xs y:=⟨_,rfl⟩
 rw [← hr]
 have HR:Hid (r=hasB (xs.drop 0) y):=by rw [Hid];simpa using hr
 clear hr
 obtain ⟨y0,y1,y2⟩:=y
 unfold I3.val
 simp only
 have bw0:Below w.heap.size w (w.alloc (.cells #[.int .i64 y0,.int .i64 y1,.int .i64 y2] 64)):=by go_grown
 have c0:(w.alloc (.cells #[.int .i64 y0,.int .i64 y1,.int .i64 y2] 64)).cell? ⟨w.heap.size,0,none⟩=some (.int .i64 y0):=by simp [go_sem]
 have c1:(w.alloc (.cells #[.int .i64 y0,.int .i64 y1,.int .i64 y2] 64)).cell? ⟨w.heap.size,1,none⟩=some (.int .i64 y1):=by simp [go_sem]
 have c2:(w.alloc (.cells #[.int .i64 y0,.int .i64 y1,.int .i64 y2] 64)).cell? ⟨w.heap.size,2,none⟩=some (.int .i64 y2):=by simp [go_sem]
 go_enter Tryz.func34,Tryz.ntmps34
 go_wp2_with fail
 generalize w.alloc (.cells #[.int .i64 y0,.int .i64 y1,.int .i64 y2] 64)=W0 at *
 go_loopw [5] (fun si wr=>∃ k:Nat,k≤n∧si=.int .i64 k∧Hid (r=hasB (xs.drop k) (y0,y1,y2))∧Below w.heap.size w wr∧wr.cell? ⟨w.heap.size,0,none⟩=some (.int .i64 y0)∧wr.cell? ⟨w.heap.size,1,none⟩=some (.int .i64 y1)∧wr.cell? ⟨w.heap.size,2,none⟩=some (.int .i64 y2)) (fun si _=>n - (intOf si).toNat)
 case atStart=>exact ⟨0,by omega,rfl,HR,bw0,c0,c1,c2⟩
 case round =>
  clear HR bw0 c0 c1 c2
  obtain ⟨k,hk,rfl,HR,bw,c0,c1,c2⟩:=hrel
  by_cases hlt:k<n
  ·obtain ⟨_,_,_,_,hcase⟩:=h.below bw
   rcases hcase with e0 | ⟨b,off,rfl,hb,hc⟩
   ·omega
   obtain ⟨d0,d1,d2⟩:=hc k hlt
   clear hc hb
   have hst:=hasB_step (xs:=xs) (k:=k) (by omega) (y0,y1,y2)
   generalize xs.getD k (0,0,0)=x at d0 d1 d2 hst
   have HS:Hid (hasB (xs.drop k) (y0,y1,y2)=(decide (x=(y0,y1,y2)) || hasB (xs.drop (k+1)) (y0,y1,y2))):=hst
   clear hst
   have hlt':(k:Int)<(n:Int):=by omega
   have hk0:(0:Int)≤(k:Int):=by omega
   obtain ⟨x0,x1,x2⟩:=x
   simp only at d0 d1 d2
   by_cases hE:(x0,x1,x2)=(y0,y1,y2)
   ·cases hE
    have HF:Hid (r=true):=by rw [Hid,HR.out,HS.out];simp
    clear HS HR
    have q0:(y0 == y0)=true:=by simp
    have q1:(y1 == y1)=true:=by simp
    have q2:(y2 == y2)=true:=by simp
    go_wp2_with fail
    go_quiet (fail)
    have bwd:=below_drewN bw nq
    generalize wr.drewN nq=U at *
    clear d0 d1 d2 c0 c1 c2 bw q0 q1 q2
    go_wp2
    go_ret
    exact ⟨by rw [HF.out];rfl,bwd⟩
   ·have HF:Hid (r=hasB (xs.drop (k+1)) (y0,y1,y2)):=by rw [Hid,HR.out,HS.out];simp only [hE,decide_false,Bool.false_or]
    clear HS HR
    have h3:x0≠y0∨(x0=y0∧x1≠y1)∨(x0=y0∧x1=y1∧x2≠y2):=by
     by_cases q0:x0=y0
     ·by_cases q1:x1=y1
      ·refine .inr (.inr ⟨q0,q1,fun q2=>hE ?_⟩)
       rw [q0,q1,q2]
      ·exact .inr (.inl ⟨q0,q1⟩)
     ·exact .inl q0
    clear hE
    go_wp2_with fail
    rcases h3 with t0 | ⟨rfl,t1⟩ | ⟨rfl,rfl,t2⟩
    ·have t0':(x0 == y0)=false:=by simp [t0]
     go_quiet (fail)
     have bwd:=below_drewN bw nq
     replace c0:(wr.drewN nq).cell? ⟨w.heap.size,0,none⟩=some (.int .i64 y0):=c0
     replace c1:(wr.drewN nq).cell? ⟨w.heap.size,1,none⟩=some (.int .i64 y1):=c1
     replace c2:(wr.drewN nq).cell? ⟨w.heap.size,2,none⟩=some (.int .i64 y2):=c2
     generalize wr.drewN nq=U at *
     clear d0 d1 d2 bw t0 t0'
     go_wp2
     go_roundw
     case rel=>exact ⟨k+1,by omega,by go_num,HF,bwd,c0,c1,c2⟩
     case measure=>simp [intOf];omega
    ·have q0:(x0 == x0)=true:=by simp
     have t1':(x1 == y1)=false:=by simp [t1]
     go_quiet (fail)
     have bwd:=below_drewN bw nq
     replace c0:(wr.drewN nq).cell? ⟨w.heap.size,0,none⟩=some (.int .i64 x0):=c0
     replace c1:(wr.drewN nq).cell? ⟨w.heap.size,1,none⟩=some (.int .i64 y1):=c1
     replace c2:(wr.drewN nq).cell? ⟨w.heap.size,2,none⟩=some (.int .i64 y2):=c2
     generalize wr.drewN nq=U at *
     clear d0 d1 d2 bw q0 t1 t1'
     go_wp2
     go_roundw
     case rel=>exact ⟨k+1,by omega,by go_num,HF,bwd,c0,c1,c2⟩
     case measure=>simp [intOf];omega
    ·have q0:(x0 == x0)=true:=by simp
     have q1:(x1 == x1)=true:=by simp
     have t2':(x2 == y2)=false:=by simp [t2]
     go_quiet (fail)
     have bwd:=below_drewN bw nq
     replace c0:(wr.drewN nq).cell? ⟨w.heap.size,0,none⟩=some (.int .i64 x0):=c0
     replace c1:(wr.drewN nq).cell? ⟨w.heap.size,1,none⟩=some (.int .i64 x1):=c1
     replace c2:(wr.drewN nq).cell? ⟨w.heap.size,2,none⟩=some (.int .i64 y2):=c2
     generalize wr.drewN nq=U at *
     clear d0 d1 d2 bw q0 q1 t2 t2'
     go_wp2
     go_roundw
     case rel=>exact ⟨k+1,by omega,by go_num,HF,bwd,c0,c1,c2⟩
     case measure=>simp [intOf];omega
  ·obtain rfl:k=n:=by omega
   have HF:Hid (r=false):=by rw [Hid,HR.out,List.drop_of_length_le (by omega)];rfl
   clear HR c0 c1 c2
   go_wp2
   go_ret
   exact ⟨by rw [HF.out];rfl,bw⟩


theorem small_all8 {rows:List (List I3)} (h:ProgS rows):codeF rows=0∧(fullS rows).length≤2000:=by
 have:=small_room h.1 h.2.1 h.2.2.1 h.2.2.2
 refine ⟨?_,by omega⟩
 unfold codeF
 rw [if_pos h.1,if_pos (by omega)]
theorem halt_enab8 {rows:List (List I3)} {m:V4} {k:Int} (h:haltM rows m k=0):k ∈ enabM rows m 3:=by
 obtain ⟨j,hj,e⟩:=List.mem_map.1 (nxM_of h)
 have:j=k:=congrArg Prod.fst e
 exact this▸hj
theorem run_bugs8 {rows:List (List I3)} (h:(fullS rows).length≤2000) {x:I3}:∀ (ks:List Int) (m:V4) (fs:List I3),m ∈ (fullS rows).map (·.1)→(runI rows m fs ks).2.2=0→x ∈ (runI rows m fs ks).2.1→x ∈ fs∨x ∈ allI rows (fullS rows)
 | [],m,fs,_,_,hx=>.inl hx
 | k::ks,m,fs,hm,hz,hx=>by
  obtain ⟨hh,he⟩:=runI_cons hz
  rw [he] at hz hx
  obtain ⟨r,hr,rfl⟩:=List.mem_map.1 hm
  rcases run_bugs8 h ks _ _ (fullS_closed h r hr _ (nxM_of hh)) hz hx with hx | hx
  ·rcases List.mem_append.1 hx with hx | hx
   ·exact .inl hx
   ·exact .inr (mem_allI.2 ⟨r,hr,mem_bugsI.2 (.inr ⟨k,halt_enab8 hh,hx⟩)⟩)
  ·exact .inr hx
theorem zero_in8 (rows:List (List I3)):zeroV ∈ (fullS rows).map (·.1):=List.mem_map.2 ⟨_,List.mem_of_getElem? (fullS_head rows),rfl⟩
theorem full_some8 (rows:List (List I3)):0<(fullS rows).length:=by
 have h:=fullS_head rows
 cases hc:fullS rows with
 | nil=>rw [hc] at h;simp at h
 | cons=>simp
theorem run_all8 {rows:List (List I3)} {ks:List Int} {m:V4} (h:ProgS rows) (hg:goesTo rows ks m) (hl:ks.length≤14):runC rows ks=0∧∀ y ∈ runF rows ks,hasB (allI rows (fullS rows)) y=true:=by
 obtain ⟨_,hc,_⟩:=goes_run h.1 hg hl
 refine ⟨hc,fun y hx=>?_⟩
 have hf:=(small_all8 h).2
 rw [hasB_iff]
 unfold runC at hc
 rw [if_neg (by omega),if_pos h.1] at hc
 unfold runF at hx
 rw [if_neg (by omega),if_pos h.1] at hx
 rcases mem_mergeB.1 hx with hx | hx
 ·rcases run_bugs8 hf ks zeroV [] (zero_in8 rows) hc hx with hx | hx
  ·simp at hx
  ·exact hx
 ·obtain ⟨r,hr,e⟩:=List.mem_map.1 (fullS_runs hf ks zeroV [] (zero_in8 rows) hc)
  exact mem_allI.2 ⟨r,hr,mem_bugsI.2 (.inl (by rw [e];exact hx))⟩
theorem keys_at8 {rows:List (List I3)} (h:ProgS rows) {x:Nat} (hx:x<(keysL (fullS rows)).length):∃ m,(keysL (fullS rows)).getD x ByteArray.empty=keyT m∧shapeOk m=true∧m ∈ (fullS rows).map (·.1):=by
 rw [keysL_len] at hx
 refine ⟨((fullS rows)[x]).1,?_,fullS_shaped h.1 _ (List.getElem_mem hx),List.mem_map.2 ⟨_,List.getElem_mem hx,rfl⟩⟩
 unfold keysL
 simp [List.getD,hx]
theorem step_all8 {rows:List (List I3)} {m:V4} (h:ProgS rows) (hm:m ∈ (fullS rows).map (·.1)) (hs:shapeOk m=true) {i:Nat} (hi:i<(enabM rows m 3).length):∃ z,stepZ rows m ((enabM rows m 3).getD i 0)=z∧stepC rows m ((enabM rows m 3).getD i 0)=0∧shapeOk z=true∧keyA z=keyT z∧keyC z=0∧reachV rows (keyT z)=true∧reachC rows (keyT z)=0:=by
 have hk:(enabM rows m 3).getD i 0 ∈ enabM rows m 3:=by
  simp only [List.getD,List.getElem?_eq_getElem hi,Option.getD_some]
  exact List.getElem_mem hi
 generalize (enabM rows m 3).getD i 0=k at hk
 have ht:(k,(goM rows m k).1) ∈ nxM rows m:=List.mem_map.2 ⟨k,hk,rfl⟩
 have hz:=(nxM_mem ht).1
 obtain ⟨e1,e2⟩:=halt_step h.1 hs hz
 have hs2:=goM_shape h.1 hs hz
 obtain ⟨hc,hf⟩:=small_all8 h
 obtain ⟨r,hr,rfl⟩:=List.mem_map.1 hm
 have hin:=fullS_closed hf r hr _ ht
 have h15:=keyT_size6 hs2
 refine ⟨_,e1,e2,hs2,by unfold keyA;rw [if_pos hs2],by unfold keyC;rw [if_pos hs2],?_,?_⟩
 ·unfold reachV
  rw [if_neg (by omega),if_pos hc,inK_iff]
  obtain ⟨q,hq,e⟩:=List.mem_map.1 hin
  simp only at e
  rw [← e]
  exact List.mem_map.2 ⟨q,hq,rfl⟩
 ·unfold reachC
  rw [if_neg (by omega),hc]
theorem implVmOf_key8 {m:V4} (h:shapeOk m=true) (w:World) (hV:VmShape w) :
  Calls Tryz.prog 26 #[.string (keyT m)] w fun e w'=>VmGot e w' w.heap.size m 0∧Below w.heap.size w w':=by
 have k:=implVmOf_15 (keyT m) w (keyT_size6 h) hV
 rw [key_back6 h,h] at k
 exact k
theorem enab_fit8 {rows:List (List I3)} {m:V4} (hp:progOk rows=true) (hs:shapeOk m=true):enabA rows m=enabM rows m 3∧stuckC rows m=0:=by
 unfold enabA stuckC
 rw [hp,hs]
 exact ⟨rfl,rfl⟩

end Go.Proofs.YtifoggpohlegmaaGreatDoor
