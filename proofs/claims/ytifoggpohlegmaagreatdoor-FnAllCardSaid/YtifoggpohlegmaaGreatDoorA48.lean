/-
  Joined: AbgE, At.
-/
import Derived.Test.YtifoggpohlegmaaGreatDoorRows
import Derived.ProofKit
import Derived.OpenShut
import Derived.LaidMore
import Derived.MakeChecks
import Derived.Stop.LaidErr
import Derived.Test.YtifoggpohlegmaaGreatDoorA47

namespace Go.Proofs.YtifoggpohlegmaaGreatDoor
set_option maxRecDepth 100000
set_option maxHeartbeats 16000000
open Go.RowKit
set_option linter.unusedVariables false

theorem allI_ok {rows:List (List I3)} {S:List (Rec6 V4)} (hp:progOk rows=true) (hS:Shaped S):∀ x ∈ allI rows S,okB x=true:=fun x hx=>by
 obtain ⟨r,hr,hx⟩:=mem_allI.1 hx
 unfold bugsI at hx
 split at hx
 ·simp at hx;subst hx;rfl
 ·obtain ⟨k,hk,hx⟩:=List.mem_flatMap.1 hx
  exact ownM_ok hp (hS r hr) (enab_halt hk) x hx
theorem flat_len6 {f:Rec6 V4→List I3} (hf:∀ r,(f r).length≤3):∀ S:List (Rec6 V4),(S.flatMap f).length≤3*S.length
 | []=>by simp
 | r::S=>by
  have:=flat_len6 hf S
  have:=hf r
  rw [List.flatMap_cons,List.length_append,List.length_cons]
  omega
theorem bugsO_ok (rows:List (List I3)):(∀ x ∈ bugsO rows,I3.fits x)∧(bugsO rows).length≤100000:=by
 unfold bugsO
 split
 ·rename_i h
  obtain ⟨hp,hf⟩:=code_parts h
  refine ⟨fun x hx=>okB_fitsQ (allI_ok hp (fullS_shaped hp) x hx),?_⟩
  unfold allI
  have h1:=mergeB_len ((fullS rows).flatMap fun r=>bugsI rows r.1) []
  have h2:=flat_len6 (f:=fun r=>bugsI rows r.1) (fun r=>bugsI_len6 rows r.1) (fullS rows)
  simp only [List.length_nil] at h1
  omega
 ·exact ⟨fun x hx=>by simp at hx,by simp⟩


def Chosen (n:Int) (e:Ending):Prop:=∃ v:Nat,((v:Int)<n∨v=0)∧e=.returned (.int .i64 v)
theorem chosen_mk {n x:Int} (h0:0≤x) (h:x<n):Chosen n (.returned (.int .i64 x)):=⟨x.toNat,.inl (by omega),by rw [Int.toNat_of_nonneg h0]⟩

theorem at_any (a:Option Addr) (len cap:Nat) (zs:List Int) (i n:Int) (w:World) (hI:IsRow .u8 w a len cap zs) (hlen:len≤1048576) (hi0:0≤i) (hi1:i≤1000000) (hn:n≤1000000000) :
  Calls Tryz.prog 27 #[.slice a len cap,.int .i64 i,.int .i64 n] w fun e w'=>Chosen n e∧∃ d,w'=w.drewN d:=by
 by_cases h1:n≤1
 ·go_enter Tryz.func27,Tryz.ntmps27
  go_wp2
  go_ret
  exact ⟨⟨0,.inr rfl,rfl⟩,0,rfl⟩
 by_cases h0:len=0
 ·subst h0
  go_enter Tryz.func27,Tryz.ntmps27
  go_wp2
  go_ret
  exact ⟨chosen_mk (Int.emod_nonneg (i*7) (by omega)) (Int.emod_lt_of_pos (i*7) (by omega)),0,rfl⟩
 ·have hbnd:∀ j,j<len→0≤(zs.take len).getD j 0∧(zs.take len).getD j 0≤255:=by
   intro j hj
   rcases hI with ⟨_,hl0,_,_⟩ | ⟨x,_,hlc,_,hzl,_,hw⟩
   ·exact absurd hl0 h0
   ·have hm:(zs.take len).getD j 0 ∈ zs:=by
     have hjz:j<zs.length:=by omega
     simp [List.getD,hj,List.getElem?_eq_getElem hjz]
    have hw':=hw _ hm
    generalize (zs.take len).getD j 0=y at hw' ⊢
    simp [Lit.wf,IntKind.min,IntKind.max,IntKind.signed,IntKind.bits] at hw'
    omega
  obtain ⟨hl,hlc,hcm,hcase⟩:=Ints.of_isRow hI
  unfold maxLen at hcm
  rcases hcase with h0' | ⟨b,off,rfl,hblt,hcell⟩
  ·exact absurd h0' h0
  obtain ⟨k,rfl⟩:=Int.eq_ofNat_of_zero_le hi0
  have hpos:0<len:=by omega
  obtain ⟨q,hq⟩:∃ q:Nat,q=k % len:=⟨_,rfl⟩
  obtain ⟨r,hr⟩:∃ r:Nat,r=(k+1) % len:=⟨_,rfl⟩
  obtain ⟨d,hd⟩:∃ d:Nat,d=k / len:=⟨_,rfl⟩
  have hql:q<len:=by rw [hq];exact Nat.mod_lt _ hpos
  have hrl:r<len:=by rw [hr];exact Nat.mod_lt _ hpos
  have hdk:d≤k:=by rw [hd];exact Nat.div_le_self _ _
  have t1:((k:Int)).tmod (len:Int)=(q:Int):=by rw [hq,Int.tmod_eq_emod_of_nonneg (by omega)];rfl
  have t2:((k:Int)+1).tmod (len:Int)=(r:Int):=by rw [hr,Int.tmod_eq_emod_of_nonneg (by omega)];rfl
  have t3:((k:Int)).tdiv (len:Int)=(d:Int):=by rw [hd,Int.tdiv_eq_ediv_of_nonneg (by omega)];rfl
  have cq:=hcell q hql
  have cr:=hcell r hrl
  obtain ⟨x1,x2⟩:=hbnd q hql
  obtain ⟨y1,y2⟩:=hbnd r hrl
  generalize (zs.take len).getD q 0=x at cq x1 x2
  generalize (zs.take len).getD r 0=y at cr y1 y2
  have hq1:(q:Int)<(len:Int):=by omega
  have hr1:(r:Int)<(len:Int):=by omega
  have w1:IntKind.i64.wrap ((k:Int)+1)=(k:Int)+1:=IntWalk.i64_in _ ⟨by omega,by omega⟩
  have w2:IntKind.i64.wrap (d:Int)=(d:Int):=IntWalk.i64_in _ ⟨by omega,by omega⟩
  have w3:IntKind.i64.wrap x=x:=IntWalk.i64_in _ ⟨by omega,by omega⟩
  have w4:IntKind.i64.wrap y=y:=IntWalk.i64_in _ ⟨by omega,by omega⟩
  have w5:IntKind.i64.wrap (x*31)=x*31:=IntWalk.i64_in _ ⟨by omega,by omega⟩
  have w6:IntKind.i64.wrap (x*31+y)=x*31+y:=IntWalk.i64_in _ ⟨by omega,by omega⟩
  have w7:IntKind.i64.wrap (x*31+y+(d:Int))=x*31+y+(d:Int):=IntWalk.i64_in _ ⟨by omega,by omega⟩
  have t4:(x*31+y+(d:Int)).tmod n=(x*31+y+(d:Int)) % n:=Int.tmod_eq_emod_of_nonneg (by omega)
  have hne:((len:Int) == 0)=false:=by simp;omega
  have hnn:(n == 0)=false:=by simp;omega
  have hne':¬ (len:Int)=0:=by omega
  have hnn':¬ n=0:=by omega
  clear hcell hbnd hI hq hr hd hl
  go_enter Tryz.func27,Tryz.ntmps27
  go_wp2
  go_quiet (fail)
  go_wp2
  go_ret
  exact ⟨chosen_mk (Int.emod_nonneg (x*31+y+(d:Int)) (by omega)) (Int.emod_lt_of_pos (x*31+y+(d:Int)) (by omega)),_,rfl⟩
end Go.Proofs.YtifoggpohlegmaaGreatDoor
