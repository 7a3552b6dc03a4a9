/-
  Joined: NrmR, SameInts.
-/
import Derived.Test.YtifoggpohlegmaaGreatDoorC40
import Derived.Test.YtifoggpohlegmaaGreatDoorC45

namespace Go.Proofs.YtifoggpohlegmaaGreatDoor
set_option maxRecDepth 100000
set_option maxHeartbeats 16000000
open Go.RowKit
set_option linter.unusedVariables false

theorem sw_front {e:I4} {b:List I4}:∀ (a:List I4),(∀ x ∈ a,depM x e=false)→Sw (a++e::b) (e::(a++b))
 | [],_=>.refl _
 | x::a,h=>by
  have h1:=sw_front (b:=b) a (fun z hz=>h z (by simp [hz]))
  exact (h1.cons x).step ⟨[],x,e,a++b,rfl,rfl,h x (by simp)⟩
theorem to_front {rows:List (List I3)} (hp:progOk rows=true) {k:Int} {kb:List Int}:∀ (ka:List Int) (m:V4) (fs:List I3) (a b:List I4) (e:I4),shapeOk m=true→(runI rows m fs (ka++k::kb)).2.2=0→evsM rows m (ka++k::kb)=a++e::b→a.length=ka.length→(∀ x ∈ a,depM x e=false) →
  (runI rows m fs (k::(ka++kb))).1=(runI rows m fs (ka++k::kb)).1∧(runI rows m fs (k::(ka++kb))).2.2=0∧evsM rows m (k::(ka++kb))=e::(a++b)
 | [],m,fs,a,b,e,hs,h,he,hl,hd=>by
  have h0:a=[]:=by cases a with
   | nil=>rfl
   | cons _ _=>simp at hl
  subst h0
  exact ⟨rfl,h,he⟩
 | j::ka,m,fs,a,b,e,hs,h,he,hl,hd=>by
  cases a with
  | nil=>simp at hl
  | cons x a =>
   rw [List.cons_append] at h he ⊢
   obtain ⟨h1,e1⟩:=runI_cons h
   have he':eventM rows m j.toNat::evsM rows (goM rows m j).1 (ka++k::kb)=x::(a++e::b):=he
   injection he' with hx hr
   rw [e1] at h
   have hs1:=goM_shape hp hs h1
   obtain ⟨i1,i2,i3⟩:=to_front hp ka _ _ a b e hs1 h hr (by simp at hl;exact hl) (fun z hz=>hd z (by simp [hz]))
   have i4:eventM rows (goM rows m j).1 k.toNat::evsM rows (goM rows (goM rows m j).1 k).1 (ka++kb)=e::(a++b):=i3
   injection i4 with i5 i6
   have i7:(runI rows m fs (j::k::(ka++kb))).2.2=0:=by rw [runI_yes h1];exact i2
   have hxe:depM (eventM rows m j.toNat) (eventM rows (goM rows m j).1 k.toNat)=false:=by rw [hx,i5];exact hd x (by simp)
   obtain ⟨s1,s2,s3⟩:=run_swap hp hs i7 hxe
   rw [List.cons_append,s3,s1,runI_yes h1,e1,i1,hx,i5,i6]
   exact ⟨rfl,s2,rfl⟩
theorem nrm_run {rows:List (List I3)} (hp:progOk rows=true) {es:List I4} {ts:List Int} (h:Nrm es ts):∀ (m:V4) (ks:List Int) (fs:List I3),shapeOk m=true→evsM rows m ks=es→(runI rows m fs ks).2.2=0→(runI rows m fs ts).1=(runI rows m fs ks).1∧(runI rows m fs ts).2.2=0∧Sw es (evsM rows m ts):=by
 induction h with
 | nil =>
  intro m ks fs hs he hr
  have:ks=[]:=by
   have h1:=evsM_len rows ks m
   rw [he] at h1
   cases ks with
   | nil=>rfl
   | cons _ _=>simp at h1
  subst this
  exact ⟨rfl,rfl,.refl _⟩
 | @cons es rest e ts p n ih =>
  intro m ks fs hs he hr
  obtain ⟨⟨a,b,h1,h2,h3⟩,_⟩:=p
  have hlen:=evsM_len rows ks m
  rw [he,h1] at hlen
  have hla:a.length<ks.length:=by rw [← hlen];simp
  obtain ⟨ka,k,kb,hk,hka⟩:∃ ka k kb,ks=ka++k::kb∧ka.length=a.length:=⟨ks.take a.length,ks[a.length],ks.drop (a.length+1),by rw [← List.drop_eq_getElem_cons hla,List.take_append_drop],by simp;omega⟩
  subst hk
  obtain ⟨f1,f2,f3⟩:=to_front hp ka m fs a b e hs hr (he.trans h1) hka.symm h3
  obtain ⟨g1,g2⟩:=runI_cons f2
  rw [g2] at f1 f2
  have f4:eventM rows m k.toNat::evsM rows (goM rows m k).1 (ka++kb)=e::(a++b):=f3
  injection f4 with f5 f6
  have hek:e.1=k:=by
   obtain ⟨q0,_,_,_⟩:=halt_can g1
   rw [← f5]
   show ((k.toNat:Nat):Int)=k
   omega
  obtain ⟨r1,r2,r3⟩:=ih _ (ka++kb) (fs++ownM rows m k) (goM_shape hp hs g1) (f6.trans h2.symm) f2
  rw [hek,runI_yes g1,r1,f1]
  refine ⟨rfl,r2,?_⟩
  have r4:evsM rows m (k::ts)=e::evsM rows (goM rows m k).1 ts:=by
   show eventM rows m k.toNat::_=_
   rw [f5]
  rw [r4,h1]
  refine (sw_front a h3).trans (Sw.cons e ?_)
  rw [← h2]
  exact r3
theorem nrm_self {rows:List (List I3)} (hp:progOk rows=true) {ks:List Int} {ts:List Int} (h:Nrm (evsM rows zeroV ks) ts) (hr:(runI rows zeroV [] ks).2.2=0):(runI rows zeroV [] ts).1=(runI rows zeroV [] ks).1∧(runI rows zeroV [] ts).2.2=0∧Nrm (evsM rows zeroV ts) ts:=by
 obtain ⟨a,b,c⟩:=nrm_run hp h zeroV ks [] zero_shape rfl hr
 exact ⟨a,b,nrm_sw h c⟩


theorem sameInts_same (a a':Option Addr) (len cap cap':Nat) (zs:List Int) (w:World) (h:Ints .i64 w a len cap zs) (h':Ints .i64 w a' len cap' zs) :
  Calls Tryz.prog 21 #[.slice a len cap,.slice a' len cap'] w fun e w'=>e=.returned (.bool true)∧∃ d,w'=w.drewN d:=by
 obtain ⟨hl,hlc,hcm,hcase⟩:=h
 obtain ⟨_,hlc',hcm',hcase'⟩:=h'
 unfold maxLen at hcm hcm'
 have hne:((len:Int) != (len:Int))=false:=by simp
 by_cases h0:len=0
 ·subst h0
  go_enter Tryz.func21,Tryz.ntmps21
  go_wp2
  refine wp_loop_rounds 1 ?_
  rw [rounds_succ]
  go_wp2
  go_ret
  exact ⟨rfl,0,rfl⟩
 ·rcases hcase with h0' | ⟨b,off,rfl,hblt,hcell⟩
  ·exact absurd h0' h0
  rcases hcase' with h0' | ⟨b',off',rfl,hblt',hcell'⟩
  ·exact absurd h0' h0
  go_enter Tryz.func21,Tryz.ntmps21
  go_wp2
  go_loopw [5] (fun si wr=>∃ k d:Nat,k≤len∧si=.int .i64 k∧wr=w.drewN d) (fun si _=>len - (intOf si).toNat)
  case atStart=>exact ⟨0,0,by omega,rfl,rfl⟩
  case round =>
   obtain ⟨k,d,hk,rfl,rfl⟩:=hrel
   by_cases hlt:k<len
   ·have hc:=hcell k hlt
    have hc':=hcell' k hlt
    have hlt':(k:Int)<(len:Int):=by omega
    generalize zs.getD k 0=x at hc hc'
    clear hcell hcell'
    go_wp2
    go_quiet (fail)
    go_wp2
    go_roundw
    case rel=>exact ⟨k+1,_,by omega,by go_num,rfl⟩
    case measure=>simp [intOf];omega
   ·go_wp2
    go_ret
    exact ⟨rfl,d,rfl⟩
end Go.Proofs.YtifoggpohlegmaaGreatDoor
