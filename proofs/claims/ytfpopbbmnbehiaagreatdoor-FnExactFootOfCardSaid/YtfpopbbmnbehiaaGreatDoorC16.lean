/-
  Joined: MgiI, DfsP.
-/
import Derived.Test.YtfpopbbmnbehiaaGreatDoorC12
import Derived.Test.YtfpopbbmnbehiaaGreatDoorC15

namespace Go.Proofs.YtfpopbbmnbehiaaGreatDoor
set_option maxRecDepth 100000
set_option maxHeartbeats 16000000
open Go.RowKit
set_option linter.unusedVariables false
set_option linter.unusedSimpArgs false

theorem itOk_wf {x:Int} (h:itOk x=true):(Lit.int .i64 x).wf=true:=by
 simp only [itOk,decide_eq_true_eq] at h
 exact fits8 (by omega) (by omega)
theorem fold_take {xs acc:List Int} {k:Nat} (h:k<xs.length):(xs.take (k+1)).foldl putI acc=putI ((xs.take k).foldl putI acc) (xs.getD k 0):=by
 rw [take_snoc8 h,List.foldl_append]
 rfl
theorem l08Merge_is (a:Option Addr) (n cap:Nat) (xs:List Int) (a':Option Addr) (n' cap':Nat) (ys:List Int) (w:World) (h:Ints .i64 w a n cap xs) (h':Ints .i64 w a' n' cap' ys) (hn:n≤100000) (hn':n'≤100000) :
  Calls Tryz.prog 127 #[.slice a n cap,.slice a' n' cap'] w fun e w'=>RowGot e w' w.heap.size (mrgI (xs++ys))∧Below w.heap.size w w':=by
 have hl:=h.1
 have hl':=h'.1
 have q0:=empty8 w 3 1 w.heap.size (Nat.le_refl _)
 have b0:Below w.heap.size w (w.alloc (.cells #[] 3)):=by go_grown
 obtain ⟨R,hR⟩:∃ R:World→Value→List Int→Prop,∀ W v zs,R W v zs↔(∃ g c,v=.slice (some ⟨g,0,none⟩) zs.length c∧W.ownsRow w.heap.size 3 1 v zs.length (zs.map (Value.int .i64)))∧Below w.heap.size w W:=⟨fun W v zs=>(∃ g c,v=.slice (some ⟨g,0,none⟩) zs.length c∧W.ownsRow w.heap.size 3 1 v zs.length (zs.map (Value.int .i64)))∧Below w.heap.size w W,fun _ _ _=>Iff.rfl⟩
 have hR0:R (w.alloc (.cells #[] 3)) (.slice (some ⟨w.heap.size,0,none⟩) 0 0) []:=(hR _ _ _).2 ⟨⟨_,_,rfl,q0⟩,b0⟩
 have hlx:∀ k,((xs.take k).foldl putI []).length≤100000:=fun k=>by
  have:=foldl_putI_len (xs.take k) []
  simp at this
  omega
 have hly:∀ k,((ys.take k).foldl putI (mrgI xs)).length≤200000:=fun k=>by
  have h1:=foldl_putI_len (ys.take k) (mrgI xs)
  have h2:=mrgI_len xs
  simp at h1
  omega
 clear q0 b0
 go_enter Tryz.func127,Tryz.ntmps127
 go_wp2_with fail
 go_loopw [5,6] (fun so si wr=>∃ k:Nat,k≤n∧si=.int .i64 k∧R wr so ((xs.take k).foldl putI [])) (fun _ si _=>n - (Go.RowKit.intOf si).toNat)
 case atStart=>exact ⟨0,by omega,rfl,hR0⟩
 case round =>
  obtain ⟨k,hk,rfl,hr⟩:=hrel
  obtain ⟨⟨g,c,hv,q⟩,hb⟩:=(hR _ _ _).1 hr
  subst hv
  by_cases hlt:k<n
  ·have hfo:=fold_take (xs:=xs) (acc:=[]) (k:=k) (by omega)
   obtain ⟨_,_,_,hcase⟩:=h.below hb
   rcases hcase with e0 | ⟨b,off,rfl,hb9,hc⟩
   ·omega
   have d0:=hc k hlt
   have hlz:=hlx k
   generalize xs.getD k 0=x at d0 hfo
   generalize hzs:(xs.take k).foldl putI []=zs at *
   have kP:=l08Put_is g 0 zs.length c zs x wr (ints8 q) (by omega)
   have HFo:Hid ((xs.take (k+1)).foldl putI []=putI zs x):=hfo
   clear hfo hc hb9 hzs
   have hlt':(k:Int)<(n:Int):=by omega
   have hk0:(0:Int)≤(k:Int):=by omega
   have hs9:=hb.size
   go_wp2_with fail
   refine kP.mono ?_
   rintro e w1 ⟨⟨v1,rfl,q1⟩,hb1⟩
   obtain ⟨g1,c1,rfl⟩:=some8 q1 (by
    have hm:=(putI_mem zs x x).2 (.inl rfl)
    exact List.length_pos_of_mem hm)
   have hr1:R w1 (.slice (some ⟨g1,0,none⟩) (putI zs x).length c1) ((xs.take (k+1)).foldl putI []):=by
    rw [HFo.out]
    exact (hR _ _ _).2 ⟨⟨_,_,rfl,lower8 q1 hs9⟩,bel8 hb hb1⟩
   clear q1 hb1 kP
   go_wp2
   go_roundw
   case rel=>exact ⟨k+1,by omega,by go_num,hr1⟩
   case measure=>simp [Go.RowKit.intOf];omega
  ·obtain rfl:k=n:=by omega
   have e9:(xs.take k).foldl putI []=mrgI xs:=by rw [List.take_of_length_le (by omega)];rfl
   rw [e9] at hr q
   clear e9 hlt hR0
   rw [show ((xs.take k).foldl putI []).length=(mrgI xs).length by rw [List.take_of_length_le (by omega)];rfl] at *
   go_wp2_with fail
   go_loopw [5,7] (fun so si wr=>∃ k:Nat,k≤n'∧si=.int .i64 k∧R wr so ((ys.take k).foldl putI (mrgI xs))) (fun _ si _=>n' - (Go.RowKit.intOf si).toNat)
   case atStart=>exact ⟨0,by omega,rfl,hr⟩
   case round =>
    clear hr q hb
    obtain ⟨j,hj,rfl,hr⟩:=hrel
    obtain ⟨⟨g2,c2,hv,q⟩,hb⟩:=(hR _ _ _).1 hr
    subst hv
    by_cases hlt:j<n'
    ·have hfo:=fold_take (xs:=ys) (acc:=mrgI xs) (k:=j) (by omega)
     obtain ⟨_,_,_,hcase⟩:=h'.below hb
     rcases hcase with e0 | ⟨b,off,rfl,hb9,hc⟩
     ·omega
     have d0:=hc j hlt
     have hlz:=hly j
     generalize ys.getD j 0=x at d0 hfo
     generalize hzs:(ys.take j).foldl putI (mrgI xs)=zs at *
     have kP:=l08Put_is g2 0 zs.length c2 zs x wr (ints8 q) (by omega)
     have HFo:Hid ((ys.take (j+1)).foldl putI (mrgI xs)=putI zs x):=hfo
     clear hfo hc hb9 hzs
     have hlt':(j:Int)<(n':Int):=by omega
     have hk0:(0:Int)≤(j:Int):=by omega
     have hs9:=hb.size
     go_wp2_with fail
     refine kP.mono ?_
     rintro e w1 ⟨⟨v1,rfl,q1⟩,hb1⟩
     obtain ⟨g1,c1,rfl⟩:=some8 q1 (by
      have hm:=(putI_mem zs x x).2 (.inl rfl)
      exact List.length_pos_of_mem hm)
     have hr1:R w1 (.slice (some ⟨g1,0,none⟩) (putI zs x).length c1) ((ys.take (j+1)).foldl putI (mrgI xs)):=by
      rw [HFo.out]
      exact (hR _ _ _).2 ⟨⟨_,_,rfl,lower8 q1 hs9⟩,bel8 hb hb1⟩
     clear q1 hb1 kP
     go_wp2
     go_roundw
     case rel=>exact ⟨j+1,by omega,by go_num,hr1⟩
     case measure=>simp [Go.RowKit.intOf];omega
    ·obtain rfl:j=n':=by omega
     have HE:Hid ((ys.take j).foldl putI (mrgI xs)=mrgI (xs++ys)):=by
      rw [Hid,List.take_of_length_le (by omega)]
      unfold mrgI
      rw [List.foldl_append]
     clear hr
     generalize (ys.take j).foldl putI (mrgI xs)=zs at *
     go_wp2
     go_ret
     exact ⟨⟨_,rfl,by rw [← HE.out];exact q⟩,hb⟩


section
variable {σ : Type} [DecidableEq σ] (nx : σ → List σ) (lk : σ → List Int)
abbrev St8 (σ:Type):=List σ × List Int
def dfsF:Nat→σ→St8 σ→St8 σ
 | 0,_,st=>st
 | f+1,m,st=>if m ∈ st.1 then st else (nx m).foldl (fun st x=>if st.1.length<2000 then dfsF f x st else st) (st.1++[m],mrgI (st.2++lk m))
def dfsL (f:Nat) (xs:List σ) (st:St8 σ):St8 σ:=xs.foldl (fun st x=>if st.1.length<2000 then dfsF nx lk f x st else st) st
theorem dfsL_cons (f:Nat) (x:σ) (xs:List σ) (st:St8 σ):dfsL nx lk f (x::xs) st=dfsL nx lk f xs (if st.1.length<2000 then dfsF nx lk f x st else st):=rfl
theorem dfsF_old (f:Nat) {m:σ} {st:St8 σ} (h:m ∈ st.1):dfsF nx lk (f+1) m st=st:=if_pos h
theorem dfsF_new (f:Nat) {m:σ} {st:St8 σ} (h:m ∉ st.1):dfsF nx lk (f+1) m st=dfsL nx lk f (nx m) (st.1++[m],mrgI (st.2++lk m)):=if_neg h
theorem dfsL_full (f:Nat) (xs:List σ) {st:St8 σ} (h:¬ st.1.length<2000):dfsL nx lk f xs st=st:=by
 induction xs with
 | nil=>rfl
 | cons x xs ih=>rw [dfsL_cons,if_neg h,ih]
theorem dfs_inv (I:St8 σ→Prop) (R:σ→Prop) (hR:∀ x,R x→∀ y ∈ nx x,R y) (hS:∀ m st,R m→I st→m ∉ st.1→st.1.length<2000→I (st.1++[m],mrgI (st.2++lk m))) :
  ∀ (f:Nat),(∀ (m:σ) (st:St8 σ),R m→I st→st.1.length<2000→I (dfsF nx lk f m st))∧∀ (xs:List σ) (st:St8 σ),(∀ x ∈ xs,R x)→I st→I (dfsL nx lk f xs st):=by
 have fold:∀ f,(∀ (m:σ) (st:St8 σ),R m→I st→st.1.length<2000→I (dfsF nx lk f m st))→∀ (xs:List σ) (st:St8 σ),(∀ x ∈ xs,R x)→I st→I (dfsL nx lk f xs st):=by
  intro f hf xs
  induction xs with
  | nil=>exact fun st _ h=>h
  | cons x xs ih =>
   intro st hx h
   rw [dfsL_cons]
   refine ih _ (fun y hy=>hx y (List.mem_cons_of_mem _ hy)) ?_
   split
   ·rename_i h9
    exact hf x st (hx x List.mem_cons_self) h h9
   ·exact h
 intro f
 induction f with
 | zero=>exact ⟨fun m st _ h _=>h,fold 0 (fun m st _ h _=>h)⟩
 | succ f ih =>
  have hF:∀ (m:σ) (st:St8 σ),R m→I st→st.1.length<2000→I (dfsF nx lk (f+1) m st):=by
   intro m st hm h hl
   by_cases h9:m ∈ st.1
   ·rw [dfsF_old nx lk f h9];exact h
   ·rw [dfsF_new nx lk f h9]
    exact ih.2 _ _ (hR m hm) (hS m st hm h h9 hl)
  exact ⟨hF,fold (f+1) hF⟩
theorem dfs_pre:∀ (f:Nat),(∀ (m:σ) (st:St8 σ),st.1 <+: (dfsF nx lk f m st).1)∧∀ (xs:List σ) (st:St8 σ),st.1 <+: (dfsL nx lk f xs st).1:=by
 have fold:∀ f,(∀ (m:σ) (st:St8 σ),st.1 <+: (dfsF nx lk f m st).1)→∀ (xs:List σ) (st:St8 σ),st.1 <+: (dfsL nx lk f xs st).1:=by
  intro f hf xs
  induction xs with
  | nil=>exact fun st=>List.prefix_refl _
  | cons x xs ih =>
   intro st
   rw [dfsL_cons]
   refine List.IsPrefix.trans ?_ (ih _)
   split
   ·exact hf x st
   ·exact List.prefix_refl _
 intro f
 induction f with
 | zero=>exact ⟨fun m st=>List.prefix_refl _,fold 0 (fun m st=>List.prefix_refl _)⟩
 | succ f ih =>
  have hF:∀ (m:σ) (st:St8 σ),st.1 <+: (dfsF nx lk (f+1) m st).1:=by
   intro m st
   by_cases h9:m ∈ st.1
   ·rw [dfsF_old nx lk f h9];exact List.prefix_refl _
   ·rw [dfsF_new nx lk f h9]
    exact List.IsPrefix.trans (List.prefix_append st.1 [m]) (ih.2 (nx m) (st.1++[m],mrgI (st.2++lk m)))
  exact ⟨hF,fold (f+1) hF⟩
theorem dfs_closed (rk:σ→Nat) (R:σ→Prop) (hR:∀ x,R x→∀ y ∈ nx x,R y∧rk y<rk x) :
  ∀ (f:Nat),(∀ (m:σ) (st:St8 σ),R m→rk m<f→(dfsF nx lk f m st).1.length<2000→m ∈ (dfsF nx lk f m st).1∧∀ x ∈ (dfsF nx lk f m st).1,x ∉ st.1→∀ y ∈ nx x,y ∈ (dfsF nx lk f m st).1) ∧
   ∀ (xs:List σ) (st:St8 σ),(∀ x ∈ xs,R x∧rk x<f)→(dfsL nx lk f xs st).1.length<2000→(∀ x ∈ xs,x ∈ (dfsL nx lk f xs st).1)∧∀ x ∈ (dfsL nx lk f xs st).1,x ∉ st.1→∀ y ∈ nx x,y ∈ (dfsL nx lk f xs st).1:=by
 have fold:∀ f,(∀ (m:σ) (st:St8 σ),R m→rk m<f→(dfsF nx lk f m st).1.length<2000→m ∈ (dfsF nx lk f m st).1∧∀ x ∈ (dfsF nx lk f m st).1,x ∉ st.1→∀ y ∈ nx x,y ∈ (dfsF nx lk f m st).1) →
   ∀ (xs:List σ) (st:St8 σ),(∀ x ∈ xs,R x∧rk x<f)→(dfsL nx lk f xs st).1.length<2000→(∀ x ∈ xs,x ∈ (dfsL nx lk f xs st).1)∧∀ x ∈ (dfsL nx lk f xs st).1,x ∉ st.1→∀ y ∈ nx x,y ∈ (dfsL nx lk f xs st).1:=by
  intro f hf xs
  induction xs with
  | nil=>exact fun st _ _=>⟨fun x hx=>by simp at hx,fun x hx hn=>absurd hx hn⟩
  | cons x xs ih =>
   intro st hx hl
   have hp:=((dfs_pre nx lk f).2 (x::xs) st).length_le
   have h9:st.1.length<2000:=by omega
   rw [dfsL_cons,if_pos h9] at hl ⊢
   have hp1:=(dfs_pre nx lk f).2 xs (dfsF nx lk f x st)
   have hl1:(dfsF nx lk f x st).1.length<2000:=by have:=hp1.length_le;omega
   obtain ⟨c1,c2⟩:=hf x st (hx x List.mem_cons_self).1 (hx x List.mem_cons_self).2 hl1
   obtain ⟨c3,c4⟩:=ih (dfsF nx lk f x st) (fun y hy=>hx y (List.mem_cons_of_mem _ hy)) hl
   refine ⟨fun y hy=>?_,fun z hz hn y hy=>?_⟩
   ·rcases List.mem_cons.1 hy with rfl | hy
    ·exact hp1.subset c1
    ·exact c3 y hy
   ·by_cases hz1:z ∈ (dfsF nx lk f x st).1
    ·exact hp1.subset (c2 z hz1 hn y hy)
    ·exact c4 z hz hz1 y hy
 intro f
 induction f with
 | zero=>exact ⟨fun m st _ h=>by omega,fold 0 (fun m st _ h=>by omega)⟩
 | succ f ih =>
  have hF:∀ (m:σ) (st:St8 σ),R m→rk m<f+1→(dfsF nx lk (f+1) m st).1.length<2000→m ∈ (dfsF nx lk (f+1) m st).1∧∀ x ∈ (dfsF nx lk (f+1) m st).1,x ∉ st.1→∀ y ∈ nx x,y ∈ (dfsF nx lk (f+1) m st).1:=by
   intro m st hm hr hl
   by_cases h9:m ∈ st.1
   ·rw [dfsF_old nx lk f h9] at hl ⊢
    exact ⟨h9,fun x hx hn=>absurd hx hn⟩
   ·rw [dfsF_new nx lk f h9] at hl ⊢
    obtain ⟨c1,c2⟩:=ih.2 (nx m) (st.1++[m],mrgI (st.2++lk m)) (fun y hy=>⟨(hR m hm y hy).1,by have:=(hR m hm y hy).2;omega⟩) hl
    have hp:=(dfs_pre nx lk f).2 (nx m) (st.1++[m],mrgI (st.2++lk m))
    refine ⟨hp.subset (by simp),fun x hx hn y hy=>?_⟩
    by_cases e:x=m
    ·subst e
     exact c1 y hy
    ·exact c2 x hx (by simp [hn,e]) y hy
  exact ⟨hF,fold (f+1) hF⟩
theorem mrgI_more (xs ys:List Int):mrgI (mrgI xs++ys)=mrgI (xs++ys):=mrgI_eq (fun y=>by simp [mrgI_mem])
theorem dfs_foot (f:Nat) (m:σ):(dfsF nx lk f m ([],[])).2=mrgI ((dfsF nx lk f m ([],[])).1.flatMap lk):=
 (dfs_inv nx lk (fun st=>st.2=mrgI (st.1.flatMap lk)) (fun _=>True) (fun _ _ _ _=>trivial) (fun m st _ h _ _=>by
  show mrgI (st.2++lk m)=mrgI ((st.1++[m]).flatMap lk)
  rw [h,mrgI_more]
  simp) f).1 m ([],[]) trivial rfl (by simp)
theorem dfs_nodup (f:Nat) (m:σ):(dfsF nx lk f m ([],[])).1.Nodup:=
 (dfs_inv nx lk (fun st=>st.1.Nodup) (fun _=>True) (fun _ _ _ _=>trivial) (fun m st _ h hn _=>by
  show (st.1++[m]).Nodup
  exact List.nodup_append.2 ⟨h,by simp,fun a ha b hb=>by simp at hb;subst hb;exact fun e=>hn (e▸ha)⟩) f).1 m ([],[]) trivial (by simp) (by simp)
theorem dfs_in (f:Nat) (m:σ) (R:σ→Prop) (hm:R m) (hR:∀ x,R x→∀ y ∈ nx x,R y):∀ x ∈ (dfsF nx lk f m ([],[])).1,R x:=
 (dfs_inv nx lk (fun st=>∀ x ∈ st.1,R x) R hR (fun m st hm h hn _=>by
  intro x hx
  rcases List.mem_append.1 hx with hx | hx
  ·exact h x hx
  ·simp at hx;subst hx;exact hm) f).1 m ([],[]) hm (by simp) (by simp)
theorem dfs_all (f:Nat) (z:σ) (F:List σ) (rk:σ→Nat) (R:σ→Prop) (hz:R z) (hR:∀ x,R x→∀ y ∈ nx x,R y∧rk y<rk x) (hf:rk z<f)
  (hF0:z ∈ F) (hFn:F.Nodup) (hFc:F.length<2000→∀ x ∈ F,∀ y ∈ nx x,y ∈ F) (hFr:∀ C:σ→Prop,C z→(∀ x,C x→∀ y ∈ nx x,C y)→∀ x ∈ F,C x) :
  (F.length<2000→(dfsF nx lk f z ([],[])).1.length<2000∧(dfsF nx lk f z ([],[])).2=mrgI (F.flatMap lk))∧(¬ F.length<2000→¬ (dfsF nx lk f z ([],[])).1.length<2000):=by
 have hcl:(dfsF nx lk f z ([],[])).1.length<2000→∀ x ∈ F,x ∈ (dfsF nx lk f z ([],[])).1:=fun hl=>by
  obtain ⟨c1,c2⟩:=(dfs_closed nx lk rk R hR f).1 z ([],[]) hz hf hl
  exact hFr _ c1 (fun x hx y hy=>c2 x hx (by simp) y hy)
 constructor
 ·intro hl
  have hsub:∀ x ∈ (dfsF nx lk f z ([],[])).1,x ∈ F:=dfs_in nx lk f z (fun x=>x ∈ F) hF0 (hFc hl)
  have hlen:(dfsF nx lk f z ([],[])).1.length≤F.length:=List.Nodup.length_le_of_subset (dfs_nodup nx lk f z) hsub
  refine ⟨by omega,?_⟩
  rw [dfs_foot]
  refine mrgI_eq (fun y=>?_)
  simp only [List.mem_flatMap]
  constructor
  ·rintro ⟨x,hx,hy⟩
   exact ⟨x,hsub x hx,hy⟩
  ·rintro ⟨x,hx,hy⟩
   exact ⟨x,hcl (by omega) x hx,hy⟩
 ·intro hl hd
  have:=List.Nodup.length_le_of_subset hFn (hcl hd)
  omega
end
end Go.Proofs.YtfpopbbmnbehiaaGreatDoor
