/-
  Joined: MgiI, DfsP, FulP.
-/
import Derived.Shelf.Abstract
import Derived.Laws.BytesArg
import Derived.Deep.RegionLaw
import Derived.Laws.OwnMore
import Derived.Test.YtojcgajjnmjjpaaGreatDoorF04
import Derived.Test.YtojcgajjnmjjpaaGreatDoorF23

namespace Go.Proofs.YtojcgajjnmjjpaaGreatDoor
set_option maxRecDepth 100000
open Go.RowKit
set_option linter.unusedVariables false
set_option linter.unusedSimpArgs false

theorem itOk_wf {x:Int} (h:itOk x=true):(Lit.int .i64 x).wf=true:=by
 simp only [itOk,decide_eq_true_eq] at h
 exact fits8 (by omega) (by omega)
theorem fold_take {xs acc:List Int} {k:Nat} (h:k<xs.length):(xs.take (k+1)).foldl putI acc=putI ((xs.take k).foldl putI acc) (xs.getD k 0):=by
 rw [take_snoc8 h,List.foldl_append]
 rfl
set_option maxHeartbeats 2000000 in
theorem l08Merge_is (a:Option Addr) (n cap:Nat) (xs:List Int) (a':Option Addr) (n' cap':Nat) (ys:List Int) (w:World) (h:Ints .i64 w a n cap xs) (h':Ints .i64 w a' n' cap' ys) (hn:n≤100000) (hn':n'≤100000) :
  Calls Tryz.prog 99 #[.slice a n cap,.slice a' n' cap'] w fun e w'=>RowGot e w' w.heap.size (mrgI (xs++ys))∧Below w.heap.size w w':=by
 have hl:=h.1
 have hl':=h'.1
 have q0:=empty8 w 3 1 w.heap.size (Nat.le_refl _)
 have b0:Below w.heap.size w (w.alloc (.cells #[] 3)):=by go_grown
 obtain ⟨R,hR⟩:∃ R:World→Value→List Int→Prop,∀ W v zs,R W v zs↔(∃ g c,v=.slice (some ⟨g,0,none⟩) zs.length c∧W.ownsRow w.heap.size 3 1 v zs.length (zs.map (Value.int .i64)))∧Below w.heap.size w W:=⟨fun W v zs=>(∃ g c,v=.slice (some ⟨g,0,none⟩) zs.length c∧W.ownsRow w.heap.size 3 1 v zs.length (zs.map (Value.int .i64)))∧Below w.heap.size w W,fun _ _ _=>Iff.rfl⟩
 have hR0:R (w.alloc (.cells #[] 3)) (.slice (some ⟨w.heap.size,0,none⟩) 0 0) []:=(hR _ _ _).2 ⟨⟨_,_,rfl,q0⟩,b0⟩
 have hlx:∀ k,((xs.take k).foldl putI []).length≤100000:=fun k=>by
  have:=foldl_putI_len (xs.take k) []
  simp at this
  omega
 have hly:∀ k,((ys.take k).foldl putI (mrgI xs)).length≤200000:=fun k=>by
  have h1:=foldl_putI_len (ys.take k) (mrgI xs)
  have h2:=mrgI_len xs
  simp at h1
  omega
 clear q0 b0
 go_enter Tryz.func99,Tryz.ntmps99
 go_wp2_with fail
 go_loopw [5,6] (fun so si wr=>∃ k:Nat,k≤n∧si=.int .i64 k∧R wr so ((xs.take k).foldl putI [])) (fun _ si _=>n - (Go.RowKit.intOf si).toNat)
 case atStart=>exact ⟨0,by omega,rfl,hR0⟩
 case round =>
  obtain ⟨k,hk,rfl,hr⟩:=hrel
  obtain ⟨⟨g,c,hv,q⟩,hb⟩:=(hR _ _ _).1 hr
  subst hv
  by_cases hlt:k<n
  ·have hfo:=fold_take (xs:=xs) (acc:=[]) (k:=k) (by omega)
   obtain ⟨_,_,_,hcase⟩:=h.below hb
   rcases hcase with e0 | ⟨b,off,rfl,hb9,hc⟩
   ·omega
   have d0:=hc k hlt
   have hlz:=hlx k
   generalize xs.getD k 0=x at d0 hfo
   generalize hzs:(xs.take k).foldl putI []=zs at *
   have kP:=l08Put_is g 0 zs.length c zs x wr (ints8 q) (by omega)
   have HFo:Hid ((xs.take (k+1)).foldl putI []=putI zs x):=hfo
   clear hfo hc hb9 hzs
   have hlt':(k:Int)<(n:Int):=by omega
   have hk0:(0:Int)≤(k:Int):=by omega
   have hs9:=hb.size
   go_wp2_with fail
   refine kP.mono ?_
   rintro e w1 ⟨⟨v1,rfl,q1⟩,hb1⟩
   obtain ⟨g1,c1,rfl⟩:=some8 q1 (by
    have hm:=(putI_mem zs x x).2 (.inl rfl)
    exact List.length_pos_of_mem hm)
   have hr1:R w1 (.slice (some ⟨g1,0,none⟩) (putI zs x).length c1) ((xs.take (k+1)).foldl putI []):=by
    rw [HFo.out]
    exact (hR _ _ _).2 ⟨⟨_,_,rfl,lower8 q1 hs9⟩,bel8 hb hb1⟩
   clear q1 hb1 kP
   go_wp2
   go_roundw
   case rel=>exact ⟨k+1,by omega,by go_num,hr1⟩
   case measure=>simp [Go.RowKit.intOf];omega
  ·obtain rfl:k=n:=by omega
   have e9:(xs.take k).foldl putI []=mrgI xs:=by rw [List.take_of_length_le (by omega)];rfl
   rw [e9] at hr q
   clear e9 hlt hR0
   rw [show ((xs.take k).foldl putI []).length=(mrgI xs).length by rw [List.take_of_length_le (by omega)];rfl] at *
   go_wp2_with fail
   go_loopw [5,7] (fun so si wr=>∃ k:Nat,k≤n'∧si=.int .i64 k∧R wr so ((ys.take k).foldl putI (mrgI xs))) (fun _ si _=>n' - (Go.RowKit.intOf si).toNat)
   case atStart=>exact ⟨0,by omega,rfl,hr⟩
   case round =>
    clear hr q hb
    obtain ⟨j,hj,rfl,hr⟩:=hrel
    obtain ⟨⟨g2,c2,hv,q⟩,hb⟩:=(hR _ _ _).1 hr
    subst hv
    by_cases hlt:j<n'
    ·have hfo:=fold_take (xs:=ys) (acc:=mrgI xs) (k:=j) (by omega)
     obtain ⟨_,_,_,hcase⟩:=h'.below hb
     rcases hcase with e0 | ⟨b,off,rfl,hb9,hc⟩
     ·omega
     have d0:=hc j hlt
     have hlz:=hly j
     generalize ys.getD j 0=x at d0 hfo
     generalize hzs:(ys.take j).foldl putI (mrgI xs)=zs at *
     have kP:=l08Put_is g2 0 zs.length c2 zs x wr (ints8 q) (by omega)
     have HFo:Hid ((ys.take (j+1)).foldl putI (mrgI xs)=putI zs x):=hfo
     clear hfo hc hb9 hzs
     have hlt':(j:Int)<(n':Int):=by omega
     have hk0:(0:Int)≤(j:Int):=by omega
     have hs9:=hb.size
     go_wp2_with fail
     refine kP.mono ?_
     rintro e w1 ⟨⟨v1,rfl,q1⟩,hb1⟩
     obtain ⟨g1,c1,rfl⟩:=some8 q1 (by
      have hm:=(putI_mem zs x x).2 (.inl rfl)
      exact List.length_pos_of_mem hm)
     have hr1:R w1 (.slice (some ⟨g1,0,none⟩) (putI zs x).length c1) ((ys.take (j+1)).foldl putI (mrgI xs)):=by
      rw [HFo.out]
      exact (hR _ _ _).2 ⟨⟨_,_,rfl,lower8 q1 hs9⟩,bel8 hb hb1⟩
     clear q1 hb1 kP
     go_wp2
     go_roundw
     case rel=>exact ⟨j+1,by omega,by go_num,hr1⟩
     case measure=>simp [Go.RowKit.intOf];omega
    ·obtain rfl:j=n':=by omega
     have HE:Hid ((ys.take j).foldl putI (mrgI xs)=mrgI (xs++ys)):=by
      rw [Hid,List.take_of_length_le (by omega)]
      unfold mrgI
      rw [List.foldl_append]
     clear hr
     generalize (ys.take j).foldl putI (mrgI xs)=zs at *
     go_wp2
     go_ret
     exact ⟨⟨_,rfl,by rw [← HE.out];exact q⟩,hb⟩


section
variable {σ : Type} [DecidableEq σ] (nx : σ → List σ) (lk : σ → List Int)
abbrev St8 (σ:Type):=List σ × List Int
def dfsF:Nat→σ→St8 σ→St8 σ
 | 0,_,st=>st
 | f+1,m,st=>if m ∈ st.1 then st else (nx m).foldl (fun st x=>if st.1.length<2000 then dfsF f x st else st) (st.1++[m],mrgI (st.2++lk m))
def dfsL (f:Nat) (xs:List σ) (st:St8 σ):St8 σ:=xs.foldl (fun st x=>if st.1.length<2000 then dfsF nx lk f x st else st) st
theorem dfsL_cons (f:Nat) (x:σ) (xs:List σ) (st:St8 σ):dfsL nx lk f (x::xs) st=dfsL nx lk f xs (if st.1.length<2000 then dfsF nx lk f x st else st):=rfl
theorem dfsF_old (f:Nat) {m:σ} {st:St8 σ} (h:m ∈ st.1):dfsF nx lk (f+1) m st=st:=if_pos h
theorem dfsF_new (f:Nat) {m:σ} {st:St8 σ} (h:m ∉ st.1):dfsF nx lk (f+1) m st=dfsL nx lk f (nx m) (st.1++[m],mrgI (st.2++lk m)):=if_neg h
theorem dfsL_full (f:Nat) (xs:List σ) {st:St8 σ} (h:¬ st.1.length<2000):dfsL nx lk f xs st=st:=by
 induction xs with
 | nil=>rfl
 | cons x xs ih=>rw [dfsL_cons,if_neg h,ih]
theorem dfs_inv (I:St8 σ→Prop) (R:σ→Prop) (hR:∀ x,R x→∀ y ∈ nx x,R y) (hS:∀ m st,R m→I st→m ∉ st.1→st.1.length<2000→I (st.1++[m],mrgI (st.2++lk m))) :
  ∀ (f:Nat),(∀ (m:σ) (st:St8 σ),R m→I st→st.1.length<2000→I (dfsF nx lk f m st))∧∀ (xs:List σ) (st:St8 σ),(∀ x ∈ xs,R x)→I st→I (dfsL nx lk f xs st):=by
 have fold:∀ f,(∀ (m:σ) (st:St8 σ),R m→I st→st.1.length<2000→I (dfsF nx lk f m st))→∀ (xs:List σ) (st:St8 σ),(∀ x ∈ xs,R x)→I st→I (dfsL nx lk f xs st):=by
  intro f hf xs
  induction xs with
  | nil=>exact fun st _ h=>h
  | cons x xs ih =>
   intro st hx h
   rw [dfsL_cons]
   refine ih _ (fun y hy=>hx y (List.mem_cons_of_mem _ hy)) ?_
   split
   ·rename_i h9
    exact hf x st (hx x List.mem_cons_self) h h9
   ·exact h
 intro f
 induction f with
 | zero=>exact ⟨fun m st _ h _=>h,fold 0 (fun m st _ h _=>h)⟩
 | succ f ih =>
  have hF:∀ (m:σ) (st:St8 σ),R m→I st→st.1.length<2000→I (dfsF nx lk (f+1) m st):=by
   intro m st hm h hl
   by_cases h9:m ∈ st.1
   ·rw [dfsF_old nx lk f h9];exact h
   ·rw [dfsF_new nx lk f h9]
    exact ih.2 _ _ (hR m hm) (hS m st hm h h9 hl)
  exact ⟨hF,fold (f+1) hF⟩
theorem dfs_pre:∀ (f:Nat),(∀ (m:σ) (st:St8 σ),st.1 <+: (dfsF nx lk f m st).1)∧∀ (xs:List σ) (st:St8 σ),st.1 <+: (dfsL nx lk f xs st).1:=by
 have fold:∀ f,(∀ (m:σ) (st:St8 σ),st.1 <+: (dfsF nx lk f m st).1)→∀ (xs:List σ) (st:St8 σ),st.1 <+: (dfsL nx lk f xs st).1:=by
  intro f hf xs
  induction xs with
  | nil=>exact fun st=>List.prefix_refl _
  | cons x xs ih =>
   intro st
   rw [dfsL_cons]
   refine List.IsPrefix.trans ?_ (ih _)
   split
   ·exact hf x st
   ·exact List.prefix_refl _
 intro f
 induction f with
 | zero=>exact ⟨fun m st=>List.prefix_refl _,fold 0 (fun m st=>List.prefix_refl _)⟩
 | succ f ih =>
  have hF:∀ (m:σ) (st:St8 σ),st.1 <+: (dfsF nx lk (f+1) m st).1:=by
   intro m st
   by_cases h9:m ∈ st.1
   ·rw [dfsF_old nx lk f h9];exact List.prefix_refl _
   ·rw [dfsF_new nx lk f h9]
    exact List.IsPrefix.trans (List.prefix_append st.1 [m]) (ih.2 (nx m) (st.1++[m],mrgI (st.2++lk m)))
  exact ⟨hF,fold (f+1) hF⟩
theorem dfs_closed (rk:σ→Nat) (R:σ→Prop) (hR:∀ x,R x→∀ y ∈ nx x,R y∧rk y<rk x) :
  ∀ (f:Nat),(∀ (m:σ) (st:St8 σ),R m→rk m<f→(dfsF nx lk f m st).1.length<2000→m ∈ (dfsF nx lk f m st).1∧∀ x ∈ (dfsF nx lk f m st).1,x ∉ st.1→∀ y ∈ nx x,y ∈ (dfsF nx lk f m st).1) ∧
   ∀ (xs:List σ) (st:St8 σ),(∀ x ∈ xs,R x∧rk x<f)→(dfsL nx lk f xs st).1.length<2000→(∀ x ∈ xs,x ∈ (dfsL nx lk f xs st).1)∧∀ x ∈ (dfsL nx lk f xs st).1,x ∉ st.1→∀ y ∈ nx x,y ∈ (dfsL nx lk f xs st).1:=by
 have fold:∀ f,(∀ (m:σ) (st:St8 σ),R m→rk m<f→(dfsF nx lk f m st).1.length<2000→m ∈ (dfsF nx lk f m st).1∧∀ x ∈ (dfsF nx lk f m st).1,x ∉ st.1→∀ y ∈ nx x,y ∈ (dfsF nx lk f m st).1) →
   ∀ (xs:List σ) (st:St8 σ),(∀ x ∈ xs,R x∧rk x<f)→(dfsL nx lk f xs st).1.length<2000→(∀ x ∈ xs,x ∈ (dfsL nx lk f xs st).1)∧∀ x ∈ (dfsL nx lk f xs st).1,x ∉ st.1→∀ y ∈ nx x,y ∈ (dfsL nx lk f xs st).1:=by
  intro f hf xs
  induction xs with
  | nil=>exact fun st _ _=>⟨fun x hx=>by simp at hx,fun x hx hn=>absurd hx hn⟩
  | cons x xs ih =>
   intro st hx hl
   have hp:=((dfs_pre nx lk f).2 (x::xs) st).length_le
   have h9:st.1.length<2000:=by omega
   rw [dfsL_cons,if_pos h9] at hl ⊢
   have hp1:=(dfs_pre nx lk f).2 xs (dfsF nx lk f x st)
   have hl1:(dfsF nx lk f x st).1.length<2000:=by have:=hp1.length_le;omega
   obtain ⟨c1,c2⟩:=hf x st (hx x List.mem_cons_self).1 (hx x List.mem_cons_self).2 hl1
   obtain ⟨c3,c4⟩:=ih (dfsF nx lk f x st) (fun y hy=>hx y (List.mem_cons_of_mem _ hy)) hl
   refine ⟨fun y hy=>?_,fun z hz hn y hy=>?_⟩
   ·rcases List.mem_cons.1 hy with rfl | hy
    ·exact hp1.subset c1
    ·exact c3 y hy
   ·by_cases hz1:z ∈ (dfsF nx lk f x st).1
    ·exact hp1.subset (c2 z hz1 hn y hy)
    ·exact c4 z hz hz1 y hy
 intro f
 induction f with
 | zero=>exact ⟨fun m st _ h=>by omega,fold 0 (fun m st _ h=>by omega)⟩
 | succ f ih =>
  have hF:∀ (m:σ) (st:St8 σ),R m→rk m<f+1→(dfsF nx lk (f+1) m st).1.length<2000→m ∈ (dfsF nx lk (f+1) m st).1∧∀ x ∈ (dfsF nx lk (f+1) m st).1,x ∉ st.1→∀ y ∈ nx x,y ∈ (dfsF nx lk (f+1) m st).1:=by
   intro m st hm hr hl
   by_cases h9:m ∈ st.1
   ·rw [dfsF_old nx lk f h9] at hl ⊢
    exact ⟨h9,fun x hx hn=>absurd hx hn⟩
   ·rw [dfsF_new nx lk f h9] at hl ⊢
    obtain ⟨c1,c2⟩:=ih.2 (nx m) (st.1++[m],mrgI (st.2++lk m)) (fun y hy=>⟨(hR m hm y hy).1,by have:=(hR m hm y hy).2;omega⟩) hl
    have hp:=(dfs_pre nx lk f).2 (nx m) (st.1++[m],mrgI (st.2++lk m))
    refine ⟨hp.subset (by simp),fun x hx hn y hy=>?_⟩
    by_cases e:x=m
    ·subst e
     exact c1 y hy
    ·exact c2 x hx (by simp [hn,e]) y hy
  exact ⟨hF,fold (f+1) hF⟩
theorem mrgI_more (xs ys:List Int):mrgI (mrgI xs++ys)=mrgI (xs++ys):=mrgI_eq (fun y=>by simp [mrgI_mem])
theorem dfs_foot (f:Nat) (m:σ):(dfsF nx lk f m ([],[])).2=mrgI ((dfsF nx lk f m ([],[])).1.flatMap lk):=
 (dfs_inv nx lk (fun st=>st.2=mrgI (st.1.flatMap lk)) (fun _=>True) (fun _ _ _ _=>trivial) (fun m st _ h _ _=>by
  show mrgI (st.2++lk m)=mrgI ((st.1++[m]).flatMap lk)
  rw [h,mrgI_more]
  simp) f).1 m ([],[]) trivial rfl (by simp)
theorem dfs_nodup (f:Nat) (m:σ):(dfsF nx lk f m ([],[])).1.Nodup:=
 (dfs_inv nx lk (fun st=>st.1.Nodup) (fun _=>True) (fun _ _ _ _=>trivial) (fun m st _ h hn _=>by
  show (st.1++[m]).Nodup
  exact List.nodup_append.2 ⟨h,by simp,fun a ha b hb=>by simp at hb;subst hb;exact fun e=>hn (e▸ha)⟩) f).1 m ([],[]) trivial (by simp) (by simp)
theorem dfs_in (f:Nat) (m:σ) (R:σ→Prop) (hm:R m) (hR:∀ x,R x→∀ y ∈ nx x,R y):∀ x ∈ (dfsF nx lk f m ([],[])).1,R x:=
 (dfs_inv nx lk (fun st=>∀ x ∈ st.1,R x) R hR (fun m st hm h hn _=>by
  intro x hx
  rcases List.mem_append.1 hx with hx | hx
  ·exact h x hx
  ·simp at hx;subst hx;exact hm) f).1 m ([],[]) hm (by simp) (by simp)
theorem dfs_all (f:Nat) (z:σ) (F:List σ) (rk:σ→Nat) (R:σ→Prop) (hz:R z) (hR:∀ x,R x→∀ y ∈ nx x,R y∧rk y<rk x) (hf:rk z<f)
  (hF0:z ∈ F) (hFn:F.Nodup) (hFc:F.length<2000→∀ x ∈ F,∀ y ∈ nx x,y ∈ F) (hFr:∀ C:σ→Prop,C z→(∀ x,C x→∀ y ∈ nx x,C y)→∀ x ∈ F,C x) :
  (F.length<2000→(dfsF nx lk f z ([],[])).1.length<2000∧(dfsF nx lk f z ([],[])).2=mrgI (F.flatMap lk))∧(¬ F.length<2000→¬ (dfsF nx lk f z ([],[])).1.length<2000):=by
 have hcl:(dfsF nx lk f z ([],[])).1.length<2000→∀ x ∈ F,x ∈ (dfsF nx lk f z ([],[])).1:=fun hl=>by
  obtain ⟨c1,c2⟩:=(dfs_closed nx lk rk R hR f).1 z ([],[]) hz hf hl
  exact hFr _ c1 (fun x hx y hy=>c2 x hx (by simp) y hy)
 constructor
 ·intro hl
  have hsub:∀ x ∈ (dfsF nx lk f z ([],[])).1,x ∈ F:=dfs_in nx lk f z (fun x=>x ∈ F) hF0 (hFc hl)
  have hlen:(dfsF nx lk f z ([],[])).1.length≤F.length:=List.Nodup.length_le_of_subset (dfs_nodup nx lk f z) hsub
  refine ⟨by omega,?_⟩
  rw [dfs_foot]
  refine mrgI_eq (fun y=>?_)
  simp only [List.mem_flatMap]
  constructor
  ·rintro ⟨x,hx,hy⟩
   exact ⟨x,hsub x hx,hy⟩
  ·rintro ⟨x,hx,hy⟩
   exact ⟨x,hcl (by omega) x hx,hy⟩
 ·intro hl hd
  have:=List.Nodup.length_le_of_subset hFn (hcl hd)
  omega
end


section
variable {σ : Type} [DecidableEq σ]
abbrev Rec6 (σ:Type):=σ × Nat × Int
def hasS (S:List (Rec6 σ)) (x:σ):Bool:=S.any fun r=>decide (r.1=x)
theorem hasS_iff {S:List (Rec6 σ)} {x:σ}:hasS S x=true↔x ∈ S.map (·.1):=by
 unfold hasS
 simp
def putS (i:Nat) (S:List (Rec6 σ)) (kx:Int × σ):List (Rec6 σ):=if hasS S kx.2 then S else S++[(kx.2,i,kx.1)]
def onS (i:Nat) (S:List (Rec6 σ)) (ts:List (Int × σ)):List (Rec6 σ):=ts.foldl (putS i) S
def srch (nx:σ→List (Int × σ)):Nat→Nat→List (Rec6 σ)→List (Rec6 σ)
 | 0,_,S=>S
 | f+1,i,S=>match S[i]? with
  | none=>S
  | some r=>srch nx f (i+1) (onS i S (nx r.1))
theorem putS_pre (i:Nat) (S:List (Rec6 σ)) (kx:Int × σ):S <+: putS i S kx:=by
 unfold putS
 split
 ·exact List.prefix_refl _
 ·exact List.prefix_append _ _
theorem onS_pre (i:Nat):∀ (ts:List (Int × σ)) (S:List (Rec6 σ)),S <+: onS i S ts
 | [],S=>List.prefix_refl _
 | t::ts,S=>(putS_pre i S t).trans (onS_pre i ts (putS i S t))
theorem srch_pre (nx:σ→List (Int × σ)):∀ (f i:Nat) (S:List (Rec6 σ)),S <+: srch nx f i S
 | 0,_,S=>List.prefix_refl _
 | f+1,i,S=>by
  unfold srch
  split
  ·exact List.prefix_refl _
  ·exact (onS_pre i _ S).trans (srch_pre nx f (i+1) _)
theorem srch_end {nx:σ→List (Int × σ)} {f i:Nat} {S:List (Rec6 σ)} (h:S.length≤i):srch nx f i S=S:=by
 cases f with
 | zero=>rfl
 | succ f=>unfold srch;rw [List.getElem?_eq_none h]
theorem srch_go {nx:σ→List (Int × σ)} {f i:Nat} {S:List (Rec6 σ)} (h:i<S.length):srch nx (f+1) i S=srch nx f (i+1) (onS i S (nx (S[i]'h).1)):=by
 conv=>lhs;unfold srch
 rw [List.getElem?_eq_getElem h]
theorem onS_cons (i:Nat) (S:List (Rec6 σ)) (t:Int × σ) (ts:List (Int × σ)):onS i S (t::ts)=onS i (putS i S t) ts:=rfl
theorem putS_nodup {i:Nat} {S:List (Rec6 σ)} {kx:Int × σ} (h:(S.map (·.1)).Nodup):((putS i S kx).map (·.1)).Nodup:=by
 unfold putS
 split
 ·exact h
 ·rename_i hn
  rw [List.map_append,List.nodup_append]
  refine ⟨h,by simp,?_⟩
  intro a ha b hb
  simp at hb
  subst hb
  intro e
  subst e
  exact hn (hasS_iff.2 ha)
theorem onS_nodup {i:Nat}:∀ (ts:List (Int × σ)) (S:List (Rec6 σ)),(S.map (·.1)).Nodup→((onS i S ts).map (·.1)).Nodup
 | [],S,h=>h
 | t::ts,S,h=>onS_nodup ts _ (putS_nodup h)
theorem srch_nodup {nx:σ→List (Int × σ)}:∀ (f i:Nat) (S:List (Rec6 σ)),(S.map (·.1)).Nodup→((srch nx f i S).map (·.1)).Nodup
 | 0,_,S,h=>h
 | f+1,i,S,h=>by
  unfold srch
  split
  ·exact h
  ·exact srch_nodup f (i+1) _ (onS_nodup _ S h)
theorem putS_has (i:Nat) (S:List (Rec6 σ)) (kx:Int × σ):kx.2 ∈ (putS i S kx).map (·.1):=by
 unfold putS
 split
 ·rename_i h;exact hasS_iff.1 h
 ·simp
omit [DecidableEq σ] in
theorem pre_mem {S T:List (Rec6 σ)} {x:σ} (h:S <+: T) (hx:x ∈ S.map (·.1)):x ∈ T.map (·.1):=by
 obtain ⟨r,rfl⟩:=h
 rw [List.map_append]
 exact List.mem_append_left _ hx
theorem onS_has {i:Nat}:∀ (ts:List (Int × σ)) (S:List (Rec6 σ)) (t:Int × σ),t ∈ ts→t.2 ∈ (onS i S ts).map (·.1)
 | [],S,t,h=>by simp at h
 | u::ts,S,t,h=>by
  rw [onS_cons]
  rcases List.mem_cons.1 h with rfl | h
  ·exact pre_mem (onS_pre i ts _) (putS_has i S t)
  ·exact onS_has ts _ t h
theorem srch_closed {nx:σ→List (Int × σ)}:∀ (f i:Nat) (S:List (Rec6 σ)),(∀ j r,j<i→S[j]?=some r→∀ t ∈ nx r.1,t.2 ∈ S.map (·.1))→i≤S.length→(srch nx f i S).length≤i+f →
  ∀ r ∈ srch nx f i S,∀ t ∈ nx r.1,t.2 ∈ (srch nx f i S).map (·.1)
 | 0,i,S,h,hi,hl=>by
  intro r hr t ht
  obtain ⟨j,hj,rfl⟩:=List.getElem_of_mem hr
  have hl':S.length≤i:=hl
  exact h j _ (by have:j<S.length:=hj;omega) (List.getElem?_eq_getElem hj) t ht
 | f+1,i,S,h,hi,hl=>by
  by_cases he:i<S.length
  ·rw [srch_go he] at hl ⊢
   refine srch_closed f (i+1) _ ?_ ?_ (by omega)
   ·intro j r hj hr t ht
    obtain ⟨rest,hrest⟩:=onS_pre i (nx (S[i]'he).1) S
    have hjS:j<S.length:=by omega
    have hr':S[j]?=some r:=by
     rw [← hrest,List.getElem?_append_left hjS] at hr
     exact hr
    by_cases e:j=i
    ·subst e
     rw [List.getElem?_eq_getElem he] at hr'
     cases hr'
     exact onS_has _ S t ht
    ·exact pre_mem ⟨rest,hrest⟩ (h j r (by omega) hr' t ht)
   ·have:=(onS_pre i (nx (S[i]'he).1) S).length_le
    omega
  ·rw [srch_end (by omega)] at hl ⊢
   intro r hr t ht
   obtain ⟨j,hj,rfl⟩:=List.getElem_of_mem hr
   exact h j _ (by omega) (List.getElem?_eq_getElem hj) t ht
def Came (nx:σ→List (Int × σ)) (S:List (Rec6 σ)):Prop:=∀ j r,0<j→S[j]?=some r→r.2.1<j∧∃ q,S[r.2.1]?=some q∧(r.2.2,r.1) ∈ nx q.1
theorem putS_came {nx:σ→List (Int × σ)} {i:Nat} {S:List (Rec6 σ)} {kx:Int × σ} {q:Rec6 σ} (h:Came nx S) (hq:S[i]?=some q) (hm:kx ∈ nx q.1):Came nx (putS i S kx)∧(putS i S kx)[i]?=some q:=by
 have hi:i<S.length:=(List.getElem?_eq_some_iff.1 hq).1
 unfold putS
 split
 ·exact ⟨h,hq⟩
 ·refine ⟨fun j r hj hr=>?_,by rw [List.getElem?_append_left hi];exact hq⟩
  by_cases hjl:j<S.length
  ·rw [List.getElem?_append_left hjl] at hr
   obtain ⟨h1,q',h2,h3⟩:=h j r hj hr
   exact ⟨h1,q',by rw [List.getElem?_append_left (by omega)];exact h2,h3⟩
  ·have e:j=S.length:=by
    have:=(List.getElem?_eq_some_iff.1 hr).1
    simp at this
    omega
   subst e
   simp at hr
   subst hr
   exact ⟨hi,q,by rw [List.getElem?_append_left hi];exact hq,hm⟩
theorem onS_came {nx:σ→List (Int × σ)} {i:Nat} {q:Rec6 σ}:∀ (ts:List (Int × σ)) (S:List (Rec6 σ)),Came nx S→S[i]?=some q→(∀ t ∈ ts,t ∈ nx q.1)→Came nx (onS i S ts)
 | [],S,h,_,_=>h
 | t::ts,S,h,hq,hm=>by
  obtain ⟨h1,h2⟩:=putS_came h hq (hm t (by simp))
  exact onS_came ts _ h1 h2 (fun u hu=>hm u (by simp [hu]))
theorem srch_came {nx:σ→List (Int × σ)}:∀ (f i:Nat) (S:List (Rec6 σ)),Came nx S→Came nx (srch nx f i S)
 | 0,_,S,h=>h
 | f+1,i,S,h=>by
  unfold srch
  split
  ·exact h
  ·rename_i r hr
   exact srch_came f (i+1) _ (onS_came _ S h hr (fun t ht=>ht))
end
end Go.Proofs.YtojcgajjnmjjpaaGreatDoor
