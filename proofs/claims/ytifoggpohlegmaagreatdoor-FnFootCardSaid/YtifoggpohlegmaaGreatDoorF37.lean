/-
  Joined: SetP, DfsP.
-/
import Derived.Test.YtifoggpohlegmaaGreatDoorProg
import Derived.Deep.RegionHeld3
import Derived.KernelRfl
import Derived.Tactics

namespace Go.Proofs.YtifoggpohlegmaaGreatDoor
set_option maxRecDepth 100000
set_option maxHeartbeats 16000000
set_option linter.unusedVariables false

def putI:List Int→Int→List Int
 | [],n=>[n]
 | x::xs,n=>if x<n then x::putI xs n else if x=n then x::xs else n::x::xs
def mrgI (xs:List Int):List Int:=xs.foldl putI []
theorem putI_mem:∀ (xs:List Int) (n y:Int),y ∈ putI xs n↔y=n∨y ∈ xs
 | [],n,y=>by simp [putI]
 | x::xs,n,y=>by
  unfold putI
  split
  ·simp only [List.mem_cons,putI_mem xs n y]
   constructor
   ·rintro (h | h | h)
    ·exact .inr (.inl h)
    ·exact .inl h
    ·exact .inr (.inr h)
   ·rintro (h | h | h)
    ·exact .inr (.inl h)
    ·exact .inl h
    ·exact .inr (.inr h)
  ·split
   ·rename_i h
    subst h
    simp
   ·simp
theorem putI_rises:∀ (xs:List Int) (n:Int),xs.Pairwise (· < ·)→(putI xs n).Pairwise (· < ·)
 | [],n,_=>by simp [putI]
 | x::xs,n,h=>by
  obtain ⟨h1,h2⟩:=List.pairwise_cons.1 h
  unfold putI
  split
  ·rename_i hx
   refine List.pairwise_cons.2 ⟨fun y hy=>?_,putI_rises xs n h2⟩
   rcases (putI_mem xs n y).1 hy with rfl | hy
   ·exact hx
   ·exact h1 y hy
  ·split
   ·exact h
   ·refine List.pairwise_cons.2 ⟨fun y hy=>?_,h⟩
    rcases List.mem_cons.1 hy with rfl | hy
    ·omega
    ·have:=h1 y hy
     omega
theorem foldl_putI:∀ (xs acc:List Int),acc.Pairwise (· < ·)→(xs.foldl putI acc).Pairwise (· < ·)∧∀ y,y ∈ xs.foldl putI acc↔y ∈ acc∨y ∈ xs
 | [],acc,h=>⟨h,fun y=>by simp⟩
 | x::xs,acc,h=>by
  obtain ⟨h1,h2⟩:=foldl_putI xs (putI acc x) (putI_rises acc x h)
  refine ⟨h1,fun y=>?_⟩
  rw [List.foldl_cons,h2,putI_mem,List.mem_cons]
  constructor
  ·rintro ((h | h) | h)
   ·exact .inr (.inl h)
   ·exact .inl h
   ·exact .inr (.inr h)
  ·rintro (h | h | h)
   ·exact .inl (.inr h)
   ·exact .inl (.inl h)
   ·exact .inr h
theorem mrgI_rises (xs:List Int):(mrgI xs).Pairwise (· < ·):=(foldl_putI xs [] List.Pairwise.nil).1
theorem mrgI_mem (xs:List Int) (y:Int):y ∈ mrgI xs↔y ∈ xs:=by
 have:=(foldl_putI xs [] List.Pairwise.nil).2 y
 simpa [mrgI] using this
theorem rises_nodup {xs:List Int} (h:xs.Pairwise (· < ·)):xs.Nodup:=h.imp (fun h e=>by subst e;exact absurd h (by omega))
theorem rises_eq {xs ys:List Int} (h:xs.Pairwise (· < ·)) (h':ys.Pairwise (· < ·)) (hm:∀ y,y ∈ xs↔y ∈ ys):xs=ys:=by
 have hp:xs.Perm ys:=(List.perm_ext_iff_of_nodup (rises_nodup h) (rises_nodup h')).2 hm
 exact hp.eq_of_pairwise (le:=fun a b=>a<b) (fun a b _ _ h1 h2=>absurd h1 (by omega)) h h'
theorem mrgI_eq {xs ys:List Int} (h:∀ y,y ∈ xs↔y ∈ ys):mrgI xs=mrgI ys:=rises_eq (mrgI_rises xs) (mrgI_rises ys) (fun y=>by rw [mrgI_mem,mrgI_mem,h])
theorem putI_len (xs:List Int) (n:Int):(putI xs n).length≤xs.length+1:=by
 induction xs with
 | nil=>simp [putI]
 | cons x xs ih =>
  unfold putI
  split
  ·simp;omega
  ·split<;>simp
theorem foldl_putI_len:∀ (xs acc:List Int),(xs.foldl putI acc).length≤acc.length+xs.length
 | [],acc=>by simp
 | x::xs,acc=>by
  have:=foldl_putI_len xs (putI acc x)
  have:=putI_len acc x
  simp
  omega
theorem mrgI_len (xs:List Int):(mrgI xs).length≤xs.length:=by simpa [mrgI] using foldl_putI_len xs []
theorem putI_at:∀ (xs:List Int) (n:Int) (k:Nat),k≤xs.length→(∀ i,i<k→xs.getD i 0<n)→(k=xs.length∨¬ xs.getD k 0<n)→putI xs n=if k<xs.length∧xs.getD k 0=n then xs else xs.take k++[n]++xs.drop k
 | [],n,k,hk,_,_=>by
  have:k=0:=by simpa using hk
  subst this
  simp [putI]
 | x::xs,n,0,_,_,h=>by
  have hx:¬ x<n:=by simpa using h
  unfold putI
  rw [if_neg hx]
  simp
 | x::xs,n,k+1,hk,hl,h=>by
  have hx:x<n:=by simpa using hl 0 (by omega)
  unfold putI
  rw [if_pos hx]
  have ih:=putI_at xs n k (by simpa using hk) (fun i hi=>by simpa using hl (i+1) (by omega)) (by simpa using h)
  rw [ih]
  simp only [List.length_cons,Nat.add_lt_add_iff_right,List.getD_cons_succ,List.take_succ_cons,List.drop_succ_cons]
  split<;>simp


section
variable {σ : Type} [DecidableEq σ] (nx : σ → List σ) (lk : σ → List Int)
abbrev St8 (σ:Type):=List σ × List Int
def dfsF:Nat→σ→St8 σ→St8 σ
 | 0,_,st=>st
 | f+1,m,st=>if m ∈ st.1 then st else (nx m).foldl (fun st x=>if st.1.length<2000 then dfsF f x st else st) (st.1++[m],mrgI (st.2++lk m))
def dfsL (f:Nat) (xs:List σ) (st:St8 σ):St8 σ:=xs.foldl (fun st x=>if st.1.length<2000 then dfsF nx lk f x st else st) st
theorem dfsL_cons (f:Nat) (x:σ) (xs:List σ) (st:St8 σ):dfsL nx lk f (x::xs) st=dfsL nx lk f xs (if st.1.length<2000 then dfsF nx lk f x st else st):=rfl
theorem dfsF_old (f:Nat) {m:σ} {st:St8 σ} (h:m ∈ st.1):dfsF nx lk (f+1) m st=st:=if_pos h
theorem dfsF_new (f:Nat) {m:σ} {st:St8 σ} (h:m ∉ st.1):dfsF nx lk (f+1) m st=dfsL nx lk f (nx m) (st.1++[m],mrgI (st.2++lk m)):=if_neg h
theorem dfsL_full (f:Nat) (xs:List σ) {st:St8 σ} (h:¬ st.1.length<2000):dfsL nx lk f xs st=st:=by
 induction xs with
 | nil=>rfl
 | cons x xs ih=>rw [dfsL_cons,if_neg h,ih]
theorem dfs_inv (I:St8 σ→Prop) (R:σ→Prop) (hR:∀ x,R x→∀ y ∈ nx x,R y) (hS:∀ m st,R m→I st→m ∉ st.1→st.1.length<2000→I (st.1++[m],mrgI (st.2++lk m))) :
  ∀ (f:Nat),(∀ (m:σ) (st:St8 σ),R m→I st→st.1.length<2000→I (dfsF nx lk f m st))∧∀ (xs:List σ) (st:St8 σ),(∀ x ∈ xs,R x)→I st→I (dfsL nx lk f xs st):=by
 have fold:∀ f,(∀ (m:σ) (st:St8 σ),R m→I st→st.1.length<2000→I (dfsF nx lk f m st))→∀ (xs:List σ) (st:St8 σ),(∀ x ∈ xs,R x)→I st→I (dfsL nx lk f xs st):=by
  intro f hf xs
  induction xs with
  | nil=>exact fun st _ h=>h
  | cons x xs ih =>
   intro st hx h
   rw [dfsL_cons]
   refine ih _ (fun y hy=>hx y (List.mem_cons_of_mem _ hy)) ?_
   split
   ·rename_i h9
    exact hf x st (hx x List.mem_cons_self) h h9
   ·exact h
 intro f
 induction f with
 | zero=>exact ⟨fun m st _ h _=>h,fold 0 (fun m st _ h _=>h)⟩
 | succ f ih =>
  have hF:∀ (m:σ) (st:St8 σ),R m→I st→st.1.length<2000→I (dfsF nx lk (f+1) m st):=by
   intro m st hm h hl
   by_cases h9:m ∈ st.1
   ·rw [dfsF_old nx lk f h9];exact h
   ·rw [dfsF_new nx lk f h9]
    exact ih.2 _ _ (hR m hm) (hS m st hm h h9 hl)
  exact ⟨hF,fold (f+1) hF⟩
theorem dfs_pre:∀ (f:Nat),(∀ (m:σ) (st:St8 σ),st.1 <+: (dfsF nx lk f m st).1)∧∀ (xs:List σ) (st:St8 σ),st.1 <+: (dfsL nx lk f xs st).1:=by
 have fold:∀ f,(∀ (m:σ) (st:St8 σ),st.1 <+: (dfsF nx lk f m st).1)→∀ (xs:List σ) (st:St8 σ),st.1 <+: (dfsL nx lk f xs st).1:=by
  intro f hf xs
  induction xs with
  | nil=>exact fun st=>List.prefix_refl _
  | cons x xs ih =>
   intro st
   rw [dfsL_cons]
   refine List.IsPrefix.trans ?_ (ih _)
   split
   ·exact hf x st
   ·exact List.prefix_refl _
 intro f
 induction f with
 | zero=>exact ⟨fun m st=>List.prefix_refl _,fold 0 (fun m st=>List.prefix_refl _)⟩
 | succ f ih =>
  have hF:∀ (m:σ) (st:St8 σ),st.1 <+: (dfsF nx lk (f+1) m st).1:=by
   intro m st
   by_cases h9:m ∈ st.1
   ·rw [dfsF_old nx lk f h9];exact List.prefix_refl _
   ·rw [dfsF_new nx lk f h9]
    exact List.IsPrefix.trans (List.prefix_append st.1 [m]) (ih.2 (nx m) (st.1++[m],mrgI (st.2++lk m)))
  exact ⟨hF,fold (f+1) hF⟩
theorem dfs_closed (rk:σ→Nat) (R:σ→Prop) (hR:∀ x,R x→∀ y ∈ nx x,R y∧rk y<rk x) :
  ∀ (f:Nat),(∀ (m:σ) (st:St8 σ),R m→rk m<f→(dfsF nx lk f m st).1.length<2000→m ∈ (dfsF nx lk f m st).1∧∀ x ∈ (dfsF nx lk f m st).1,x ∉ st.1→∀ y ∈ nx x,y ∈ (dfsF nx lk f m st).1) ∧
   ∀ (xs:List σ) (st:St8 σ),(∀ x ∈ xs,R x∧rk x<f)→(dfsL nx lk f xs st).1.length<2000→(∀ x ∈ xs,x ∈ (dfsL nx lk f xs st).1)∧∀ x ∈ (dfsL nx lk f xs st).1,x ∉ st.1→∀ y ∈ nx x,y ∈ (dfsL nx lk f xs st).1:=by
 have fold:∀ f,(∀ (m:σ) (st:St8 σ),R m→rk m<f→(dfsF nx lk f m st).1.length<2000→m ∈ (dfsF nx lk f m st).1∧∀ x ∈ (dfsF nx lk f m st).1,x ∉ st.1→∀ y ∈ nx x,y ∈ (dfsF nx lk f m st).1) →
   ∀ (xs:List σ) (st:St8 σ),(∀ x ∈ xs,R x∧rk x<f)→(dfsL nx lk f xs st).1.length<2000→(∀ x ∈ xs,x ∈ (dfsL nx lk f xs st).1)∧∀ x ∈ (dfsL nx lk f xs st).1,x ∉ st.1→∀ y ∈ nx x,y ∈ (dfsL nx lk f xs st).1:=by
  intro f hf xs
  induction xs with
  | nil=>exact fun st _ _=>⟨fun x hx=>by simp at hx,fun x hx hn=>absurd hx hn⟩
  | cons x xs ih =>
   intro st hx hl
   have hp:=((dfs_pre nx lk f).2 (x::xs) st).length_le
   have h9:st.1.length<2000:=by omega
   rw [dfsL_cons,if_pos h9] at hl ⊢
   have hp1:=(dfs_pre nx lk f).2 xs (dfsF nx lk f x st)
   have hl1:(dfsF nx lk f x st).1.length<2000:=by have:=hp1.length_le;omega
   obtain ⟨c1,c2⟩:=hf x st (hx x List.mem_cons_self).1 (hx x List.mem_cons_self).2 hl1
   obtain ⟨c3,c4⟩:=ih (dfsF nx lk f x st) (fun y hy=>hx y (List.mem_cons_of_mem _ hy)) hl
   refine ⟨fun y hy=>?_,fun z hz hn y hy=>?_⟩
   ·rcases List.mem_cons.1 hy with rfl | hy
    ·exact hp1.subset c1
    ·exact c3 y hy
   ·by_cases hz1:z ∈ (dfsF nx lk f x st).1
    ·exact hp1.subset (c2 z hz1 hn y hy)
    ·exact c4 z hz hz1 y hy
 intro f
 induction f with
 | zero=>exact ⟨fun m st _ h=>by omega,fold 0 (fun m st _ h=>by omega)⟩
 | succ f ih =>
  have hF:∀ (m:σ) (st:St8 σ),R m→rk m<f+1→(dfsF nx lk (f+1) m st).1.length<2000→m ∈ (dfsF nx lk (f+1) m st).1∧∀ x ∈ (dfsF nx lk (f+1) m st).1,x ∉ st.1→∀ y ∈ nx x,y ∈ (dfsF nx lk (f+1) m st).1:=by
   intro m st hm hr hl
   by_cases h9:m ∈ st.1
   ·rw [dfsF_old nx lk f h9] at hl ⊢
    exact ⟨h9,fun x hx hn=>absurd hx hn⟩
   ·rw [dfsF_new nx lk f h9] at hl ⊢
    obtain ⟨c1,c2⟩:=ih.2 (nx m) (st.1++[m],mrgI (st.2++lk m)) (fun y hy=>⟨(hR m hm y hy).1,by have:=(hR m hm y hy).2;omega⟩) hl
    have hp:=(dfs_pre nx lk f).2 (nx m) (st.1++[m],mrgI (st.2++lk m))
    refine ⟨hp.subset (by simp),fun x hx hn y hy=>?_⟩
    by_cases e:x=m
    ·subst e
     exact c1 y hy
    ·exact c2 x hx (by simp [hn,e]) y hy
  exact ⟨hF,fold (f+1) hF⟩
theorem mrgI_more (xs ys:List Int):mrgI (mrgI xs++ys)=mrgI (xs++ys):=mrgI_eq (fun y=>by simp [mrgI_mem])
theorem dfs_foot (f:Nat) (m:σ):(dfsF nx lk f m ([],[])).2=mrgI ((dfsF nx lk f m ([],[])).1.flatMap lk):=
 (dfs_inv nx lk (fun st=>st.2=mrgI (st.1.flatMap lk)) (fun _=>True) (fun _ _ _ _=>trivial) (fun m st _ h _ _=>by
  show mrgI (st.2++lk m)=mrgI ((st.1++[m]).flatMap lk)
  rw [h,mrgI_more]
  simp) f).1 m ([],[]) trivial rfl (by simp)
theorem dfs_nodup (f:Nat) (m:σ):(dfsF nx lk f m ([],[])).1.Nodup:=
 (dfs_inv nx lk (fun st=>st.1.Nodup) (fun _=>True) (fun _ _ _ _=>trivial) (fun m st _ h hn _=>by
  show (st.1++[m]).Nodup
  exact List.nodup_append.2 ⟨h,by simp,fun a ha b hb=>by simp at hb;subst hb;exact fun e=>hn (e▸ha)⟩) f).1 m ([],[]) trivial (by simp) (by simp)
theorem dfs_in (f:Nat) (m:σ) (R:σ→Prop) (hm:R m) (hR:∀ x,R x→∀ y ∈ nx x,R y):∀ x ∈ (dfsF nx lk f m ([],[])).1,R x:=
 (dfs_inv nx lk (fun st=>∀ x ∈ st.1,R x) R hR (fun m st hm h hn _=>by
  intro x hx
  rcases List.mem_append.1 hx with hx | hx
  ·exact h x hx
  ·simp at hx;subst hx;exact hm) f).1 m ([],[]) hm (by simp) (by simp)
theorem dfs_all (f:Nat) (z:σ) (F:List σ) (rk:σ→Nat) (R:σ→Prop) (hz:R z) (hR:∀ x,R x→∀ y ∈ nx x,R y∧rk y<rk x) (hf:rk z<f)
  (hF0:z ∈ F) (hFn:F.Nodup) (hFc:F.length<2000→∀ x ∈ F,∀ y ∈ nx x,y ∈ F) (hFr:∀ C:σ→Prop,C z→(∀ x,C x→∀ y ∈ nx x,C y)→∀ x ∈ F,C x) :
  (F.length<2000→(dfsF nx lk f z ([],[])).1.length<2000∧(dfsF nx lk f z ([],[])).2=mrgI (F.flatMap lk))∧(¬ F.length<2000→¬ (dfsF nx lk f z ([],[])).1.length<2000):=by
 have hcl:(dfsF nx lk f z ([],[])).1.length<2000→∀ x ∈ F,x ∈ (dfsF nx lk f z ([],[])).1:=fun hl=>by
  obtain ⟨c1,c2⟩:=(dfs_closed nx lk rk R hR f).1 z ([],[]) hz hf hl
  exact hFr _ c1 (fun x hx y hy=>c2 x hx (by simp) y hy)
 constructor
 ·intro hl
  have hsub:∀ x ∈ (dfsF nx lk f z ([],[])).1,x ∈ F:=dfs_in nx lk f z (fun x=>x ∈ F) hF0 (hFc hl)
  have hlen:(dfsF nx lk f z ([],[])).1.length≤F.length:=List.Nodup.length_le_of_subset (dfs_nodup nx lk f z) hsub
  refine ⟨by omega,?_⟩
  rw [dfs_foot]
  refine mrgI_eq (fun y=>?_)
  simp only [List.mem_flatMap]
  constructor
  ·rintro ⟨x,hx,hy⟩
   exact ⟨x,hsub x hx,hy⟩
  ·rintro ⟨x,hx,hy⟩
   exact ⟨x,hcl (by omega) x hx,hy⟩
 ·intro hl hd
  have:=List.Nodup.length_le_of_subset hFn (hcl hd)
  omega
end
end Go.Proofs.YtifoggpohlegmaaGreatDoor
