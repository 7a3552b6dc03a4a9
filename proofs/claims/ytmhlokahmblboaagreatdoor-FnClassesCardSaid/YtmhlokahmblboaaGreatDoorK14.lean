/-
  Joined: Bug0, BugPl, MarkH, BugS, MrgA.
-/
import Derived.Test.YtmhlokahmblboaaGreatDoorK06

namespace Go.Proofs.YtmhlokahmblboaaGreatDoor
set_option maxRecDepth 100000
set_option maxHeartbeats 16000000
open Go.RowKit
set_option linter.unusedVariables false

theorem KB (n a b:Int) (w:World):Calls Tryz.prog 98 #[.int .i64 n,.int .i64 a,.int .i64 b] w fun e w'=>e=.returned (.bool (inB n a b))∧w=w':=by
 cases h:inB n a b
 ·exact RL n a b w (YE.1 h)
 exact Sb n a b w (ZA.1 h)

def okB (x:I3):Bool:=
 if x.1=14 then decide (x.2.1=0) && decide (x.2.2=0)
 else if x.1=12∨x.1=13 then inB x.2.1 0 2 && inB x.2.2 0 5
 else false


def ltB (a b:I3):Bool:=decide (a.1<b.1∨(a.1=b.1∧(a.2.1<b.2.1∨(a.2.1=b.2.1∧a.2.2<b.2.2))))
theorem Ra {a b:I3}:ltB a b=true↔a.1<b.1∨(a.1=b.1∧(a.2.1<b.2.1∨(a.2.1=b.2.1∧a.2.2<b.2.2))):=by simp [ltB]
theorem UR (a:I3):ltB a a=false:=by
 cases h:ltB a a
 ·rfl
 rw [Ra] at h;omega
theorem Uv {a b c:I3} (h:ltB a b=true) (k:ltB b c=true):ltB a c=true:=by
 rw [Ra] at *;omega
theorem QP {a b:I3} (h:ltB a b=true):ltB b a=false:=by
 cases k:ltB b a
 ·rfl
 rw [Ra] at h k;omega
theorem Wz {a b:I3} (h:ltB a b=false) (k:ltB b a=false):a=b:=by
 obtain ⟨a0,a1,a2⟩:=a
 obtain ⟨b0,b1,b2⟩:=b
 have h':¬ ltB (a0,a1,a2) (b0,b1,b2)=true:=by simp [h]
 have k':¬ ltB (b0,b1,b2) (a0,a1,a2)=true:=by simp [k]
 rw [Ra] at h' k'
 simp only at h' k'
 have e0:a0=b0:=by omega
 have e1:a1=b1:=by omega
 have e2:a2=b2:=by omega
 rw [e0,e1,e2]

def Wc (l:List I3):Prop:=l.Pairwise fun a b=>ltB a b=true
theorem Wc.same:∀ {l k:List I3},Wc l→Wc k→(∀ x,x ∈ l↔x ∈ k)→l=k
 | [],[],_,_,_=>rfl
 | [],b::k,_,_,h=>by have:=(h b).2 (by simp);simp at this
 | a::l,[],_,_,h=>by have:=(h a).1 (by simp);simp at this
 | a::l,b::k,hl,hk,h=>by
  have hl':=List.pairwise_cons.1 hl
  have hk':=List.pairwise_cons.1 hk
  have e:a=b:=by
   rcases List.mem_cons.1 ((h a).1 (by simp)) with e | e
   ·exact e
   rcases List.mem_cons.1 ((h b).2 (by simp)) with e' | e'
   ·exact e'.symm
   have h1:=hk'.1 a e
   have h2:=hl'.1 b e'
   rw [QP h1] at h2
   cases h2
  subst e
  rw [Wc.same hl'.2 hk'.2 (fun x=>?_)]
  constructor
  ·intro hx
   rcases List.mem_cons.1 ((h x).1 (List.mem_cons_of_mem _ hx)) with e | e
   ·subst e
    have:=hl'.1 x hx
    rw [UR] at this
    cases this
   exact e
  intro hx
  rcases List.mem_cons.1 ((h x).2 (List.mem_cons_of_mem _ hx)) with e | e
  ·subst e
   have:=hk'.1 x hx
   rw [UR] at this
   cases this
  exact e

def YL:List I3→I3→List I3
 | [],b=>[b]
 | x::xs,b=>if ltB x b then x::YL xs b else if x=b then x::xs else b::x::xs
theorem Wg {x b:I3}:∀ {l:List I3},x ∈ YL l b↔x ∈ l∨x=b
 | []=>by simp [YL]
 | y::l=>by
  have ih:=Wg (x:=x) (b:=b) (l:=l)
  unfold YL
  split
  ·simp [ih,or_assoc]
  split
  ·rename_i h
   subst h
   simp
   intro e
   exact .inl e
  simp
  constructor
  ·rintro (h | h | h)
   ·exact .inr h
   ·exact .inl (.inl h)
   exact .inl (.inr h)
  rintro ((h | h) | h)
  ·exact .inr (.inl h)
  ·exact .inr (.inr h)
  exact .inl h
theorem Wc.put {b:I3}:∀ {l:List I3},Wc l→Wc (YL l b)
 | [],_=>by simp [YL,Wc]
 | y::l,h=>by
  have h':=List.pairwise_cons.1 h
  unfold YL
  split
  ·rename_i hy
   refine List.pairwise_cons.2 ⟨fun z hz=>?_,Wc.put h'.2⟩
   rcases Wg.1 hz with e | e
   ·exact h'.1 z e
   rw [e];exact hy
  rename_i hy
  split
  ·exact h
  rename_i hne
  have hby:ltB b y=true:=by
   cases k:ltB b y
   ·exact absurd (Wz (by simpa using hy) k) hne
   rfl
  refine List.pairwise_cons.2 ⟨fun z hz=>?_,h⟩
  rcases List.mem_cons.1 hz with e | e
  ·rw [e];exact hby
  exact Uv hby (h'.1 z e)
def putAll (out l:List I3):List I3:=l.foldl YL out
theorem VG {x:I3}:∀ {l out:List I3},x ∈ putAll out l↔x ∈ out∨x ∈ l
 | [],out=>by simp [putAll]
 | y::l,out=>by
  have ih:=VG (x:=x) (l:=l) (out:=YL out y)
  unfold putAll at *
  rw [List.foldl_cons,ih,Wg]
  simp [or_assoc]
theorem Wc.putAll {l:List I3}:∀ {out:List I3},Wc out→Wc (putAll out l):=by
 induction l with
 | nil=>intro out h;exact h
 | cons y l ih=>intro out h;exact ih h.put
def Yg (a b:List I3):List I3:=putAll (putAll [] a) b
theorem VH (a b:List I3):Wc (Yg a b):=Wc.putAll (Wc.putAll List.Pairwise.nil)
theorem WL {x:I3} {a b:List I3}:x ∈ Yg a b↔x ∈ a∨x ∈ b:=by
 unfold Yg
 rw [VG,VG]
 simp
theorem TN (l:List I3) (b:I3):(YL l b).length≤l.length+1:=by
 induction l with
 | nil=>simp [YL]
 | cons y l ih =>
  unfold YL
  split
  ·simp;omega
  split<;>simp
theorem X6:∀ (l out:List I3),(putAll out l).length≤out.length+l.length
 | [],out=>by simp [putAll]
 | y::l,out=>by
  have:=X6 l (YL out y)
  have h2:=TN out y
  unfold putAll at *
  simp only [List.foldl_cons,List.length_cons]
  omega
theorem RR (a b:List I3):(Yg a b).length≤a.length+b.length:=by
 have h1:=X6 a []
 have h2:=X6 b (putAll [] a)
 simp at h1
 unfold Yg
 omega
def ZW:List I3→List I3
 | []=>[]
 | [x]=>[x]
 | x::y::l=>if x=y then ZW (y::l) else x::ZW (y::l)
theorem RY:∀ (x:I3) (l:List I3),∃ t,ZW (x::l)=x::t
 | x,[]=>⟨[],rfl⟩
 | x,y::l=>by
  unfold ZW
  split
  ·rename_i h
   subst h
   exact RY x l
  exact ⟨_,rfl⟩
theorem Se {z:I3}:∀ {l:List I3},z ∈ ZW l↔z ∈ l
 | []=>by simp [ZW]
 | [x]=>by simp [ZW]
 | x::y::l=>by
  have ih:=Se (z:=z) (l:=y::l)
  unfold ZW
  split
  ·rename_i h
   subst h
   rw [ih]
   simp
  simp only [List.mem_cons] at ih ⊢
  rw [ih]
theorem SJ:∀ {l:List I3},(l.Pairwise fun a b=>ltB b a=false)→Wc (ZW l)
 | [],_=>List.Pairwise.nil
 | [x],_=>by simp [ZW,Wc]
 | x::y::l,h=>by
  have h':=List.pairwise_cons.1 h
  have ih:=SJ h'.2
  unfold ZW
  split
  ·exact ih
  rename_i hne
  refine List.pairwise_cons.2 ⟨fun z hz=>?_,ih⟩
  have hz':=Se.1 hz
  have hxy:ltB x y=true:=by
   cases k:ltB x y
   ·exact absurd (Wz k (h'.1 y (by simp))) hne
   rfl
  rcases List.mem_cons.1 hz' with e | e
  ·rw [e];exact hxy
  have h2:=(List.pairwise_cons.1 h'.2).1 z e
  cases k:ltB x z
  ·have hzx:=h'.1 z hz'
   have e2:=Wz k hzx
   subst e2
   rw [h2] at hxy
   cases hxy
  rfl
theorem MQ {a b l:List I3} (hs:l.Pairwise fun a b=>ltB b a=false) (hm:∀ x,x ∈ l↔x ∈ a∨x ∈ b):ZW l=Yg a b:=
 (SJ hs).same (VH a b) fun x=>by rw [Se,hm,WL]


theorem Py {xs:List I3} {t:Nat} (ht:t<xs.length):(Zr xs)[t*3]?=some (.int .i64 (xs.getD t (0,0,0)).1)∧(Zr xs)[t*3+1]?=some (.int .i64 (xs.getD t (0,0,0)).2.1)∧(Zr xs)[t*3+2]?=some (.int .i64 (xs.getD t (0,0,0)).2.2):=by
 have hsplit:Zr xs=Zr (xs.take t)++((xs.getD t (0,0,0)).cells++Zr (xs.drop (t+1))):=by
  rw [← List.append_assoc,← VT ht]
  unfold Zr
  rw [← List.flatMap_append,List.take_append_drop]
 have hlt:(Zr (xs.take t)).length=t*3:=by rw [ZD,List.length_take];rw [Nat.min_eq_left (by omega)]
 have h:∀ j,j<3→(Zr xs)[t*3+j]?=((xs.getD t (0,0,0)).cells)[j]?:=fun j hj=>by
  rw [hsplit,List.getElem?_append_right (by omega),hlt,Nat.add_sub_cancel_left,List.getElem?_append_left (by simp [I3.cells];omega)]
 exact ⟨by simpa [I3.cells] using h 0 (by omega),by simpa [I3.cells] using h 1 (by omega),by simpa [I3.cells] using h 2 (by omega)⟩


theorem VW:(Tryz.prog.info? 90).map (fun i=>(i.zero,i.size,i.bytes))=some (some (.agg #[.int .i64 0,.int .i64 0,.int .i64 0]),3,24):=by kernel_rfl

set_option linter.unusedSimpArgs false

theorem MF (x y:I3) (w:World):Calls Tryz.prog 196 #[x.val,y.val] w fun e w'=>e=.returned (.bool (ltB x y))∧Below w.heap.size w w':=by
 obtain ⟨a0,a1,a2⟩:=x
 obtain ⟨b0,b1,b2⟩:=y
 unfold I3.val
 by_cases h0:a0=b0
 ·subst h0
  by_cases h1:a1=b1
  ·subst h1
   have e:ltB (a0,a1,a2) (a0,a1,b2)=decide (a2<b2):=by simp [ltB]
   rw [e]
   clear e
   go_enter Tryz.func196,Tryz.ntmps196
   go_wp2
   go_ret
   exact ⟨rfl,by go_grown⟩
  have e:ltB (a0,a1,a2) (a0,b1,b2)=decide (a1<b1):=by simp [ltB,h1]
  rw [e]
  clear e
  go_enter Tryz.func196,Tryz.ntmps196
  go_wp2
  go_ret
  exact ⟨rfl,by go_grown⟩
 have e:ltB (a0,a1,a2) (b0,b1,b2)=decide (a0<b0):=by simp [ltB,h0]
 rw [e]
 clear e
 go_enter Tryz.func196,Tryz.ntmps196
 go_wp2
 go_ret
 exact ⟨rfl,by go_grown⟩

def Wf:List I3→I3→Nat
 | [],_=>0
 | x::xs,b=>if ltB x b then Wf xs b+1 else 0
theorem NE:∀ (xs:List I3) (b:I3),Wf xs b≤xs.length
 | [],_=>Nat.le_refl _
 | x::xs,b=>by
  have:=NE xs b
  unfold Wf
  split<;>simp<;>omega
theorem QM:∀ (xs:List I3) (b:I3) (k:Nat),k<Wf xs b→ltB (xs.getD k (0,0,0)) b=true
 | [],_,k,h=>by simp [Wf] at h
 | x::xs,b,k,h=>by
  unfold Wf at h
  split at h
  ·rename_i hx
   match k,h with
   | 0,_=>simpa using hx
   | k+1,h=>rw [List.getD_cons_succ];exact QM xs b k (by omega)
  omega
theorem NF:∀ (xs:List I3) (b:I3),Wf xs b<xs.length→ltB (xs.getD (Wf xs b) (0,0,0)) b=false
 | [],_,h=>by simp [Wf] at h
 | x::xs,b,h=>by
  unfold Wf at h ⊢
  split
  ·rename_i hx
   rw [if_pos hx] at h
   rw [List.getD_cons_succ]
   exact NF xs b (by simpa using h)
  rename_i hx
  simpa using hx
theorem Q6:∀ (xs:List I3) (b:I3),YL xs b=if Wf xs b<xs.length∧xs.getD (Wf xs b) (0,0,0)=b then xs else (xs.take (Wf xs b)++[b])++xs.drop (Wf xs b)
 | [],b=>by simp [YL,Wf]
 | x::xs,b=>by
  have ih:=Q6 xs b
  unfold YL Wf
  split
  ·rename_i hx
   rw [ih]
   simp only [List.getD_cons_succ,List.length_cons,Nat.add_lt_add_iff_right,List.take_succ_cons,List.drop_succ_cons,List.cons_append]
   split<;>simp
  simp only [List.getD_cons_zero,List.length_cons,List.take_zero,List.drop_zero,List.nil_append,Nat.zero_lt_succ,true_and]
  split<;>simp

theorem WP {w:World} {b off len cap hi:Nat} {xs:List I3} (h:ZK w (some ⟨b,off,none⟩) len cap xs) (h2:hi≤len) :
  (∀ W,(Instr.slice 29 (.slice (some ⟨b,off,none⟩) len cap) none (some (.int .i64 (hi:Int))) none).run Tryz.prog W=.ok (.slice (some ⟨b,off,none⟩) hi cap) W)∧ZK w (some ⟨b,off,none⟩) hi cap (xs.take hi):=by
 obtain ⟨hl,hlc,hcm,hf,hcase⟩:=h
 have hhc:(hi:Int)≤(cap:Int):=by omega
 refine ⟨fun W=>?_,by rw [List.length_take];omega,by omega,by omega,fun x hx=>hf x (List.mem_of_mem_take hx),?_⟩
 ·go_simp
 rcases hcase with h0 | ⟨b',off',he,hb,hc⟩
 ·exact .inl (by omega)
 cases he
 refine .inr ⟨b,off,rfl,hb,fun t ht=>?_⟩
 have:=hc t (by omega)
 have e:(xs.take hi).getD t (0,0,0)=xs.getD t (0,0,0):=by simp [List.getD,List.getElem?_take,ht]
 rw [e]
 exact this
theorem Gc {w:World} {b off len cap lo:Nat} {xs:List I3} (h:ZK w (some ⟨b,off,none⟩) len cap xs) (h1:lo≤len) :
  ∃ o2,(∀ W,(Instr.slice 29 (.slice (some ⟨b,off,none⟩) len cap) (some (.int .i64 (lo:Int))) none none).run Tryz.prog W=.ok (.slice (some ⟨b,o2,none⟩) (len - lo) (cap - lo)) W)∧ZK w (some ⟨b,o2,none⟩) (len - lo) (cap - lo) (xs.drop lo):=by
 obtain ⟨hl,hlc,hcm,hf,hcase⟩:=h
 have hlh:(lo:Int)≤(len:Int):=by omega
 by_cases hz:cap - lo=0
 ·refine ⟨off,fun W=>?_,by rw [List.length_drop];omega,by omega,by omega,fun x hx=>hf x (List.mem_of_mem_drop hx),.inl (by omega)⟩
  go_simp
  omega
 refine ⟨off+lo*3,fun W=>?_,by rw [List.length_drop];omega,by omega,by omega,fun x hx=>hf x (List.mem_of_mem_drop hx),?_⟩
 ·go_simp
  omega
 rcases hcase with h0 | ⟨b',off',he,hb,hc⟩
 ·exact .inl (by omega)
 cases he
 refine .inr ⟨b,off+lo*3,rfl,hb,fun t ht=>?_⟩
 have:=hc (lo+t) (by omega)
 have e:(xs.drop lo).getD t (0,0,0)=xs.getD (lo+t) (0,0,0):=by simp [List.getD]
 rw [e,show off+lo*3+t*3=off+(lo+t)*3 by omega]
 exact this
theorem Yc {w:World} {b off len cap:Nat} {xs:List I3} (h:ZK w (some ⟨b,off,none⟩) len cap xs):∀ j u,(Zr xs)[j]?=some u→w.cell? ((⟨b,off,none⟩:Addr).add j)=some u:=by
 intro j u hj
 obtain ⟨hl,_,_,_,hcase⟩:=h
 have hjl:j<xs.length*3:=by
  have:=(List.getElem?_eq_some_iff.1 hj).1
  rwa [ZD] at this
 have hA:(⟨b,off,none⟩:Addr).add j=⟨b,off+j,none⟩:=by unfold Addr.add;split<;>simp_all
 rw [hA]
 rcases hcase with h0 | ⟨b',off',he,hb,hc⟩
 ·omega
 cases he
 have hq:j / 3<xs.length:=by omega
 obtain ⟨f0,f1,f2⟩:=Py hq
 obtain ⟨c0,c1,c2⟩:=hc (j / 3) (by omega)
 have hr:j % 3=0∨j % 3=1∨j % 3=2:=by omega
 rcases hr with hr | hr | hr
 ·have e:j / 3*3=j:=by omega
  rw [e] at f0
  rw [f0] at hj
  cases hj
  rw [show off+j=off+j / 3*3 by omega]
  exact c0
 ·have e:j / 3*3+1=j:=by omega
  rw [e] at f1
  rw [f1] at hj
  cases hj
  rw [show off+j=off+j / 3*3+1 by omega]
  exact c1
 have e:j / 3*3+2=j:=by omega
 rw [e] at f2
 rw [f2] at hj
 cases hj
 rw [show off+j=off+j / 3*3+2 by omega]
 exact c2
theorem YV (xs:List I3):∀ u ∈ Zr xs,u.oneCell'=true:=by
 intro u hu
 obtain ⟨x,hx,hu⟩:=List.mem_flatMap.1 hu
 unfold I3.cells at hu
 simp at hu
 rcases hu with rfl | rfl | rfl<;>rfl
theorem YB (xs ys:List I3):Zr (xs++ys)=Zr xs++Zr ys:=by simp [Zr]
end Go.Proofs.YtmhlokahmblboaaGreatDoor
