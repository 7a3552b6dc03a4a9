/-
  Joined: Bug0, BugPl, MarkH, BugS, MrgA.
-/
import Derived.Test.YtgmhhegckcionaaGreatDoorF01

namespace Go.Proofs.YtgmhhegckcionaaGreatDoor
set_option maxRecDepth 100000
set_option maxHeartbeats 16000000
open Go.RowKit
set_option linter.unusedVariables false

def okB (x:I3):Bool:=
 if x.1=14 then decide (x.2.1=0) && decide (x.2.2=0)
 else if x.1=12∨x.1=13 then inB x.2.1 0 2 && inB x.2.2 0 5
 else false

theorem RI (n:Int) (w:World):Calls Tryz.prog 95 #[.int .i64 n] w fun e w'=>e=.returned (.bool (inB n 0 2))∧w=w':=by
 cases h:inB n 0 2
 ·rw [YE] at h
  by_cases h1:0≤n
  ·have h2:decide (n<3)=false:=by simp;omega
   clear h
   go_enter Tryz.func95,Tryz.ntmps95
   go_wp2
   go_ret
   exact ⟨rfl,rfl⟩
  clear h
  go_enter Tryz.func95,Tryz.ntmps95
  go_wp2
  go_ret
  exact ⟨rfl,rfl⟩
 rw [ZD] at h
 obtain ⟨h1,h3⟩:=h
 have h2:decide (n<3)=true:=by simp;omega
 clear h3
 go_enter Tryz.func95,Tryz.ntmps95
 go_wp2
 go_ret
 exact ⟨by simp_all,rfl⟩

theorem N3 (a b:Int) (w:World):Calls Tryz.prog 147 #[.agg #[.int .i64 12,.int .i64 a,.int .i64 b]] w fun e w'=>e=.returned (.bool (inB a 0 2 && inB b 0 5))∧Below w.heap.size w w':=by
 have kA:=RI a
 generalize inB a 0 2=p at kA
 cases p
 ·go_enter Tryz.func147,Tryz.ntmps147
  go_wp2_with fail
  refine (kA _).mono ?_
  rintro e w1 ⟨rfl,rfl⟩
  go_wp2
  go_ret
  exact ⟨rfl,by go_grown⟩
 cases h:inB b 0 5
 ·rw [YE] at h
  by_cases h1:0≤b
  ·have h2:decide (b<6)=false:=by simp;omega
   clear h
   go_enter Tryz.func147,Tryz.ntmps147
   go_wp2_with fail
   refine (kA _).mono ?_
   rintro e w1 ⟨rfl,rfl⟩
   go_wp2
   go_ret
   exact ⟨rfl,by go_grown⟩
  clear h
  go_enter Tryz.func147,Tryz.ntmps147
  go_wp2_with fail
  refine (kA _).mono ?_
  rintro e w1 ⟨rfl,rfl⟩
  go_wp2
  go_ret
  exact ⟨rfl,by go_grown⟩
 rw [ZD] at h
 obtain ⟨h1,h3⟩:=h
 have h2:decide (b<6)=true:=by simp;omega
 clear h3
 go_enter Tryz.func147,Tryz.ntmps147
 go_wp2_with fail
 refine (kA _).mono ?_
 rintro e w1 ⟨rfl,rfl⟩
 go_wp2
 go_ret
 exact ⟨by simp_all,by go_grown⟩

theorem N4 (a b:Int) (w:World):Calls Tryz.prog 147 #[.agg #[.int .i64 13,.int .i64 a,.int .i64 b]] w fun e w'=>e=.returned (.bool (inB a 0 2 && inB b 0 5))∧Below w.heap.size w w':=by
 have kA:=RI a
 generalize inB a 0 2=p at kA
 cases p
 ·go_enter Tryz.func147,Tryz.ntmps147
  go_wp2_with fail
  refine (kA _).mono ?_
  rintro e w1 ⟨rfl,rfl⟩
  go_wp2
  go_ret
  exact ⟨rfl,by go_grown⟩
 cases h:inB b 0 5
 ·rw [YE] at h
  by_cases h1:0≤b
  ·have h2:decide (b<6)=false:=by simp;omega
   clear h
   go_enter Tryz.func147,Tryz.ntmps147
   go_wp2_with fail
   refine (kA _).mono ?_
   rintro e w1 ⟨rfl,rfl⟩
   go_wp2
   go_ret
   exact ⟨rfl,by go_grown⟩
  clear h
  go_enter Tryz.func147,Tryz.ntmps147
  go_wp2_with fail
  refine (kA _).mono ?_
  rintro e w1 ⟨rfl,rfl⟩
  go_wp2
  go_ret
  exact ⟨rfl,by go_grown⟩
 rw [ZD] at h
 obtain ⟨h1,h3⟩:=h
 have h2:decide (b<6)=true:=by simp;omega
 clear h3
 go_enter Tryz.func147,Tryz.ntmps147
 go_wp2_with fail
 refine (kA _).mono ?_
 rintro e w1 ⟨rfl,rfl⟩
 go_wp2
 go_ret
 exact ⟨by simp_all,by go_grown⟩

theorem N5 (a b:Int) (w:World):Calls Tryz.prog 147 #[.agg #[.int .i64 14,.int .i64 a,.int .i64 b]] w fun e w'=>e=.returned (.bool (decide (a=0) && decide (b=0)))∧Below w.heap.size w w':=by
 by_cases h:a=0
 ·subst h
  have hb:decide (b=0)=(b == 0):=rfl
  rw [hb]
  clear hb
  simp only [decide_true,Bool.true_and]
  go_enter Tryz.func147,Tryz.ntmps147
  go_wp2
  go_ret
  exact ⟨rfl,by go_grown⟩
 go_enter Tryz.func147,Tryz.ntmps147
 go_wp2
 go_ret
 exact ⟨by simp [h],by go_grown⟩

theorem MQ (c a b:Int) (w:World) (h:c≠12∧c≠13∧c≠14):Calls Tryz.prog 147 #[.agg #[.int .i64 c,.int .i64 a,.int .i64 b]] w fun e w'=>e=.returned (.bool false)∧Below w.heap.size w w':=by
 obtain ⟨h1,h2,h3⟩:=h
 go_enter Tryz.func147,Tryz.ntmps147
 go_wp2
 go_ret
 exact ⟨rfl,by go_grown⟩

theorem N6 (x:I3) (w:World):Calls Tryz.prog 147 #[x.val] w fun e w'=>e=.returned (.bool (okB x))∧Below w.heap.size w w':=by
 obtain ⟨c,a,b⟩:=x
 unfold I3.val okB
 by_cases h4:c=14
 ·subst h4
  simpa using N5 a b w
 by_cases h2:c=12
 ·subst h2
  simpa using N3 a b w
 by_cases h3:c=13
 ·subst h3
  simpa using N4 a b w
 simpa [h4,h2,h3] using MQ c a b w ⟨h2,h3,h4⟩


def ltB (a b:I3):Bool:=decide (a.1<b.1∨(a.1=b.1∧(a.2.1<b.2.1∨(a.2.1=b.2.1∧a.2.2<b.2.2))))
theorem R7 {a b:I3}:ltB a b=true↔a.1<b.1∨(a.1=b.1∧(a.2.1<b.2.1∨(a.2.1=b.2.1∧a.2.2<b.2.2))):=by simp [ltB]
theorem VC (a:I3):ltB a a=false:=by
 cases h:ltB a a
 ·rfl
 rw [R7] at h;omega
theorem Uf {a b c:I3} (h:ltB a b=true) (k:ltB b c=true):ltB a c=true:=by
 rw [R7] at *;omega
theorem P8 {a b:I3} (h:ltB a b=true):ltB b a=false:=by
 cases k:ltB b a
 ·rfl
 rw [R7] at h k;omega
theorem Vp {a b:I3} (h:ltB a b=false) (k:ltB b a=false):a=b:=by
 obtain ⟨a0,a1,a2⟩:=a
 obtain ⟨b0,b1,b2⟩:=b
 have h':¬ ltB (a0,a1,a2) (b0,b1,b2)=true:=by simp [h]
 have k':¬ ltB (b0,b1,b2) (a0,a1,a2)=true:=by simp [k]
 rw [R7] at h' k'
 simp only at h' k'
 have e0:a0=b0:=by omega
 have e1:a1=b1:=by omega
 have e2:a2=b2:=by omega
 rw [e0,e1,e2]

def YD (l:List I3):Prop:=l.Pairwise fun a b=>ltB a b=true
theorem YD.same:∀ {l k:List I3},YD l→YD k→(∀ x,x ∈ l↔x ∈ k)→l=k
 | [],[],_,_,_=>rfl
 | [],b::k,_,_,h=>by have:=(h b).2 (by simp);simp at this
 | a::l,[],_,_,h=>by have:=(h a).1 (by simp);simp at this
 | a::l,b::k,hl,hk,h=>by
  have hl':=List.pairwise_cons.1 hl
  have hk':=List.pairwise_cons.1 hk
  have e:a=b:=by
   rcases List.mem_cons.1 ((h a).1 (by simp)) with e | e
   ·exact e
   rcases List.mem_cons.1 ((h b).2 (by simp)) with e' | e'
   ·exact e'.symm
   have h1:=hk'.1 a e
   have h2:=hl'.1 b e'
   rw [P8 h1] at h2
   cases h2
  subst e
  rw [YD.same hl'.2 hk'.2 (fun x=>?_)]
  constructor
  ·intro hx
   rcases List.mem_cons.1 ((h x).1 (List.mem_cons_of_mem _ hx)) with e | e
   ·subst e
    have:=hl'.1 x hx
    rw [VC] at this
    cases this
   exact e
  intro hx
  rcases List.mem_cons.1 ((h x).2 (List.mem_cons_of_mem _ hx)) with e | e
  ·subst e
   have:=hk'.1 x hx
   rw [VC] at this
   cases this
  exact e

def YV:List I3→I3→List I3
 | [],b=>[b]
 | x::xs,b=>if ltB x b then x::YV xs b else if x=b then x::xs else b::x::xs
theorem WS {x b:I3}:∀ {l:List I3},x ∈ YV l b↔x ∈ l∨x=b
 | []=>by simp [YV]
 | y::l=>by
  have ih:=WS (x:=x) (b:=b) (l:=l)
  unfold YV
  split
  ·simp [ih,or_assoc]
  split
  ·rename_i h
   subst h
   simp
   intro e
   exact .inl e
  simp
  constructor
  ·rintro (h | h | h)
   ·exact .inr h
   ·exact .inl (.inl h)
   exact .inl (.inr h)
  rintro ((h | h) | h)
  ·exact .inr (.inl h)
  ·exact .inr (.inr h)
  exact .inl h
theorem YD.put {b:I3}:∀ {l:List I3},YD l→YD (YV l b)
 | [],_=>by simp [YV,YD]
 | y::l,h=>by
  have h':=List.pairwise_cons.1 h
  unfold YV
  split
  ·rename_i hy
   refine List.pairwise_cons.2 ⟨fun z hz=>?_,YD.put h'.2⟩
   rcases WS.1 hz with e | e
   ·exact h'.1 z e
   rw [e];exact hy
  rename_i hy
  split
  ·exact h
  rename_i hne
  have hby:ltB b y=true:=by
   cases k:ltB b y
   ·exact absurd (Vp (by simpa using hy) k) hne
   rfl
  refine List.pairwise_cons.2 ⟨fun z hz=>?_,h⟩
  rcases List.mem_cons.1 hz with e | e
  ·rw [e];exact hby
  exact Uf hby (h'.1 z e)
def putAll (out l:List I3):List I3:=l.foldl YV out
theorem UB {x:I3}:∀ {l out:List I3},x ∈ putAll out l↔x ∈ out∨x ∈ l
 | [],out=>by simp [putAll]
 | y::l,out=>by
  have ih:=UB (x:=x) (l:=l) (out:=YV out y)
  unfold putAll at *
  rw [List.foldl_cons,ih,WS]
  simp [or_assoc]
theorem YD.putAll {l:List I3}:∀ {out:List I3},YD out→YD (putAll out l):=by
 induction l with
 | nil=>intro out h;exact h
 | cons y l ih=>intro out h;exact ih h.put
def ZK (a b:List I3):List I3:=putAll (putAll [] a) b
theorem Yw (a b:List I3):YD (ZK a b):=YD.putAll (YD.putAll List.Pairwise.nil)
theorem YF {x:I3} {a b:List I3}:x ∈ ZK a b↔x ∈ a∨x ∈ b:=by
 unfold ZK
 rw [UB,UB]
 simp
theorem SR (l:List I3) (b:I3):(YV l b).length≤l.length+1:=by
 induction l with
 | nil=>simp [YV]
 | cons y l ih =>
  unfold YV
  split
  ·simp;omega
  split<;>simp
theorem WH:∀ (l out:List I3),(putAll out l).length≤out.length+l.length
 | [],out=>by simp [putAll]
 | y::l,out=>by
  have:=WH l (YV out y)
  have h2:=SR out y
  unfold putAll at *
  simp only [List.foldl_cons,List.length_cons]
  omega
theorem Ky (a b:List I3):(ZK a b).length≤a.length+b.length:=by
 have h1:=WH a []
 have h2:=WH b (putAll [] a)
 simp at h1
 unfold ZK
 omega
def ZZ:List I3→List I3
 | []=>[]
 | [x]=>[x]
 | x::y::l=>if x=y then ZZ (y::l) else x::ZZ (y::l)
theorem QR:∀ (x:I3) (l:List I3),∃ t,ZZ (x::l)=x::t
 | x,[]=>⟨[],rfl⟩
 | x,y::l=>by
  unfold ZZ
  split
  ·rename_i h
   subst h
   exact QR x l
  exact ⟨_,rfl⟩
theorem Rl {z:I3}:∀ {l:List I3},z ∈ ZZ l↔z ∈ l
 | []=>by simp [ZZ]
 | [x]=>by simp [ZZ]
 | x::y::l=>by
  have ih:=Rl (z:=z) (l:=y::l)
  unfold ZZ
  split
  ·rename_i h
   subst h
   rw [ih]
   simp
  simp only [List.mem_cons] at ih ⊢
  rw [ih]
theorem RO:∀ {l:List I3},(l.Pairwise fun a b=>ltB b a=false)→YD (ZZ l)
 | [],_=>List.Pairwise.nil
 | [x],_=>by simp [ZZ,YD]
 | x::y::l,h=>by
  have h':=List.pairwise_cons.1 h
  have ih:=RO h'.2
  unfold ZZ
  split
  ·exact ih
  rename_i hne
  refine List.pairwise_cons.2 ⟨fun z hz=>?_,ih⟩
  have hz':=Rl.1 hz
  have hxy:ltB x y=true:=by
   cases k:ltB x y
   ·exact absurd (Vp k (h'.1 y (by simp))) hne
   rfl
  rcases List.mem_cons.1 hz' with e | e
  ·rw [e];exact hxy
  have h2:=(List.pairwise_cons.1 h'.2).1 z e
  cases k:ltB x z
  ·have hzx:=h'.1 z hz'
   have e2:=Vp k hzx
   subst e2
   rw [h2] at hxy
   cases hxy
  rfl
theorem KD {a b l:List I3} (hs:l.Pairwise fun a b=>ltB b a=false) (hm:∀ x,x ∈ l↔x ∈ a∨x ∈ b):ZZ l=ZK a b:=
 (RO hs).same (Yw a b) fun x=>by rw [Rl,hm,YF]


theorem NZ {xs:List I3} {t:Nat} (ht:t<xs.length):(Zn xs)[t*3]?=some (.int .i64 (xs.getD t (0,0,0)).1)∧(Zn xs)[t*3+1]?=some (.int .i64 (xs.getD t (0,0,0)).2.1)∧(Zn xs)[t*3+2]?=some (.int .i64 (xs.getD t (0,0,0)).2.2):=by
 have hsplit:Zn xs=Zn (xs.take t)++((xs.getD t (0,0,0)).cells++Zn (xs.drop (t+1))):=by
  rw [← List.append_assoc,← Ta ht]
  unfold Zn
  rw [← List.flatMap_append,List.take_append_drop]
 have hlt:(Zn (xs.take t)).length=t*3:=by rw [Zw,List.length_take];rw [Nat.min_eq_left (by omega)]
 have h:∀ j,j<3→(Zn xs)[t*3+j]?=((xs.getD t (0,0,0)).cells)[j]?:=fun j hj=>by
  rw [hsplit,List.getElem?_append_right (by omega),hlt,Nat.add_sub_cancel_left,List.getElem?_append_left (by simp [I3.cells];omega)]
 exact ⟨by simpa [I3.cells] using h 0 (by omega),by simpa [I3.cells] using h 1 (by omega),by simpa [I3.cells] using h 2 (by omega)⟩


theorem Xp:(Tryz.prog.info? 103).map (fun i=>(i.zero,i.size,i.bytes))=some (some (.agg #[.int .i64 0,.int .i64 0,.int .i64 0]),3,24):=by kernel_rfl

set_option linter.unusedSimpArgs false

theorem Kr (x y:I3) (w:World):Calls Tryz.prog 144 #[x.val,y.val] w fun e w'=>e=.returned (.bool (ltB x y))∧Below w.heap.size w w':=by
 obtain ⟨a0,a1,a2⟩:=x
 obtain ⟨b0,b1,b2⟩:=y
 unfold I3.val
 by_cases h0:a0=b0
 ·subst h0
  by_cases h1:a1=b1
  ·subst h1
   have e:ltB (a0,a1,a2) (a0,a1,b2)=decide (a2<b2):=by simp [ltB]
   rw [e]
   clear e
   go_enter Tryz.func144,Tryz.ntmps144
   go_wp2
   go_ret
   exact ⟨rfl,by go_grown⟩
  have e:ltB (a0,a1,a2) (a0,b1,b2)=decide (a1<b1):=by simp [ltB,h1]
  rw [e]
  clear e
  go_enter Tryz.func144,Tryz.ntmps144
  go_wp2
  go_ret
  exact ⟨rfl,by go_grown⟩
 have e:ltB (a0,a1,a2) (b0,b1,b2)=decide (a0<b0):=by simp [ltB,h0]
 rw [e]
 clear e
 go_enter Tryz.func144,Tryz.ntmps144
 go_wp2
 go_ret
 exact ⟨rfl,by go_grown⟩

def WR:List I3→I3→Nat
 | [],_=>0
 | x::xs,b=>if ltB x b then WR xs b+1 else 0
theorem M7:∀ (xs:List I3) (b:I3),WR xs b≤xs.length
 | [],_=>Nat.le_refl _
 | x::xs,b=>by
  have:=M7 xs b
  unfold WR
  split<;>simp<;>omega
theorem P6:∀ (xs:List I3) (b:I3) (k:Nat),k<WR xs b→ltB (xs.getD k (0,0,0)) b=true
 | [],_,k,h=>by simp [WR] at h
 | x::xs,b,k,h=>by
  unfold WR at h
  split at h
  ·rename_i hx
   match k,h with
   | 0,_=>simpa using hx
   | k+1,h=>rw [List.getD_cons_succ];exact P6 xs b k (by omega)
  omega
theorem M8:∀ (xs:List I3) (b:I3),WR xs b<xs.length→ltB (xs.getD (WR xs b) (0,0,0)) b=false
 | [],_,h=>by simp [WR] at h
 | x::xs,b,h=>by
  unfold WR at h ⊢
  split
  ·rename_i hx
   rw [if_pos hx] at h
   rw [List.getD_cons_succ]
   exact M8 xs b (by simpa using h)
  rename_i hx
  simpa using hx
theorem Np:∀ (xs:List I3) (b:I3),YV xs b=if WR xs b<xs.length∧xs.getD (WR xs b) (0,0,0)=b then xs else (xs.take (WR xs b)++[b])++xs.drop (WR xs b)
 | [],b=>by simp [YV,WR]
 | x::xs,b=>by
  have ih:=Np xs b
  unfold YV WR
  split
  ·rename_i hx
   rw [ih]
   simp only [List.getD_cons_succ,List.length_cons,Nat.add_lt_add_iff_right,List.take_succ_cons,List.drop_succ_cons,List.cons_append]
   split<;>simp
  simp only [List.getD_cons_zero,List.length_cons,List.take_zero,List.drop_zero,List.nil_append,Nat.zero_lt_succ,true_and]
  split<;>simp

theorem VF {w:World} {b off len cap hi:Nat} {xs:List I3} (h:Zr w (some ⟨b,off,none⟩) len cap xs) (h2:hi≤len) :
  (∀ W,(Instr.slice 28 (.slice (some ⟨b,off,none⟩) len cap) none (some (.int .i64 (hi:Int))) none).run Tryz.prog W=.ok (.slice (some ⟨b,off,none⟩) hi cap) W)∧Zr w (some ⟨b,off,none⟩) hi cap (xs.take hi):=by
 obtain ⟨hl,hlc,hcm,hf,hcase⟩:=h
 have hhc:(hi:Int)≤(cap:Int):=by omega
 refine ⟨fun W=>?_,by rw [List.length_take];omega,by omega,by omega,fun x hx=>hf x (List.mem_of_mem_take hx),?_⟩
 ·go_simp
 rcases hcase with h0 | ⟨b',off',he,hb,hc⟩
 ·exact .inl (by omega)
 cases he
 refine .inr ⟨b,off,rfl,hb,fun t ht=>?_⟩
 have:=hc t (by omega)
 have e:(xs.take hi).getD t (0,0,0)=xs.getD t (0,0,0):=by simp [List.getD,List.getElem?_take,ht]
 rw [e]
 exact this
theorem F5 {w:World} {b off len cap lo:Nat} {xs:List I3} (h:Zr w (some ⟨b,off,none⟩) len cap xs) (h1:lo≤len) :
  ∃ o2,(∀ W,(Instr.slice 28 (.slice (some ⟨b,off,none⟩) len cap) (some (.int .i64 (lo:Int))) none none).run Tryz.prog W=.ok (.slice (some ⟨b,o2,none⟩) (len - lo) (cap - lo)) W)∧Zr w (some ⟨b,o2,none⟩) (len - lo) (cap - lo) (xs.drop lo):=by
 obtain ⟨hl,hlc,hcm,hf,hcase⟩:=h
 have hlh:(lo:Int)≤(len:Int):=by omega
 by_cases hz:cap - lo=0
 ·refine ⟨off,fun W=>?_,by rw [List.length_drop];omega,by omega,by omega,fun x hx=>hf x (List.mem_of_mem_drop hx),.inl (by omega)⟩
  go_simp
  omega
 refine ⟨off+lo*3,fun W=>?_,by rw [List.length_drop];omega,by omega,by omega,fun x hx=>hf x (List.mem_of_mem_drop hx),?_⟩
 ·go_simp
  omega
 rcases hcase with h0 | ⟨b',off',he,hb,hc⟩
 ·exact .inl (by omega)
 cases he
 refine .inr ⟨b,off+lo*3,rfl,hb,fun t ht=>?_⟩
 have:=hc (lo+t) (by omega)
 have e:(xs.drop lo).getD t (0,0,0)=xs.getD (lo+t) (0,0,0):=by simp [List.getD]
 rw [e,show off+lo*3+t*3=off+(lo+t)*3 by omega]
 exact this
theorem Yb {w:World} {b off len cap:Nat} {xs:List I3} (h:Zr w (some ⟨b,off,none⟩) len cap xs):∀ j u,(Zn xs)[j]?=some u→w.cell? ((⟨b,off,none⟩:Addr).add j)=some u:=by
 intro j u hj
 obtain ⟨hl,_,_,_,hcase⟩:=h
 have hjl:j<xs.length*3:=by
  have:=(List.getElem?_eq_some_iff.1 hj).1
  rwa [Zw] at this
 have hA:(⟨b,off,none⟩:Addr).add j=⟨b,off+j,none⟩:=by unfold Addr.add;split<;>simp_all
 rw [hA]
 rcases hcase with h0 | ⟨b',off',he,hb,hc⟩
 ·omega
 cases he
 have hq:j / 3<xs.length:=by omega
 obtain ⟨f0,f1,f2⟩:=NZ hq
 obtain ⟨c0,c1,c2⟩:=hc (j / 3) (by omega)
 have hr:j % 3=0∨j % 3=1∨j % 3=2:=by omega
 rcases hr with hr | hr | hr
 ·have e:j / 3*3=j:=by omega
  rw [e] at f0
  rw [f0] at hj
  cases hj
  rw [show off+j=off+j / 3*3 by omega]
  exact c0
 ·have e:j / 3*3+1=j:=by omega
  rw [e] at f1
  rw [f1] at hj
  cases hj
  rw [show off+j=off+j / 3*3+1 by omega]
  exact c1
 have e:j / 3*3+2=j:=by omega
 rw [e] at f2
 rw [f2] at hj
 cases hj
 rw [show off+j=off+j / 3*3+2 by omega]
 exact c2
theorem Yk (xs:List I3):∀ u ∈ Zn xs,u.oneCell'=true:=by
 intro u hu
 obtain ⟨x,hx,hu⟩:=List.mem_flatMap.1 hu
 unfold I3.cells at hu
 simp at hu
 rcases hu with rfl | rfl | rfl<;>rfl
theorem Yp (xs ys:List I3):Zn (xs++ys)=Zn xs++Zn ys:=by simp [Zn]
end Go.Proofs.YtgmhhegckcionaaGreatDoor
