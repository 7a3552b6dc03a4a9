/-
  Joined: VmI, BugPl, MrgA, Ent9, EsO, StrP, ItmI.
-/
import Derived.Laws.AppendOwnNone
import Derived.Laws.Strings
import Derived.Test.YtnffeclgboomoaaGreatDoorT09

namespace Go.Proofs.YtnffeclgboomoaaGreatDoor
set_option maxRecDepth 100000
set_option maxHeartbeats 16000000
open Go.RowKit

def ZL (w:World):Prop:=∀ i v,([3,6,4,9,2,3,6,9].map (Value.int .i64))[i]?=some v→w.cell? ⟨0,i,none⟩=some v
theorem ZL.below {w w':World} (h:ZL w) (hb:Below w.heap.size w w'):ZL w':=fun i v hi=>Za hb _ _ (h i v hi)

theorem RC (s:S4) (w:World) :
  Calls Tryz.prog 160 #[s.val] w fun e w'=>e=.returned s.val∧Below w.heap.size w w':=by
 obtain ⟨⟨a0,n0,c0⟩,⟨a1,n1,c1⟩,⟨a2,n2,c2⟩,⟨a3,n3,c3⟩⟩:=s
 unfold S4.val
 simp only
 go_enter Tryz.func160,Tryz.ntmps160
 go_wp2
 go_returns
 exact ⟨rfl,by go_grown⟩

theorem SX (n high:Int) (a:Option Addr) (len cap:Nat) (zs:List Int) (w:World) (h:Z2 .i64 w a len cap zs) :
  Calls Tryz.prog 200 #[.agg #[.int .i64 n,.int .i64 high],.slice a len cap] w fun e w'=>e=.returned (.bool (YC zs n high))∧Below w.heap.size w w':=by
 obtain ⟨hl,hlc,hcm,hcase⟩:=h
 unfold maxLen at hcm
 obtain ⟨fin,hfin⟩:∃ fin,fin=YC zs n high:=⟨_,rfl⟩
 rw [← hfin]
 have HF:Hid (fin=YC zs n high):=hfin
 clear hfin
 by_cases hn:(len:Int)=n
 ·have HE:Hid (Hid (∀ i,i<zs.length→0≤zs.getD i 0∧zs.getD i 0≤high)→fin=true):=fun h=>by rw [HF.out,Qz h.out,hl,decide_eq_true hn]
  have hne:((len:Int) != n)=false:=by simp [hn]
  by_cases h0:len=0
  ·subst h0
   obtain rfl:fin=true:=HE.out (fun i hi=>by omega)
   clear HE HF
   simp only [Int.natCast_zero] at hne
   go_enter Tryz.func200,Tryz.ntmps200
   go_wp2
   refine wp_loop_rounds 1 ?_
   rw [rounds_succ]
   go_wp2
   go_ret
   exact ⟨rfl,by go_grown⟩
  rcases hcase with h0' | ⟨bk,off,rfl,hblt,hcell⟩
  ·exact absurd h0' h0
  have bw:Below w.heap.size w (w.alloc (.cells #[.int .i64 n,.int .i64 high] 268)):=by go_grown
  have q1:(w.alloc (.cells #[.int .i64 n,.int .i64 high] 268)).cell? ⟨w.heap.size,1,none⟩=some (.int .i64 high):=by simp [go_sem]
  have hc2:∀ t,t<len→(w.alloc (.cells #[.int .i64 n,.int .i64 high] 268)).cell? ⟨bk,off+t,none⟩=some (.int .i64 (zs.getD t 0)):=fun t ht=>Za bw _ _ (hcell t ht)
  clear hcell
  go_enter Tryz.func200,Tryz.ntmps200
  go_wp2
  generalize (w.alloc (.cells #[.int .i64 n,.int .i64 high] 268))=W at *
  go_loopw [14] (fun si wr=>∃ k:Nat,k≤len∧si=.int .i64 k∧Hid (∀ i,i<k→0≤zs.getD i 0∧zs.getD i 0≤high)∧W=wr) (fun si _=>len - (intOf si).toNat)
  case atStart=>exact ⟨0,by omega,rfl,(fun i hi=>by omega),rfl⟩
  case round =>
   obtain ⟨k,hk,rfl,HK,rfl⟩:=hrel
   by_cases hlt:k<len
   ·have hc:=hc2 k hlt
    have hlt':(k:Int)<(len:Int):=by omega
    have hno:¬ (0≤zs.getD k 0∧zs.getD k 0≤high)→fin=false:=fun hin=>by rw [HF.out];exact P5 (by omega) hin
    have HN:Hid (¬ (0≤zs.getD k 0∧zs.getD k 0≤high)→fin=false):=hno
    have HK2:Hid (0≤zs.getD k 0∧zs.getD k 0≤high→Hid (∀ i,i<k+1→0≤zs.getD i 0∧zs.getD i 0≤high)):=fun hin i hi=>by
     by_cases e:i=k
     ·subst e;exact hin
     exact HK.out i (by omega)
    clear hc2 hno
    generalize zs.getD k 0=x at hc HN HK2
    by_cases g0:x<0
    ·obtain rfl:fin=false:=HN.out (by omega)
     clear HN HK2 HK HF HE
     go_wp2
     go_ret
     exact ⟨rfl,bw⟩
    by_cases g1:high<x
    ·obtain rfl:fin=false:=HN.out (by omega)
     have g0':decide (x<0)=false:=by simp;omega
     clear HN HK2 HK HF HE
     go_wp2
     go_ret
     exact ⟨rfl,bw⟩
    have HK3:=HK2.out ⟨by omega,by omega⟩
    have g0':decide (x<0)=false:=by simp;omega
    have g1':decide (high<x)=false:=by simp;omega
    clear HN HK2 HK HF HE
    go_wp2
    go_roundw
    case rel=>exact ⟨k+1,by omega,by go_num,HK3,by trivial⟩
    case measure=>simp [intOf];omega
   obtain rfl:k=len:=by omega
   obtain rfl:fin=true:=HE.out (fun i hi=>HK.out i (by omega))
   clear hc2 HE HF HK
   go_wp2
   go_ret
   exact ⟨rfl,bw⟩
 obtain rfl:fin=false:=by
  rw [HF.out]
  unfold YC
  rw [hl,decide_eq_false hn,Bool.and_false]
 have hne:((len:Int) != n)=true:=by simp [hn]
 clear HF hcase
 go_enter Tryz.func200,Tryz.ntmps200
 go_wp2
 go_ret
 exact ⟨rfl,by go_grown⟩

theorem MH (v0 v1 v2 v3:Value) (w:World):(Instr.index 227 (.agg #[v0,v1,v2,v3]) (.int .i64 0)).run Tryz.prog w=.ok v0 w:=by kernel_rfl
theorem MI (v0 v1 v2 v3:Value) (w:World):(Instr.index 227 (.agg #[v0,v1,v2,v3]) (.int .i64 1)).run Tryz.prog w=.ok v1 w:=by kernel_rfl
theorem MJ (v0 v1 v2 v3:Value) (w:World):(Instr.index 227 (.agg #[v0,v1,v2,v3]) (.int .i64 2)).run Tryz.prog w=.ok v2 w:=by kernel_rfl
theorem MK (v0 v1 v2 v3:Value) (w:World):(Instr.index 227 (.agg #[v0,v1,v2,v3]) (.int .i64 3)).run Tryz.prog w=.ok v3 w:=by kernel_rfl

theorem RR (s:S4) (m:V4) (w:World) (h:Yy w s m) (hV:ZL w) :
  Calls Tryz.prog 161 #[s.val] w fun e w'=>e=.returned (.bool (Zd m))∧Below w.heap.size w w':=by
 have kL:=RC s
 obtain ⟨⟨i0,_⟩,⟨i1,_⟩,⟨i2,_⟩,⟨i3,_⟩⟩:=h
 obtain ⟨⟨a0,n0,c0⟩,⟨a1,n1,c1⟩,⟨a2,n2,c2⟩,⟨a3,n3,c3⟩⟩:=s
 obtain ⟨m0,m1,m2,m3⟩:=m
 unfold S4.val at kL ⊢
 unfold Zd
 simp only at i0 i1 i2 i3 kL ⊢
 have bw:Below w.heap.size w (w.alloc (.cells #[.slice a0 n0 c0,.slice a1 n1 c1,.slice a2 n2 c2,.slice a3 n3 c3] 112)):=by go_grown
 have k0:=fun w h=>SX 3 6 a0 n0 c0 m0 w h
 have k1:=fun w h=>SX 4 9 a1 n1 c1 m1 w h
 have k2:=fun w h=>SX 2 3 a2 n2 c2 m2 w h
 have k3:=fun w h=>SX 6 9 a3 n3 c3 m3 w h
 generalize YC m0 3 6=x0 at *
 generalize YC m1 4 9=x1 at *
 generalize YC m2 2 3=x2 at *
 generalize YC m3 6 9=x3 at *
 have d0:=MH (.slice a0 n0 c0) (.slice a1 n1 c1) (.slice a2 n2 c2) (.slice a3 n3 c3)
 have d1:=MI (.slice a0 n0 c0) (.slice a1 n1 c1) (.slice a2 n2 c2) (.slice a3 n3 c3)
 have d2:=MJ (.slice a0 n0 c0) (.slice a1 n1 c1) (.slice a2 n2 c2) (.slice a3 n3 c3)
 have d3:=MK (.slice a0 n0 c0) (.slice a1 n1 c1) (.slice a2 n2 c2) (.slice a3 n3 c3)
 go_enter Tryz.func161,Tryz.ntmps161
 go_wp2_with fail
 refine (kL _).mono ?_
 rintro e w1 ⟨rfl,hb⟩
 replace bw:=Zb bw hb
 replace hV:=hV.below bw
 clear hb kL
 have t0:=hV 0 _ rfl
 have t1:=hV 1 _ rfl
 go_wp2_with fail
 refine wp_loop_rounds 5 ?_
 rw [rounds_succ]
 go_wp2_with fail
 refine (k0 _ (i0.below bw)).mono ?_
 rintro e w2 ⟨rfl,hb⟩
 replace bw:=Zb bw hb
 replace hV:=hV.below hb
 clear hb k0 i0 t0 t1
 cases x0
 ·go_wp2
  go_ret
  exact ⟨rfl,bw⟩
 have t2:=hV 2 _ rfl
 have t3:=hV 3 _ rfl
 go_wp2_with fail
 rw [rounds_succ]
 go_wp2_with fail
 refine (k1 _ (i1.below bw)).mono ?_
 rintro e w3 ⟨rfl,hb⟩
 replace bw:=Zb bw hb
 replace hV:=hV.below hb
 clear hb k1 i1 t2 t3
 cases x1
 ·go_wp2
  go_ret
  exact ⟨rfl,bw⟩
 have t4:=hV 4 _ rfl
 have t5:=hV 5 _ rfl
 go_wp2_with fail
 rw [rounds_succ]
 go_wp2_with fail
 refine (k2 _ (i2.below bw)).mono ?_
 rintro e w4 ⟨rfl,hb⟩
 replace bw:=Zb bw hb
 replace hV:=hV.below hb
 clear hb k2 i2 t4 t5
 cases x2
 ·go_wp2
  go_ret
  exact ⟨rfl,bw⟩
 have t6:=hV 6 _ rfl
 have t7:=hV 7 _ rfl
 go_wp2_with fail
 rw [rounds_succ]
 go_wp2_with fail
 refine (k3 _ (i3.below bw)).mono ?_
 rintro e w5 ⟨rfl,hb⟩
 replace bw:=Zb bw hb
 clear hb k3 i3 t6 t7 hV
 cases x3
 ·go_wp2
  go_ret
  exact ⟨rfl,bw⟩
 go_wp2_with fail
 rw [rounds_succ]
 go_wp2
 go_ret
 exact ⟨rfl,bw⟩

set_option linter.unusedVariables false

def ltB (a b:I3):Bool:=decide (a.1<b.1∨(a.1=b.1∧(a.2.1<b.2.1∨(a.2.1=b.2.1∧a.2.2<b.2.2))))
theorem S1 {a b:I3}:ltB a b=true↔a.1<b.1∨(a.1=b.1∧(a.2.1<b.2.1∨(a.2.1=b.2.1∧a.2.2<b.2.2))):=by simp [ltB]
theorem WE (a:I3):ltB a a=false:=by
 cases h:ltB a a
 ·rfl
 rw [S1] at h;omega
theorem Ve {a b c:I3} (h:ltB a b=true) (k:ltB b c=true):ltB a c=true:=by
 rw [S1] at *;omega
theorem QP {a b:I3} (h:ltB a b=true):ltB b a=false:=by
 cases k:ltB b a
 ·rfl
 rw [S1] at h k;omega
theorem Ww {a b:I3} (h:ltB a b=false) (k:ltB b a=false):a=b:=by
 obtain ⟨a0,a1,a2⟩:=a
 obtain ⟨b0,b1,b2⟩:=b
 have h':¬ ltB (a0,a1,a2) (b0,b1,b2)=true:=by simp [h]
 have k':¬ ltB (b0,b1,b2) (a0,a1,a2)=true:=by simp [k]
 rw [S1] at h' k'
 simp only at h' k'
 have e0:a0=b0:=by omega
 have e1:a1=b1:=by omega
 have e2:a2=b2:=by omega
 rw [e0,e1,e2]

def Ys (l:List I3):Prop:=l.Pairwise fun a b=>ltB a b=true
theorem Ys.same:∀ {l k:List I3},Ys l→Ys k→(∀ x,x ∈ l↔x ∈ k)→l=k
 | [],[],_,_,_=>rfl
 | [],b::k,_,_,h=>by have:=(h b).2 (by simp);simp at this
 | a::l,[],_,_,h=>by have:=(h a).1 (by simp);simp at this
 | a::l,b::k,hl,hk,h=>by
  have hl':=List.pairwise_cons.1 hl
  have hk':=List.pairwise_cons.1 hk
  have e:a=b:=by
   rcases List.mem_cons.1 ((h a).1 (by simp)) with e | e
   ·exact e
   rcases List.mem_cons.1 ((h b).2 (by simp)) with e' | e'
   ·exact e'.symm
   have h1:=hk'.1 a e
   have h2:=hl'.1 b e'
   rw [QP h1] at h2
   cases h2
  subst e
  rw [Ys.same hl'.2 hk'.2 (fun x=>?_)]
  constructor
  ·intro hx
   rcases List.mem_cons.1 ((h x).1 (List.mem_cons_of_mem _ hx)) with e | e
   ·subst e
    have:=hl'.1 x hx
    rw [WE] at this
    cases this
   exact e
  intro hx
  rcases List.mem_cons.1 ((h x).2 (List.mem_cons_of_mem _ hx)) with e | e
  ·subst e
   have:=hk'.1 x hx
   rw [WE] at this
   cases this
  exact e

def YE:List I3→I3→List I3
 | [],b=>[b]
 | x::xs,b=>if ltB x b then x::YE xs b else if x=b then x::xs else b::x::xs
theorem Wg {x b:I3}:∀ {l:List I3},x ∈ YE l b↔x ∈ l∨x=b
 | []=>by simp [YE]
 | y::l=>by
  have ih:=Wg (x:=x) (b:=b) (l:=l)
  unfold YE
  split
  ·simp [ih,or_assoc]
  split
  ·rename_i h
   subst h
   simp
   intro e
   exact .inl e
  simp
  constructor
  ·rintro (h | h | h)
   ·exact .inr h
   ·exact .inl (.inl h)
   exact .inl (.inr h)
  rintro ((h | h) | h)
  ·exact .inr (.inl h)
  ·exact .inr (.inr h)
  exact .inl h
theorem Ys.put {b:I3}:∀ {l:List I3},Ys l→Ys (YE l b)
 | [],_=>by simp [YE,Ys]
 | y::l,h=>by
  have h':=List.pairwise_cons.1 h
  unfold YE
  split
  ·rename_i hy
   refine List.pairwise_cons.2 ⟨fun z hz=>?_,Ys.put h'.2⟩
   rcases Wg.1 hz with e | e
   ·exact h'.1 z e
   rw [e];exact hy
  rename_i hy
  split
  ·exact h
  rename_i hne
  have hby:ltB b y=true:=by
   cases k:ltB b y
   ·exact absurd (Ww (by simpa using hy) k) hne
   rfl
  refine List.pairwise_cons.2 ⟨fun z hz=>?_,h⟩
  rcases List.mem_cons.1 hz with e | e
  ·rw [e];exact hby
  exact Ve hby (h'.1 z e)
def putAll (out l:List I3):List I3:=l.foldl YE out
theorem Vv {x:I3}:∀ {l out:List I3},x ∈ putAll out l↔x ∈ out∨x ∈ l
 | [],out=>by simp [putAll]
 | y::l,out=>by
  have ih:=Vv (x:=x) (l:=l) (out:=YE out y)
  unfold putAll at *
  rw [List.foldl_cons,ih,Wg]
  simp [or_assoc]
theorem Ys.putAll {l:List I3}:∀ {out:List I3},Ys out→Ys (putAll out l):=by
 induction l with
 | nil=>intro out h;exact h
 | cons y l ih=>intro out h;exact ih h.put
def ZD (a b:List I3):List I3:=putAll (putAll [] a) b
theorem YK (a b:List I3):Ys (ZD a b):=Ys.putAll (Ys.putAll List.Pairwise.nil)
theorem YM {x:I3} {a b:List I3}:x ∈ ZD a b↔x ∈ a∨x ∈ b:=by
 unfold ZD
 rw [Vv,Vv]
 simp
theorem TI (l:List I3) (b:I3):(YE l b).length≤l.length+1:=by
 induction l with
 | nil=>simp [YE]
 | cons y l ih =>
  unfold YE
  split
  ·simp;omega
  split<;>simp
theorem XS:∀ (l out:List I3),(putAll out l).length≤out.length+l.length
 | [],out=>by simp [putAll]
 | y::l,out=>by
  have:=XS l (YE out y)
  have h2:=TI out y
  unfold putAll at *
  simp only [List.foldl_cons,List.length_cons]
  omega
theorem MV (a b:List I3):(ZD a b).length≤a.length+b.length:=by
 have h1:=XS a []
 have h2:=XS b (putAll [] a)
 simp at h1
 unfold ZD
 omega
def ZM:List I3→List I3
 | []=>[]
 | [x]=>[x]
 | x::y::l=>if x=y then ZM (y::l) else x::ZM (y::l)
theorem RH:∀ (x:I3) (l:List I3),∃ t,ZM (x::l)=x::t
 | x,[]=>⟨[],rfl⟩
 | x,y::l=>by
  unfold ZM
  split
  ·rename_i h
   subst h
   exact RH x l
  exact ⟨_,rfl⟩
theorem Sd {z:I3}:∀ {l:List I3},z ∈ ZM l↔z ∈ l
 | []=>by simp [ZM]
 | [x]=>by simp [ZM]
 | x::y::l=>by
  have ih:=Sd (z:=z) (l:=y::l)
  unfold ZM
  split
  ·rename_i h
   subst h
   rw [ih]
   simp
  simp only [List.mem_cons] at ih ⊢
  rw [ih]
theorem SA:∀ {l:List I3},(l.Pairwise fun a b=>ltB b a=false)→Ys (ZM l)
 | [],_=>List.Pairwise.nil
 | [x],_=>by simp [ZM,Ys]
 | x::y::l,h=>by
  have h':=List.pairwise_cons.1 h
  have ih:=SA h'.2
  unfold ZM
  split
  ·exact ih
  rename_i hne
  refine List.pairwise_cons.2 ⟨fun z hz=>?_,ih⟩
  have hz':=Sd.1 hz
  have hxy:ltB x y=true:=by
   cases k:ltB x y
   ·exact absurd (Ww k (h'.1 y (by simp))) hne
   rfl
  rcases List.mem_cons.1 hz' with e | e
  ·rw [e];exact hxy
  have h2:=(List.pairwise_cons.1 h'.2).1 z e
  cases k:ltB x z
  ·have hzx:=h'.1 z hz'
   have e2:=Ww k hzx
   subst e2
   rw [h2] at hxy
   cases hxy
  rfl
theorem MZ {a b l:List I3} (hs:l.Pairwise fun a b=>ltB b a=false) (hm:∀ x,x ∈ l↔x ∈ a∨x ∈ b):ZM l=ZD a b:=
 (SA hs).same (YK a b) fun x=>by rw [Sd,hm,YM]

set_option linter.unusedSimpArgs false

theorem UR (x y:I3) (w:World):Calls Tryz.prog 194 #[x.val,y.val] w fun e w'=>e=.returned (.bool (ltB x y))∧Below w.heap.size w w':=by
 obtain ⟨a0,a1,a2⟩:=x
 obtain ⟨b0,b1,b2⟩:=y
 unfold I3.val
 by_cases h0:a0=b0
 ·subst h0
  by_cases h1:a1=b1
  ·subst h1
   have e:ltB (a0,a1,a2) (a0,a1,b2)=decide (a2<b2):=by simp [ltB]
   rw [e]
   clear e
   go_enter Tryz.func194,Tryz.ntmps194
   go_wp2
   go_ret
   exact ⟨rfl,by go_grown⟩
  have e:ltB (a0,a1,a2) (a0,b1,b2)=decide (a1<b1):=by simp [ltB,h1]
  rw [e]
  clear e
  go_enter Tryz.func194,Tryz.ntmps194
  go_wp2
  go_ret
  exact ⟨rfl,by go_grown⟩
 have e:ltB (a0,a1,a2) (b0,b1,b2)=decide (a0<b0):=by simp [ltB,h0]
 rw [e]
 clear e
 go_enter Tryz.func194,Tryz.ntmps194
 go_wp2
 go_ret
 exact ⟨rfl,by go_grown⟩

def We:List I3→I3→Nat
 | [],_=>0
 | x::xs,b=>if ltB x b then We xs b+1 else 0
theorem NI:∀ (xs:List I3) (b:I3),We xs b≤xs.length
 | [],_=>Nat.le_refl _
 | x::xs,b=>by
  have:=NI xs b
  unfold We
  split<;>simp<;>omega
theorem QM:∀ (xs:List I3) (b:I3) (k:Nat),k<We xs b→ltB (xs.getD k (0,0,0)) b=true
 | [],_,k,h=>by simp [We] at h
 | x::xs,b,k,h=>by
  unfold We at h
  split at h
  ·rename_i hx
   match k,h with
   | 0,_=>simpa using hx
   | k+1,h=>rw [List.getD_cons_succ];exact QM xs b k (by omega)
  omega
theorem NJ:∀ (xs:List I3) (b:I3),We xs b<xs.length→ltB (xs.getD (We xs b) (0,0,0)) b=false
 | [],_,h=>by simp [We] at h
 | x::xs,b,h=>by
  unfold We at h ⊢
  split
  ·rename_i hx
   rw [if_pos hx] at h
   rw [List.getD_cons_succ]
   exact NJ xs b (by simpa using h)
  rename_i hx
  simpa using hx
theorem Q4:∀ (xs:List I3) (b:I3),YE xs b=if We xs b<xs.length∧xs.getD (We xs b) (0,0,0)=b then xs else (xs.take (We xs b)++[b])++xs.drop (We xs b)
 | [],b=>by simp [YE,We]
 | x::xs,b=>by
  have ih:=Q4 xs b
  unfold YE We
  split
  ·rename_i hx
   rw [ih]
   simp only [List.getD_cons_succ,List.length_cons,Nat.add_lt_add_iff_right,List.take_succ_cons,List.drop_succ_cons,List.cons_append]
   split<;>simp
  simp only [List.getD_cons_zero,List.length_cons,List.take_zero,List.drop_zero,List.nil_append,Nat.zero_lt_succ,true_and]
  split<;>simp

theorem WI {w:World} {b off len cap hi:Nat} {xs:List I3} (h:Zl w (some ⟨b,off,none⟩) len cap xs) (h2:hi≤len) :
  (∀ W,(Instr.slice 28 (.slice (some ⟨b,off,none⟩) len cap) none (some (.int .i64 (hi:Int))) none).run Tryz.prog W=.ok (.slice (some ⟨b,off,none⟩) hi cap) W)∧Zl w (some ⟨b,off,none⟩) hi cap (xs.take hi):=by
 obtain ⟨hl,hlc,hcm,hf,hcase⟩:=h
 have hhc:(hi:Int)≤(cap:Int):=by omega
 refine ⟨fun W=>?_,by rw [List.length_take];omega,by omega,by omega,fun x hx=>hf x (List.mem_of_mem_take hx),?_⟩
 ·go_simp
 rcases hcase with h0 | ⟨b',off',he,hb,hc⟩
 ·exact .inl (by omega)
 cases he
 refine .inr ⟨b,off,rfl,hb,fun t ht=>?_⟩
 have:=hc t (by omega)
 have e:(xs.take hi).getD t (0,0,0)=xs.getD t (0,0,0):=by simp [List.getD,List.getElem?_take,ht]
 rw [e]
 exact this
theorem H5 {w:World} {b off len cap lo:Nat} {xs:List I3} (h:Zl w (some ⟨b,off,none⟩) len cap xs) (h1:lo≤len) :
  ∃ o2,(∀ W,(Instr.slice 28 (.slice (some ⟨b,off,none⟩) len cap) (some (.int .i64 (lo:Int))) none none).run Tryz.prog W=.ok (.slice (some ⟨b,o2,none⟩) (len - lo) (cap - lo)) W)∧Zl w (some ⟨b,o2,none⟩) (len - lo) (cap - lo) (xs.drop lo):=by
 obtain ⟨hl,hlc,hcm,hf,hcase⟩:=h
 have hlh:(lo:Int)≤(len:Int):=by omega
 by_cases hz:cap - lo=0
 ·refine ⟨off,fun W=>?_,by rw [List.length_drop];omega,by omega,by omega,fun x hx=>hf x (List.mem_of_mem_drop hx),.inl (by omega)⟩
  go_simp
  omega
 refine ⟨off+lo*3,fun W=>?_,by rw [List.length_drop];omega,by omega,by omega,fun x hx=>hf x (List.mem_of_mem_drop hx),?_⟩
 ·go_simp
  omega
 rcases hcase with h0 | ⟨b',off',he,hb,hc⟩
 ·exact .inl (by omega)
 cases he
 refine .inr ⟨b,off+lo*3,rfl,hb,fun t ht=>?_⟩
 have:=hc (lo+t) (by omega)
 have e:(xs.drop lo).getD t (0,0,0)=xs.getD (lo+t) (0,0,0):=by simp [List.getD]
 rw [e,show off+lo*3+t*3=off+(lo+t)*3 by omega]
 exact this
theorem ZG {w:World} {b off len cap:Nat} {xs:List I3} (h:Zl w (some ⟨b,off,none⟩) len cap xs):∀ j u,(Zm xs)[j]?=some u→w.cell? ((⟨b,off,none⟩:Addr).add j)=some u:=by
 intro j u hj
 obtain ⟨hl,_,_,_,hcase⟩:=h
 have hjl:j<xs.length*3:=by
  have:=(List.getElem?_eq_some_iff.1 hj).1
  rwa [Zo] at this
 have hA:(⟨b,off,none⟩:Addr).add j=⟨b,off+j,none⟩:=by unfold Addr.add;split<;>simp_all
 rw [hA]
 rcases hcase with h0 | ⟨b',off',he,hb,hc⟩
 ·omega
 cases he
 have hq:j / 3<xs.length:=by omega
 obtain ⟨f0,f1,f2⟩:=Pv hq
 obtain ⟨c0,c1,c2⟩:=hc (j / 3) (by omega)
 have hr:j % 3=0∨j % 3=1∨j % 3=2:=by omega
 rcases hr with hr | hr | hr
 ·have e:j / 3*3=j:=by omega
  rw [e] at f0
  rw [f0] at hj
  cases hj
  rw [show off+j=off+j / 3*3 by omega]
  exact c0
 ·have e:j / 3*3+1=j:=by omega
  rw [e] at f1
  rw [f1] at hj
  cases hj
  rw [show off+j=off+j / 3*3+1 by omega]
  exact c1
 have e:j / 3*3+2=j:=by omega
 rw [e] at f2
 rw [f2] at hj
 cases hj
 rw [show off+j=off+j / 3*3+2 by omega]
 exact c2
theorem Z0 (xs:List I3):∀ u ∈ Zm xs,u.oneCell'=true:=by
 intro u hu
 obtain ⟨x,hx,hu⟩:=List.mem_flatMap.1 hu
 unfold I3.cells at hu
 simp at hu
 rcases hu with rfl | rfl | rfl<;>rfl
theorem Z9 (xs ys:List I3):Zm (xs++ys)=Zm xs++Zm ys:=by simp [Zm]


theorem MX {w:World} {ad:Addr} {n c:Nat} {xs:List I3} (h:Zl w (some ad) n c xs):∀ j u,(Zm xs)[j]?=some u→w.cell? (ad.add j)=some u:=by
 have h':=h
 obtain ⟨hl,_,_,_,hc⟩:=h
 rcases hc with h0 | ⟨b,off,ha,_⟩
 ·obtain rfl:xs=[]:=List.eq_nil_of_length_eq_zero (hl.trans h0)
  intro j u hj
  simp [Zm] at hj
 cases ha
 exact ZG h'
theorem Fz {w:World} {ad:Addr} {n c:Nat} {xs:List Int} (h:Z2 .i64 w (some ad) n c xs):∀ j u,(xs.map (Value.int .i64))[j]?=some u→w.cell? (ad.add j)=some u:=by
 have h':=h
 obtain ⟨hl,_,_,hc⟩:=h
 rcases hc with h0 | ⟨b,off,ha,_⟩
 ·obtain rfl:xs=[]:=List.eq_nil_of_length_eq_zero (hl.trans h0)
  intro j u hj
  simp at hj
 cases ha
 exact WN h'

theorem N3 {P:Program} {w:World} (base:Nat) (t ty e:TypeId) (i:TypeInfo) (z:Value) (size bytes:Nat) (ht:P.underlying t=some (.slice e)) (hi:P.info? e=some i) (hz:i.zero=some z)
  (hsize:i.size=size) (hby:i.bytes=bytes) (hzs:z.cells.size=size) (hsz:0<size)
  (v:Value) (n:Nat) (xs:List Value) (hown:w.ownsRow base e size v n xs)
  (a:Option Addr) (m c:Nat) (hno:a=none→m=0∧c=0) (news:List Value) (hl:news.length=m*size) (hnews:∀ ad,a=some ad→∀ j u,news[j]?=some u→w.cell? (ad.add j)=some u) (h1:∀ u ∈ news,u.oneCell'=true)
  (h63:n+m≤maxLen) (hbytes:(n+m)*bytes≤140737488355328) (hbase:base≤w.heap.size) :
  ∃ v' w',(Builtin.append_ #[t,t] ty #[v,.slice a m c]).run P w=.ok v' w'∧w'.ownsRow base e size v' (n+m) (xs++news)∧w.grownBy w' v.ownBlock∧(v'.ownBlock=v.ownBlock∨v'.ownBlock=some w.heap.size):=by
 cases a with
 | none =>
  obtain ⟨rfl,rfl⟩:=hno rfl
  obtain rfl:news=[]:=List.eq_nil_of_length_eq_zero (by rw [hl,Nat.zero_mul])
  exact ⟨v,w,run_append_owned_none (P:=P) (w:=w) base t ty e i size ht hi v n xs hown,by simpa using hown,⟨rfl,rfl,rfl,Nat.le_refl _,fun _ _ _=>rfl⟩,.inl rfl⟩
 | some ad =>
  obtain ⟨v',w',hrun,r1,r2,_,r4⟩:=run_append_own_at (P:=P) (w:=w) base t ty e i z size bytes ht hi hz hsize hby hzs hsz v n xs hown ad m c news hl (hnews ad rfl) h1 h63 hbytes hbase
  exact ⟨v',w',hrun,r1,r2,r4⟩
theorem Up {P:Program} {w:World} {ops:Array Oper} {rest:List Oper} {o:Oper} {act:Act} {Q:Exit→Act→World→Prop} (hgd:o.guard=none) (s x:Operand) (t:TypeId)
  (ho:o.op=.call { callee:=.builtin .append,args:=#[s,x],argTypes:=#[t,t] })
  (base:Nat) (e:TypeId) (i:TypeInfo) (z:Value) (size bytes:Nat) (ht:P.underlying t=some (.slice e)) (hi:P.info? e=some i) (hz:i.zero=some z)
  (hsize:i.size=size) (hby:i.bytes=bytes) (hzs:z.cells.size=size) (hsz:0<size)
  (v:Value) (n:Nat) (xs:List Value) (hs:act.eval s=v) (hown:w.ownsRow base e size v n xs)
  (a:Option Addr) (m c:Nat) (hx:act.eval x=.slice a m c) (hno:a=none→m=0∧c=0) (news:List Value) (hl:news.length=m*size) (hnews:∀ ad,a=some ad→∀ j u,news[j]?=some u→w.cell? (ad.add j)=some u) (h1:∀ u ∈ news,u.oneCell'=true)
  (h63:n+m≤maxLen) (hbytes:(n+m)*bytes≤140737488355328) (hbase:base≤w.heap.size)
  (h:∀ v' w',w'.ownsRow base e size v' (n+m) (xs++news)→w.grownBy w' v.ownBlock→(v'.ownBlock=v.ownBlock∨v'.ownBlock=some w.heap.size)→wpList P ops Q rest (act.put o.dst v') w'):wpList P ops Q (o::rest) act w:=by
 refine wpList_plain hgd fun K hK=>?_
 obtain ⟨v',w',hrun,r1,r2,r4⟩:=N3 (P:=P) (w:=w) base t o.type e i z size bytes ht hi hz hsize hby hzs hsz v n xs hown a m c hno news hl hnews h1 h63 hbytes hbase
 unfold Oper.wp
 simp [execOp,ho,resolve,invoke,builtin,hs,hx,hrun,Result.andThen]
 exact hK _ _ (h v' w' r1 r2 r4)
theorem ZN {P:Program} {ops:Array Oper} {o:Oper} {act:Act} {w:World} {K:Act→World→Prop} {Q:Exit→Act→World→Prop} {E:Prop}
  (hg:o.guard=none) (s x:Operand) (t:TypeId) (hop:o.op=Op.call { callee:=Callee.builtin Builtin.append,args:=#[s,x],argTypes:=#[t,t] })
  (base:Nat) (e:TypeId) (i:TypeInfo) (z:Value) (size bytes:Nat) (ht:P.underlying t=some (.slice e)) (hi:P.info? e=some i) (hz:i.zero=some z)
  (hsize:i.size=size) (hby:i.bytes=bytes) (hzs:z.cells.size=size) (hsz:0<size)
  (v:Value) (n:Nat) (xs:List Value) (hs:act.eval s=v) (hown:w.ownsRow base e size v n xs)
  (a:Option Addr) (m c:Nat) (hx:act.eval x=.slice a m c) (hno:a=none→m=0∧c=0) (news:List Value) (hl:news.length=m*size) (hnews:∀ ad,a=some ad→∀ j u,news[j]?=some u→w.cell? (ad.add j)=some u) (h1:∀ u ∈ news,u.oneCell'=true)
  (h63:n+m≤maxLen) (hbytes:(n+m)*bytes≤140737488355328) (hbase:base≤w.heap.size)
  (hK:∀ v' w',w'.ownsRow base e size v' (n+m) (xs++news)→w.grownBy w' v.ownBlock→(v'.ownBlock=v.ownBlock∨v'.ownBlock=some w.heap.size)→K (act.put o.dst v') w') :
  if Region.wanted o (yielded ops act.tmps)=true then Oper.wp P o act w K Q else E:=by
 have hw:Region.wanted o (yielded ops act.tmps)=true:=by simp [Region.wanted,hg]
 rw [if_pos hw]
 obtain ⟨v',w',hrun,r1,r2,r4⟩:=N3 (P:=P) (w:=w) base t o.type e i z size bytes ht hi hz hsize hby hzs hsz v n xs hown a m c hno news hl hnews h1 h63 hbytes hbase
 subst hs
 unfold Oper.wp
 simp [execOp,hop,resolve,invoke,builtin,hx,hrun,Result.andThen]
 exact hK v' w' r1 r2 r4

abbrev EQ:=E3 × Sl2
def ZQ (L:List EQ):List Value:=L.flatMap fun x=>Ya x.1.1 x.2
theorem Sp (L M:List EQ):ZQ (L++M)=ZQ L++ZQ M:=by simp [ZQ]
theorem ZO (L:List EQ):(ZQ L).length=L.length*3:=by
 induction L with
 | nil=>rfl
 | cons x L ih =>
  have:ZQ (x::L)=Ya x.1.1 x.2++ZQ L:=rfl
  rw [this,List.length_append,ih]
  simp [Ya]
  omega
theorem WL:∀ {L:List EQ} {t j:Nat} {x:EQ},L[t]?=some x→j<3→(ZQ L)[t*3+j]?=(Ya x.1.1 x.2)[j]?
 | [],t,j,x,h,_=>by simp at h
 | y::L,0,j,x,h,hj=>by
  simp at h
  subst h
  have:ZQ (y::L)=Ya y.1.1 y.2++ZQ L:=rfl
  rw [this,Nat.zero_mul,Nat.zero_add,List.getElem?_append_left (by simp [Ya];omega)]
 | y::L,t+1,j,x,h,hj=>by
  simp at h
  have:ZQ (y::L)=Ya y.1.1 y.2++ZQ L:=rfl
  rw [this,List.getElem?_append_right (by simp [Ya];omega)]
  rw [show (t+1)*3+j - (Ya y.1.1 y.2).length=t*3+j by simp [Ya];omega]
  exact WL h hj
theorem YZ (L:List EQ):∀ u ∈ ZQ L,u.oneCell'=true:=by
 intro u hu
 obtain ⟨x,_,hx⟩:=List.mem_flatMap.1 hu
 simp [Ya] at hx
 rcases hx with rfl | rfl | rfl<;>rfl
def Xv (w:World) (a:Option Addr) (n c:Nat) (L:List EQ):Prop:=
 L.length=n∧n≤c∧c≤maxLen∧(∀ x ∈ L,Z1 w x.2 x.1)∧(n=0∨∃ b off,a=some ⟨b,off,none⟩∧b<w.heap.size∧∀ j u,(ZQ L)[j]?=some u→w.cell? ⟨b,off+j,none⟩=some u)
theorem Xv.below {w w':World} {a:Option Addr} {n c:Nat} {L:List EQ} (h:Xv w a n c L) (hb:Below w.heap.size w w'):Xv w' a n c L:=by
 obtain ⟨h1,h2,h3,h4,h5⟩:=h
 refine ⟨h1,h2,h3,fun x hx=>(h4 x hx).below hb,?_⟩
 rcases h5 with h0 | ⟨b,off,ha,hlt,hc⟩
 ·exact .inl h0
 exact .inr ⟨b,off,ha,by have:=hb.size;omega,fun j u hj=>by rw [hb.cell (p:=⟨b,_,none⟩) hlt];exact hc j u hj⟩
theorem KD {L:List EQ} {t:Nat} {x:EQ} (h:L[t]?=some x):(L.map (·.1)).getD t e3d=x.1:=by simp [List.getD,List.getElem?_map,h]
theorem Xv.ents {w:World} {a:Option Addr} {n c:Nat} {L:List EQ} (h:Xv w a n c L):Yo w a n c (L.map (·.1)):=by
 obtain ⟨h1,h2,h3,h4,h5⟩:=h
 refine ⟨by simpa using h1,h2,h3,?_⟩
 rcases h5 with h0 | ⟨b,off,ha,hlt,hc⟩
 ·exact .inl h0
 refine .inr ⟨b,off,ha,hlt,fun t ht=>?_⟩
 have hx:L[t]?=some L[t]:=List.getElem?_eq_getElem (by omega)
 rw [KD hx]
 refine ⟨L[t].2,?_,?_,?_,h4 _ (List.getElem_mem _)⟩
 ·exact hc _ _ (by have:=WL hx (j:=0) (by omega);rw [Nat.add_zero] at this;rw [this];rfl)
 ·rw [Nat.add_assoc];exact hc _ _ (by rw [WL hx (j:=1) (by omega)];rfl)
 rw [Nat.add_assoc];exact hc _ _ (by rw [WL hx (j:=2) (by omega)];rfl)
theorem Rh:∀ {L:List EQ} {j:Nat} {u:Value},(ZQ L)[j]?=some u→∃ t i x,j=t*3+i∧i<3∧L[t]?=some x∧(Ya x.1.1 x.2)[i]?=some u:=by
 intro L j u hj
 have hl:j<L.length*3:=by
  rw [← ZO]
  exact (List.getElem?_eq_some_iff.1 hj).1
 have hx:L[j / 3]?=some (L[j / 3]'(by omega)):=List.getElem?_eq_getElem (by omega)
 refine ⟨j / 3,j % 3,_,by omega,by omega,hx,?_⟩
 rw [← WL hx (by omega),show j / 3*3+j % 3=j by omega]
 exact hj
theorem Yo.q {w:World} {a:Option Addr} {n c:Nat} {es:List E3} (h:Yo w a n c es):∃ L:List EQ,L.map (·.1)=es∧Xv w a n c L:=by
 obtain ⟨h1,h2,h3,h4⟩:=h
 rcases h4 with h0 | ⟨b,off,ha,hlt,hc⟩
 ·obtain rfl:es=[]:=List.eq_nil_of_length_eq_zero (h1.trans h0)
  exact ⟨[],rfl,by simpa using h1,h2,h3,by simp,.inl h0⟩
 obtain ⟨Y,hY⟩:=Go.Deep.choose_lt (α:=Sl2) (n:=n) hc
 have hat:∀ t,t<n→((List.range n).map fun i=>((es.getD i e3d,Y i):EQ))[t]?=some (es.getD t e3d,Y t):=fun t ht=>by simp [List.getElem?_map,List.getElem?_range ht]
 refine ⟨(List.range n).map fun i=>(es.getD i e3d,Y i),?_,by simp,h2,h3,?_,.inr ⟨b,off,ha,hlt,fun j u hj=>?_⟩⟩
 ·apply List.ext_getElem?
  intro t
  by_cases ht:t<n
  ·rw [List.getElem?_map,hat t ht]
   simp [List.getD,List.getElem?_eq_getElem (show t<es.length by omega)]
  rw [List.getElem?_eq_none (by simp;omega),List.getElem?_eq_none (by omega)]
 ·intro x hx
  obtain ⟨i,hi,rfl⟩:=List.mem_map.1 hx
  exact (hY i (List.mem_range.1 hi)).2.2.2
 obtain ⟨t,i,x,rfl,hi,hx,hu⟩:=Rh hj
 have ht:t<n:=by
  have:=(List.getElem?_eq_some_iff.1 hx).1
  simpa using this
 rw [hat t ht] at hx
 cases hx
 obtain ⟨c0,c1,c2,_⟩:=hY t ht
 match i,hi with
 | 0,_=>simp [Ya] at hu;rw [← hu];exact c0
 | 1,_=>simp [Ya] at hu;rw [← hu,← Nat.add_assoc];exact c1
 | 2,_=>simp [Ya] at hu;rw [← hu,← Nat.add_assoc];exact c2
theorem Xv.of_owns {w:World} {B:Nat} {a:Option Addr} {n c:Nat} {L:List EQ} (h:w.ownsRow B 45 3 (.slice a n c) n (ZQ L)) (hm:∀ x ∈ L,Z1 w x.2 x.1):Xv w a n c L:=by
 have hl:=h.1
 rw [ZO] at hl
 have hl2:L.length=n:=by omega
 rcases h.2 with ⟨hv,h0⟩ | ⟨g,cap,cur,hv,_,hg,hn,hcm,_,_⟩
 ·injection hv with e1 e2 e3
  exact ⟨hl2,by omega,by unfold maxLen;omega,hm,.inl h0⟩
 injection hv with e1 e2 e3
 subst e1 e3
 refine ⟨hl2,hn,hcm,hm,.inr ⟨g,0,rfl,(h.lt g rfl).2,fun j u hj=>?_⟩⟩
 have hjl:j<n*3:=by
  have:=(List.getElem?_eq_some_iff.1 hj).1
  rw [ZO] at this
  omega
 rw [Nat.zero_add,h.cellAt j hjl]
 exact hj
theorem Xv.news {w:World} {ad:Addr} {n c:Nat} {L:List EQ} (h:Xv w (some ad) n c L):∀ j u,(ZQ L)[j]?=some u→w.cell? (ad.add j)=some u:=by
 obtain ⟨h1,_,_,_,h5⟩:=h
 intro j u hj
 rcases h5 with h0 | ⟨b,off,ha,_,hc⟩
 ·obtain rfl:L=[]:=List.eq_nil_of_length_eq_zero (h1.trans h0)
  simp [ZQ] at hj
 cases ha
 have e:(⟨b,off,none⟩:Addr).add j=⟨b,off+j,none⟩:=by unfold Addr.add;split<;>simp_all
 rw [e]
 exact hc j u hj


theorem Xk {n c m:Nat} {a:Option Addr} {P:Prop} (hz:a=none→c=0) (h:n≤c):a=none→n=0∧c=0:=fun ha=>⟨by have:=hz ha;omega,hz ha⟩

open Go.Op

def ltS (a b:ByteArray):Bool:=bytesLess a.toList b.toList
theorem QA:∀ l:List UInt8,bytesLess l l=false
 | []=>rfl
 | a::l=>by
  have:=QA l
  simp [bytesLess,this]
theorem SV {x y:UInt8} {a b:List UInt8}:bytesLess (x::a) (y::b)=true↔x<y∨(x=y∧bytesLess a b=true):=by
 simp [bytesLess]
theorem P9:∀ {a b c:List UInt8},bytesLess a b=true→bytesLess b c=true→bytesLess a c=true
 | _,[],_,h,_=>by simp [bytesLess] at h
 | _,_::_,[],_,k=>by simp [bytesLess] at k
 | [],_::_,_::_,_,_=>by simp [bytesLess]
 | x::a,y::b,z::c,h,k=>by
  rw [SV] at h k ⊢
  rcases h with h | ⟨rfl,h⟩
  ·rcases k with k | ⟨rfl,k⟩
   ·exact .inl (UInt8.lt_trans h k)
   exact .inl h
  rcases k with k | ⟨rfl,k⟩
  ·exact .inl k
  exact .inr ⟨rfl,P9 h k⟩
theorem P8:∀ {a b:List UInt8},bytesLess a b=false→bytesLess b a=false→a=b
 | [],[],_,_=>rfl
 | [],_::_,h,_=>by simp [bytesLess] at h
 | _::_,[],_,k=>by simp [bytesLess] at k
 | x::a,y::b,h,k=>by
  have h1:¬ (x<y∨(x=y∧bytesLess a b=true)):=fun e=>by rw [SV.2 e] at h;cases h
  have k1:¬ (y<x∨(y=x∧bytesLess b a=true)):=fun e=>by rw [SV.2 e] at k;cases k
  have hxy:x=y:=UInt8.le_antisymm (UInt8.not_lt.1 fun e=>k1 (.inl e)) (UInt8.not_lt.1 fun e=>h1 (.inl e))
  subst hxy
  have h2:bytesLess a b=false:=by cases e:bytesLess a b<;>simp_all
  have k2:bytesLess b a=false:=by cases e:bytesLess b a<;>simp_all
  rw [P8 h2 k2]
theorem WF (a:ByteArray):ltS a a=false:=QA _
theorem XN {a b c:ByteArray} (h:ltS a b=true) (k:ltS b c=true):ltS a c=true:=P9 h k
theorem WP {a b:ByteArray} (h:a.toList=b.toList):a=b:=by
 have h1:a.data.toList=b.data.toList:=by
  rw [← Go.ByteArray.toList_eq a,← Go.ByteArray.toList_eq b]
  exact h
 cases a
 cases b
 simp at h1
 rw [h1]
theorem QQ {a b:ByteArray} (h:ltS a b=false) (k:ltS b a=false):a=b:=WP (P8 h k)


def Xw (n a b:Int):Bool:=decide (a≤n∧n≤b)
theorem YH {n a b:Int}:Xw n a b=true↔a≤n∧n≤b:=by simp [Xw]
theorem XL {n a b:Int}:Xw n a b=false↔¬ (a≤n∧n≤b):=by simp only [Xw,decide_eq_false_iff_not]
theorem Fw (n a b:Int) (w:World):Calls Tryz.prog 117 #[.int .i64 n,.int .i64 a,.int .i64 b] w fun e w'=>e=.returned (.bool (Xw n a b))∧w=w':=by
 cases h:Xw n a b
 ·exact Tp n a b w (XL.1 h)
 exact Uw n a b w (YH.1 h)

theorem QJ (n:Int) (w:World):Calls Tryz.prog 149 #[.int .i64 n] w fun e w'=>e=.returned (.bool (Xw n 0 2))∧w=w':=by
 cases h:Xw n 0 2
 ·rw [XL] at h
  by_cases h1:0≤n
  ·have h2:decide (n<3)=false:=by simp;omega
   clear h
   go_enter Tryz.func149,Tryz.ntmps149
   go_wp2
   go_ret
   exact ⟨rfl,rfl⟩
  clear h
  go_enter Tryz.func149,Tryz.ntmps149
  go_wp2
  go_ret
  exact ⟨rfl,rfl⟩
 rw [YH] at h
 obtain ⟨h1,h3⟩:=h
 have h2:decide (n<3)=true:=by simp;omega
 clear h3
 go_enter Tryz.func149,Tryz.ntmps149
 go_wp2
 go_ret
 exact ⟨by simp_all,rfl⟩

theorem Nx (n:Int) (w:World):Calls Tryz.prog 150 #[.int .i64 n] w fun e w'=>e=.returned (.bool (Xw n 0 6))∧w=w':=by
 cases h:Xw n 0 6
 ·rw [XL] at h
  by_cases h1:0≤n
  ·have h2:decide (n≤6)=false:=by simp;omega
   clear h
   go_enter Tryz.func150,Tryz.ntmps150
   go_wp2
   go_ret
   exact ⟨rfl,rfl⟩
  clear h
  go_enter Tryz.func150,Tryz.ntmps150
  go_wp2
  go_ret
  exact ⟨rfl,rfl⟩
 rw [YH] at h
 obtain ⟨h1,h3⟩:=h
 have h2:decide (n≤6)=true:=by simp;omega
 clear h3
 go_enter Tryz.func150,Tryz.ntmps150
 go_wp2
 go_ret
 exact ⟨by simp_all,rfl⟩

def LK (k pc:Int):Value:=if Xw k 0 2=true∧Xw pc 0 6=true then .tuple #[.int .i64 (8*k+pc),.int .i64 0] else .tuple #[.int .i64 0,.int .i64 4]
theorem Uu {k pc:Int} (h1:Xw k 0 2=true) (h2:Xw pc 0 6=true):LK k pc=.tuple #[.int .i64 (8*k+pc),.int .i64 0]:=if_pos ⟨h1,h2⟩
theorem KS {k pc:Int} (h1:Xw k 0 2=false):LK k pc=.tuple #[.int .i64 0,.int .i64 4]:=if_neg (by rw [h1];simp)
theorem KT {k pc:Int} (h2:Xw pc 0 6=false):LK k pc=.tuple #[.int .i64 0,.int .i64 4]:=if_neg (by rw [h2];simp)

theorem WT (k pc:Int) (w:World):Calls Tryz.prog 101 #[.int .i64 k,.int .i64 pc] w fun e w'=>e=.returned (LK k pc)∧w=w':=by
 have kT:=QJ k
 have kP:=Nx pc
 cases hA:Xw k 0 2
 ·rw [KS hA]
  rw [hA] at kT
  clear hA
  go_enter Tryz.func101,Tryz.ntmps101
  go_wp2_with fail
  refine (kT _).mono ?_
  rintro e w1 ⟨rfl,rfl⟩
  go_wp2
  go_ret2
  exact ⟨rfl,rfl⟩
 cases hB:Xw pc 0 6
 ·rw [KT hB]
  rw [hA] at kT
  rw [hB] at kP
  clear hA hB
  go_enter Tryz.func101,Tryz.ntmps101
  go_wp2_with fail
  refine (kT _).mono ?_
  rintro e w1 ⟨rfl,rfl⟩
  go_wp2_with fail
  refine (kP _).mono ?_
  rintro e w1 ⟨rfl,rfl⟩
  go_wp2
  go_ret2
  exact ⟨rfl,rfl⟩
 rw [Uu hA hB]
 rw [hA] at kT
 rw [hB] at kP
 obtain ⟨a1,a2⟩:=YH.1 hA
 obtain ⟨b1,b2⟩:=YH.1 hB
 clear hA hB
 have q1:IntKind.i64.wrap (8*k)=8*k:=by rw [IntKind.wrap_i64];omega
 have q2:IntKind.i64.wrap (8*k+pc)=8*k+pc:=by rw [IntKind.wrap_i64];omega
 go_enter Tryz.func101,Tryz.ntmps101
 go_wp2_with fail
 refine (kT _).mono ?_
 rintro e w1 ⟨rfl,rfl⟩
 go_wp2_with fail
 refine (kP _).mono ?_
 rintro e w1 ⟨rfl,rfl⟩
 go_wp2
 go_ret2
 exact ⟨rfl,rfl⟩

theorem MN (k pc:Int) (w:World) (h1:Xw k 0 2=true) (h2:Xw pc 0 6=true):Calls Tryz.prog 205 #[.int .i64 k,.int .i64 pc] w fun e w'=>e=.returned (.int .i64 (8*k+pc))∧w=w':=by
 obtain ⟨a1,a2⟩:=YH.1 h1
 obtain ⟨b1,b2⟩:=YH.1 h2
 clear h1 h2
 have q1:IntKind.i64.wrap (8*k)=8*k:=by rw [IntKind.wrap_i64];omega
 have q2:IntKind.i64.wrap (8*k+pc)=8*k+pc:=by rw [IntKind.wrap_i64];omega
 go_enter Tryz.func205,Tryz.ntmps205
 go_wp2
 go_ret
 exact ⟨rfl,rfl⟩

def Y7 (n:Int):Bool:=decide (0≤n∧n≤22∧n % 8≤6)
def atV (n:Int):Value:=if Y7 n=true then .tuple #[.int .i64 (n / 8),.int .i64 (n % 8),.int .i64 0] else .tuple #[.int .i64 0,.int .i64 0,.int .i64 4]
theorem LC {n:Int} (h:Y7 n=true):atV n=.tuple #[.int .i64 (n / 8),.int .i64 (n % 8),.int .i64 0]:=if_pos h
theorem My {n:Int} (h:Y7 n=false):atV n=.tuple #[.int .i64 0,.int .i64 0,.int .i64 4]:=if_neg (by rw [h];simp)

theorem FL (n:Int) (h:-9223372036854775808≤n∧n≤9223372036854775807):∃ q r:Int,n.tdiv 8=q∧n.tmod 8=r∧IntKind.i64.wrap q=q∧IntKind.i64.wrap r=r∧Y7 n=(Xw q 0 2 && Xw r 0 6)∧(Y7 n=true→q=n / 8∧r=n % 8)∧(0≤n→q=n / 8∧r=n % 8):=by
 rcases Int.lt_or_le n 0 with hn | hn
 ·have e1:n.tdiv 8=- ((-n) / 8):=by
   have:n=- (- n):=by omega
   rw [this,Int.neg_tdiv,Int.tdiv_eq_ediv_of_nonneg (by omega)];omega
  have e2:n.tmod 8=- ((-n) % 8):=by
   have:n=- (- n):=by omega
   rw [this,Int.neg_tmod,Int.tmod_eq_emod_of_nonneg (by omega)];omega
  refine ⟨_,_,e1,e2,by rw [IntKind.wrap_i64];omega,by rw [IntKind.wrap_i64];omega,?_,?_,by omega⟩
  ·have hz:Y7 n=false:=by simp only [Y7,decide_eq_false_iff_not];omega
   rw [hz]
   symm
   rw [Bool.and_eq_false_iff]
   rcases Int.lt_or_le ((-n) / 8) 1 with h1 | h1
   ·right;rw [XL];omega
   left;rw [XL];omega
  intro hz
  simp only [Y7,decide_eq_true_eq] at hz
  omega
 have e1:n.tdiv 8=n / 8:=Int.tdiv_eq_ediv_of_nonneg hn
 have e2:n.tmod 8=n % 8:=Int.tmod_eq_emod_of_nonneg hn
 refine ⟨_,_,e1,e2,by rw [IntKind.wrap_i64];omega,by rw [IntKind.wrap_i64];omega,?_,fun _=>⟨rfl,rfl⟩,fun _=>⟨rfl,rfl⟩⟩
 rw [Bool.eq_iff_iff,Bool.and_eq_true,YH,YH]
 simp only [Y7,decide_eq_true_eq]
 omega

theorem Qm (n:Int) (hn:-9223372036854775808≤n∧n≤9223372036854775807) (w:World):Calls Tryz.prog 153 #[.int .i64 n] w fun e w'=>e=.returned (atV n)∧w=w':=by
 obtain ⟨q,r,e1,e2,u1,u2,hOk,hYes,_⟩:=FL n hn
 clear hn
 have kT:=QJ q
 have kP:=Nx r
 cases hA:Xw q 0 2
 ·rw [My (by rw [hOk,hA];rfl)]
  rw [hA] at kT
  clear hA hOk hYes
  go_enter Tryz.func153,Tryz.ntmps153
  go_wp2_with fail
  refine (kT _).mono ?_
  rintro e w1 ⟨rfl,rfl⟩
  go_wp2
  go_ret3
  exact ⟨rfl,rfl⟩
 cases hB:Xw r 0 6
 ·rw [My (by rw [hOk,hA,hB];rfl)]
  rw [hA] at kT
  rw [hB] at kP
  clear hA hB hOk hYes
  go_enter Tryz.func153,Tryz.ntmps153
  go_wp2_with fail
  refine (kT _).mono ?_
  rintro e w1 ⟨rfl,rfl⟩
  go_wp2_with fail
  refine (kP _).mono ?_
  rintro e w1 ⟨rfl,rfl⟩
  go_wp2
  go_ret3
  exact ⟨rfl,rfl⟩
 have hz:Y7 n=true:=by rw [hOk,hA,hB];rfl
 rw [LC hz]
 obtain ⟨f1,f2⟩:=hYes hz
 rw [hA] at kT
 rw [hB] at kP
 rw [← f1,← f2]
 clear hA hB hOk hYes hz f1 f2
 go_enter Tryz.func153,Tryz.ntmps153
 go_wp2_with fail
 refine (kT _).mono ?_
 rintro e w1 ⟨rfl,rfl⟩
 go_wp2_with fail
 refine (kP _).mono ?_
 rintro e w1 ⟨rfl,rfl⟩
 go_wp2
 go_ret3
 exact ⟨rfl,rfl⟩

theorem Tq (n:Int) (hn:-9223372036854775808≤n∧n≤9223372036854775807) (w:World):Calls Tryz.prog 106 #[.int .i64 n] w fun e w'=>e=.returned (.bool (Y7 n))∧w=w':=by
 rcases Int.lt_or_le n 0 with h0 | h0
 ·have hz:Y7 n=false:=by simp only [Y7,decide_eq_false_iff_not];omega
  rw [hz]
  clear hz hn
  have g0:decide (0≤n)=false:=by simp;omega
  go_enter Tryz.func106,Tryz.ntmps106
  go_wp2
  go_ret
  exact ⟨rfl,rfl⟩
 obtain ⟨q,r,e1,e2,u1,u2,hOk,_,hPos⟩:=FL n hn
 clear hn
 have hr0:0≤r:=by have:=(hPos h0).2;omega
 have kT:=Fw q 0 2
 rw [hOk]
 cases hA:Xw q 0 2
 ·rw [hA] at kT
  clear hA hOk hPos
  go_enter Tryz.func106,Tryz.ntmps106
  go_wp2_with fail
  refine (kT _).mono ?_
  rintro e w1 ⟨rfl,rfl⟩
  go_wp2
  go_ret
  exact ⟨rfl,rfl⟩
 rw [hA] at kT
 cases hB:Xw r 0 6
 ·have h2:decide (r≤6)=false:=by have:=XL.1 hB;simp;omega
  clear hA hB hOk hPos
  go_enter Tryz.func106,Tryz.ntmps106
  go_wp2_with fail
  refine (kT _).mono ?_
  rintro e w1 ⟨rfl,rfl⟩
  go_wp2
  go_ret
  exact ⟨rfl,rfl⟩
 have h2:decide (r≤6)=true:=by have:=YH.1 hB;simp;omega
 clear hA hB hOk hPos
 go_enter Tryz.func106,Tryz.ntmps106
 go_wp2_with fail
 refine (kT _).mono ?_
 rintro e w1 ⟨rfl,rfl⟩
 go_wp2
 go_ret
 exact ⟨by simp_all,rfl⟩

theorem KR (n:Int) (hn:-9223372036854775808≤n∧n≤9223372036854775807) (w:World):Calls Tryz.prog 103 #[.int .i64 n] w fun e w'=>e=.returned (.bool (Y7 n))∧w=w':=by
 have kO:=Qm n hn
 clear hn
 cases hA:Y7 n
 ·rw [My hA] at kO
  clear hA
  go_enter Tryz.func103,Tryz.ntmps103
  go_wp2_with fail
  refine (kO _).mono ?_
  rintro e w1 ⟨rfl,rfl⟩
  go_wp2
  go_ret
  exact ⟨rfl,rfl⟩
 rw [LC hA] at kO
 clear hA
 go_enter Tryz.func103,Tryz.ntmps103
 go_wp2_with fail
 refine (kO _).mono ?_
 rintro e w1 ⟨rfl,rfl⟩
 go_wp2
 go_ret
 exact ⟨rfl,rfl⟩

theorem Rt {n:Int} (h:(Lit.int .i64 n).wf=true):-9223372036854775808≤n∧n≤9223372036854775807:=by
 have h1:IntKind.i64.min=-9223372036854775808:=by decide
 have h2:IntKind.i64.max=9223372036854775807:=by decide
 simp [Lit.wf,h1,h2] at h
 omega
end Go.Proofs.YtnffeclgboomoaaGreatDoor
