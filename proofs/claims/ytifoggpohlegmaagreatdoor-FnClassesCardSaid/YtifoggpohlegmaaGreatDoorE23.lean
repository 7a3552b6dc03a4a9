/-
  Joined: StepPl, RunPl, RunQ, VmDraw, MrgB.
-/
import Derived.Test.YtifoggpohlegmaaGreatDoorE13
import Derived.Test.YtifoggpohlegmaaGreatDoorE22

namespace Go.Proofs.YtifoggpohlegmaaGreatDoor
set_option maxRecDepth 100000
set_option maxHeartbeats 16000000
open Go.RowKit
set_option linter.unusedVariables false

theorem XH {l:List Int} {k i:Nat} {v:Int} (h:i≠k):(l.set k v).getD i 0=l.getD i 0:=by
 simp [List.getD,List.getElem?_set_ne (Ne.symm h)]
theorem XL (m:V4) (x:I3) {k i:Nat} (h:i≠k):(ZG m x k).1.1.getD i 0=m.1.getD i 0:=by
 unfold ZG
 repeat' split
 all_goals exact XH h

theorem TI {n:Nat}:∀ (xs:List I3) (j i:Nat),Z3 n j xs=true→i<xs.length→Wt (xs.getD i (0,0,0)) ((j:Int)+(i:Int)) (n:Int)=true
 | [],_,_,_,h=>by simp at h
 | x::xs,j,i,h,hi=>by
  have h':=h
  simp only [Z3,Bool.and_eq_true] at h'
  match i,hi with
  | 0,_ =>
   have:=h'.1.2
   simpa using this
  | i+1,hi =>
   have:=TI xs (j+1) i h'.2 (by simpa using hi)
   rw [List.getD_cons_succ]
   have e:((j+1:Nat):Int)+(i:Int)=(j:Int)+((i+1:Nat):Int):=by omega
   rw [e] at this
   exact this
theorem Kw {rows:List (List I3)} {m:V4} (hp:Zn rows=true) (hs:Zk m=true) {k:Nat} (hk:k<3) (hd:Z2 rows m k=false) (h7:(Ys rows m k).1=7):m.1.getD k 0<(Ys rows m k).2.2:=by
 obtain ⟨p,ep,hlt,hi,hok⟩:=X4 hp hs hk hd
 have hrow:ZO (Yn rows k)=true:=by
  unfold Zn at hp
  simp only [Bool.and_eq_true,decide_eq_true_eq,List.all_eq_true] at hp
  refine hp.2 _ ?_
  have hk':k<rows.length:=by have:=hp.1;omega
  unfold Yn
  rw [List.getD,List.getElem?_eq_getElem hk',Option.getD_some]
  exact List.getElem_mem hk'
 unfold ZO at hrow
 simp only [Bool.and_eq_true] at hrow
 have hl:=TI _ 0 p hrow.2 hlt
 rw [← hi] at hl
 unfold Wt at hl
 rw [if_pos h7,ZE] at hl
 omega
theorem SK {l:List Int} {k:Nat} {v:Int} (h:k<l.length):(l.set k v).getD k 0=v:=by
 simp [List.getD,List.getElem?_set_self h]
theorem Pi {rows:List (List I3)} {m:V4} (hp:Zn rows=true) (hs:Zk m=true) {k:Nat} (hk:k<3) (hd:Z2 rows m k=false):m.1.getD k 0<(ZG m (Ys rows m k) k).1.1.getD k 0:=by
 have hl:=Kw hp hs hk hd
 have hk':k<m.1.length:=by have:=(ZV hs).1;omega
 generalize Ys rows m k=x at hl
 have e1:=SK (l:=m.1) (v:=m.1.getD k 0+1) hk'
 unfold ZG
 repeat' split
 all_goals first
  | (simp only [e1];omega)
  | (have:=hl (by assumption);simp only [SK hk'];omega)

theorem TG {rows:List (List I3)} {m:V4} {k:Nat}:∀ n,((k:Int) ∈ Zj rows m n)↔k<n∧YC rows m k=true
 | 0=>by simp [Zj]
 | n+1=>by
  have ih:=TG (rows:=rows) (m:=m) (k:=k) n
  unfold Zj
  split
  ·rename_i h
   simp only [List.mem_append,List.mem_singleton,ih]
   constructor
   ·rintro (⟨h1,h2⟩ | h1)
    ·exact ⟨by omega,h2⟩
    obtain rfl:k=n:=by omega
    exact ⟨by omega,h⟩
   rintro ⟨h1,h2⟩
   by_cases e:k=n
   ·exact .inr (by omega)
   exact .inl ⟨by omega,h2⟩
  rename_i h
  rw [ih]
  constructor
  ·rintro ⟨h1,h2⟩
   exact ⟨by omega,h2⟩
  rintro ⟨h1,h2⟩
  refine ⟨?_,h2⟩
  by_cases e:k=n
  ·subst e
   exact absurd h2 h
  omega
theorem GU {rows:List (List I3)} {m:V4} {i:Nat} (hi:i<(Zj rows m 3).length):∃ k:Nat,(Zj rows m 3).getD i 0=k∧k<3∧YC rows m k=true:=by
 have hm:(Zj rows m 3)[i] ∈ Zj rows m 3:=List.getElem_mem hi
 have hall:∀ n,∀ z ∈ Zj rows m n,∃ k:Nat,z=k:=by
  intro n
  induction n with
  | zero=>intro z hz;simp [Zj] at hz
  | succ n ih =>
   intro z hz
   unfold Zj at hz
   split at hz
   ·rcases List.mem_append.1 hz with h | h
    ·exact ih z h
    exact ⟨n,by simpa using h⟩
   exact ih z hz
 obtain ⟨k,hk⟩:=hall 3 _ hm
 rw [hk] at hm
 obtain ⟨h1,h2⟩:=(TG 3).1 hm
 refine ⟨k,?_,h1,h2⟩
 rw [List.getD,List.getElem?_eq_getElem hi,Option.getD_some,hk]


def Zx (rows:List (List I3)) (m:V4) (k:Int):Int:=
 if 0≤k∧k≤2 then (if Z2 rows m k.toNat then 10 else if YC rows m k.toNat then 0 else 11) else 4
def goM (rows:List (List I3)) (m:V4) (k:Int):V4 × Int:=ZG m (Ys rows m k.toNat) k.toNat
def Yt (rows:List (List I3)) (m:V4) (k:Int):List I3:=if (goM rows m k).2=0 then [] else [((goM rows m k).2,k,m.1.getD k.toNat 0)]
def XW (rows:List (List I3)) (m:V4):List I3:=if Xk rows m then [(14,0,0)] else []
def X7 (rows:List (List I3)) (m:V4) (k:Int):List I3:=if Xk rows (goM rows m k).1 then YO (Yt rows m k) (14,0,0) else Yt rows m k

def ZH (rows:List (List I3)):V4→List I3→List Int→V4 × List I3 × Int
 | m,fs,[]=>(m,fs,0)
 | m,fs,k::ks=>if Zx rows m k=0 then ZH rows (goM rows m k).1 (fs++Yt rows m k) ks else (m,fs,Zx rows m k)
def VU (rows:List (List I3)):V4→List I3→List Int→V4 × List I3 × Int
 | m,out,[]=>(m,out,0)
 | m,out,k::ks=>if Zx rows m k=0 then VU rows (goM rows m k).1 (Yg out (X7 rows m k)) ks else (m,out,Zx rows m k)

theorem ZY {rows:List (List I3)} {m:V4} {k:Int} (h:Zx rows m k=0):0≤k∧k≤2∧Z2 rows m k.toNat=false∧YC rows m k.toNat=true:=by
 unfold Zx at h
 split at h
 ·rename_i hk
  cases hd:Z2 rows m k.toNat
  ·cases hc:YC rows m k.toNat
   ·rw [hd,hc] at h;simp at h
   exact ⟨hk.1,hk.2,rfl,rfl⟩
  rw [hd] at h;simp at h
 cases h
theorem UO {rows:List (List I3)} {m:V4} {k:Nat} (hk:k<3) (h:YC rows m k=true):Xk rows m=false:=by
 have hm:(k:Int) ∈ Zj rows m 3:=(TG 3).2 ⟨hk,h⟩
 unfold Xk
 have hne:¬ (Zj rows m 3=[]):=fun e=>by rw [e] at hm;simp at hm
 simp [hne]
theorem K0 {rows:List (List I3)} {m:V4} {k:Int} {x:I3}:x ∈ X7 rows m k↔x ∈ Yt rows m k∨x ∈ XW rows (goM rows m k).1:=by
 unfold X7 XW
 cases Xk rows (goM rows m k).1
 ·simp
 simp only [if_true,Wm,List.mem_singleton]
theorem Mf {rows:List (List I3)}:∀ (ks:List Int) (m:V4) (fs out:List I3),out=Yg fs (XW rows m) →
  (VU rows m out ks).1=(ZH rows m fs ks).1∧(VU rows m out ks).2.2=(ZH rows m fs ks).2.2∧(VU rows m out ks).2.1=Yg (ZH rows m fs ks).2.1 (XW rows (ZH rows m fs ks).1)
 | [],m,fs,out,h=>⟨rfl,rfl,h⟩
 | k::ks,m,fs,out,h=>by
  by_cases hz:Zx rows m k=0
  ·obtain ⟨h0,h2,_,hc⟩:=ZY hz
   have hst:=UO (rows:=rows) (m:=m) (k:=k.toNat) (by omega) hc
   have hd:XW rows m=[]:=by unfold XW;rw [hst];rfl
   have e1:VU rows m out (k::ks)=VU rows (goM rows m k).1 (Yg out (X7 rows m k)) ks:=by
    show (if Zx rows m k=0 then _ else _)=_
    rw [if_pos hz]
   have e2:ZH rows m fs (k::ks)=ZH rows (goM rows m k).1 (fs++Yt rows m k) ks:=by
    show (if Zx rows m k=0 then _ else _)=_
    rw [if_pos hz]
   rw [e1,e2]
   refine Mf ks _ _ _ ((VO _ _).same (VO _ _) fun x=>?_)
   rw [WT,WT,h,WT,hd,K0,List.mem_append]
   simp only [List.not_mem_nil,or_false,or_assoc]
  have e1:VU rows m out (k::ks)=(m,out,Zx rows m k):=by
   show (if Zx rows m k=0 then _ else _)=_
   rw [if_neg hz]
  have e2:ZH rows m fs (k::ks)=(m,fs,Zx rows m k):=by
   show (if Zx rows m k=0 then _ else _)=_
   rw [if_neg hz]
  rw [e1,e2]
  exact ⟨rfl,rfl,h⟩


theorem Lc (m:V4) (x:I3) (k:Nat):(ZG m x k).2=0∨(ZG m x k).2=12∨(ZG m x k).2=13:=by
 unfold ZG
 repeat' split
 all_goals simp
theorem LD {rows:List (List I3)} {m:V4} {k:Int} (hp:Zn rows=true) (hs:Zk m=true) (hz:Zx rows m k=0):∀ x ∈ Yt rows m k,okB x=true:=by
 obtain ⟨h0,h2,hd,hc⟩:=ZY hz
 obtain ⟨q,rfl⟩:∃ q:Nat,k=q:=⟨k.toNat,by omega⟩
 rw [Int.toNat_natCast] at hd
 have hq:q<3:=by omega
 obtain ⟨p,ep,hlt,_,_⟩:=X4 hp hs hq hd
 have hl6:=(WD hp hq).1
 have hf:=Lc m (Ys rows m q) q
 intro x hx
 unfold Yt goM at hx
 rw [Int.toNat_natCast] at hx
 split at hx
 ·simp at hx
 rename_i h9
 simp only [List.mem_singleton] at hx
 subst hx
 unfold okB
 simp only
 have h12:(ZG m (Ys rows m q) q).2=12∨(ZG m (Ys rows m q) q).2=13:=by omega
 rw [if_neg (by omega),if_pos h12,ep]
 rw [Bool.and_eq_true]
 exact ⟨ZE.2 (by omega),ZE.2 (by omega)⟩
theorem ZW {rows:List (List I3)} {m:V4} {k:Int} (hp:Zn rows=true) (hs:Zk m=true) (hz:Zx rows m k=0):Zk (goM rows m k).1=true:=by
 obtain ⟨h0,h2,hd,hc⟩:=ZY hz
 exact Qc hp hs (by omega) hd
theorem Xs {x:I3} (h:okB x=true):I3.fits x:=by
 unfold okB at h
 split at h
 ·rename_i h1
  simp only [Bool.and_eq_true,decide_eq_true_eq] at h
  exact ⟨Yf (by omega) (by omega),Yf (by omega) (by omega),Yf (by omega) (by omega)⟩
 split at h
 ·rename_i h1
  rw [Bool.and_eq_true] at h
  have a:=ZE.1 h.1
  have b:=ZE.1 h.2
  exact ⟨Yf (by omega) (by omega),Yf (by omega) (by omega),Yf (by omega) (by omega)⟩
 cases h
theorem JX (rows:List (List I3)) (m:V4):∀ x ∈ XW rows m,okB x=true:=by
 unfold XW
 split
 ·intro x hx
  simp only [List.mem_singleton] at hx
  subst hx
  rfl
 simp

set_option linter.unusedSimpArgs false

theorem ZQ.lowerB {B B':Nat} {w:World} {s:S4} {m:V4} (h:ZQ w B s m) (hB:B'≤B):ZQ w B' s m:=⟨⟨XJ h.1.1 hB,XJ h.1.2.1 hB,XJ h.1.2.2.1 hB,XJ h.1.2.2.2 hB⟩,h.2⟩
theorem ZJ:Zk Zl=true:=by decide
def vmC (t:S4):List Value:=[.slice t.1.1 t.1.2.1 t.1.2.2,.slice t.2.1.1 t.2.1.2.1 t.2.1.2.2,.slice t.2.2.1.1 t.2.2.1.2.1 t.2.2.1.2.2,.slice t.2.2.2.1 t.2.2.2.2.1 t.2.2.2.2.2]
theorem Zw {P:Program} {ops:Array Oper} {o:Oper} {a:Act} {w:World} {K:Act→World→Prop} {Q:Exit→Act→World→Prop} {E:Prop} (hgd:o.guard=none) (ty:TypeId) (x y:Operand) (ho:o.op=.store ty x y) (g:Nat) (vs:List Value) (hx:a.eval x=.pointer (some ⟨g,0,none⟩)) (hy:a.eval y=.agg vs.toArray) {t:Nat} {cs:List Value} (hB:Blk w g t cs)
  (hi:(P.info? ty).map (·.size)=some vs.length) (hl:cs.length=vs.length) (h1:vs.all (·.oneCell')=true)
  (h:∀ w',Hid (Blk w' g t vs)→w.grownBy w' (some g)→K (a.put o.dst undef) w'):if Region.wanted o (yielded ops a.tmps)=true then Oper.wp P o a w K Q else E:=by
 have hw:Region.wanted o (yielded ops a.tmps)=true:=by simp [Region.wanted,hgd]
 rw [if_pos hw]
 exact wp_store_row ty x y ho g vs.toArray hx hy t cs.toArray hB (by simpa using hi) (by simpa using hl) (by simpa using h1) (h _ (Rt vs hB) (VJ _ _ _))


def Uq (e:Ending) (w:World) (B:Nat) (zs:List I3):Prop:=∃ v,e=.returned v∧w.ownsRow B 64 3 v zs.length (Zo zs)
theorem Nr {zs:List I3} {x:I3} (h:∀ z ∈ zs,I3.fits z) (hx:I3.fits x):∀ z ∈ YO zs x,I3.fits z:=fun z hz=>by
 rcases Wm.1 hz with e | e
 ·exact h z e
 rw [e];exact hx
theorem Ns {xs ys:List I3} (h:∀ z ∈ xs,I3.fits z) (k:∀ z ∈ ys,I3.fits z):∀ z ∈ putAll xs ys,I3.fits z:=fun z hz=>by
 rcases VN.1 hz with e | e
 ·exact h z e
 exact k z e
theorem SS (out xs:List I3) {k:Nat} (hk:k<xs.length):putAll out (xs.take (k+1))=YO (putAll out (xs.take k)) (xs.getD k (0,0,0)):=by
 unfold putAll
 rw [List.take_add_one,List.foldl_append,List.getElem?_eq_getElem hk]
 simp [List.getD,List.getElem?_eq_getElem hk]
theorem QQ {xs:List I3} {k:Nat} (hk:k<xs.length):xs.getD k (0,0,0) ∈ xs:=by
 rw [List.getD,List.getElem?_eq_getElem hk,Option.getD_some]
 exact List.getElem_mem hk
def QC (w wr:World) (v:Value) (zs:List I3):Prop:=(∃ g c,v=.slice (some ⟨g,0,none⟩) zs.length c)∧wr.ownsRow w.heap.size 64 3 v zs.length (Zo zs)∧(∀ z ∈ zs,I3.fits z)∧zs.length≤1000000

theorem SM (a0:Option Addr) (n0 c0:Nat) (xs:List I3) (a1:Option Addr) (n1 c1:Nat) (ys:List I3) (w:World) (h0:ZL w a0 n0 c0 xs) (h1:ZL w a1 n1 c1 ys) (m0:n0≤400000) (m1:n1≤400000) :
  Calls Tryz.prog 135 #[.slice a0 n0 c0,.slice a1 n1 c1] w fun e w'=>Uq e w' w.heap.size (Yg xs ys)∧Below w.heap.size w w':=by
 have l0:=h0.1
 have l1:=h1.1
 have f0:=h0.2.2.2.1
 have f1:=h1.2.2.2.1
 have q0:QC w (w.alloc (.cells #[] 64)) (.slice (some ⟨w.heap.size,0,none⟩) 0 0) []:=⟨⟨_,_,rfl⟩,Yx w 64 3 w.heap.size (Nat.le_refl _),by simp,by simp⟩
 have bw0:Below w.heap.size w (w.alloc (.cells #[] 64)):=by go_grown
 go_enter Tryz.func135,Tryz.ntmps135
 go_wp2_with fail
 generalize w.alloc (.cells #[] 64)=W0 at *
 go_loopw [5,6] (fun so si wr=>∃ (k:Nat) (v:Value),v=so∧k≤n0∧si=.int .i64 k∧QC w wr v (putAll [] (xs.take k))∧Below w.heap.size w wr) (fun _ si _=>n0 - (intOf si).toNat)
 case atStart=>exact ⟨0,_,rfl,by omega,rfl,q0,bw0⟩
 case round =>
  clear q0 bw0
  obtain ⟨k,so,rfl,hk,rfl,⟨⟨g,c,rfl⟩,hq,hf,hz⟩,bw⟩:=hrel
  by_cases hlt:k<n0
  ·obtain ⟨zs,hzs⟩:∃ zs,zs=putAll [] (xs.take k):=⟨_,rfl⟩
   rw [← hzs] at hq hf hz
   try rw [← hzs]
   have hZ:=ZL.of_owns hq rfl hf rfl
   obtain ⟨_,_,_,_,hcase⟩:=h0.below bw
   rcases hcase with e0 | ⟨b,off,rfl,hb,hc⟩
   ·omega
   obtain ⟨d0,d1,d2⟩:=hc k hlt
   clear hc hb
   obtain ⟨x,hx⟩:∃ x,x=xs.getD k (0,0,0):=⟨_,rfl⟩
   have hfx:I3.fits x:=by rw [hx];exact f0 _ (QQ (by omega))
   have hnew:YO zs x=putAll [] (xs.take (k+1)):=by rw [hzs,hx];exact (SS [] xs (by omega)).symm
   rw [← hx] at d0 d1 d2
   have HN:Hid (YO zs x=putAll [] (xs.take (k+1))):=hnew
   have hzl:zs.length≤k:=by rw [hzs];have:=Wc (xs.take k) [];simp at this;omega
   clear hx hnew hzs
   have kP:=UD g 0 zs.length c zs x wr hZ (by omega)
   have hpl:=TV zs x
   have hpf:=Nr hf hfx
   have hp0:0<(YO zs x).length:=List.length_pos_of_mem (Wm.2 (.inr rfl))
   generalize zs.length=m at *
   obtain ⟨x0,x1,x2⟩:=x
   unfold I3.val at kP
   simp only at d0 d1 d2 kP
   clear hZ hq
   have hlt':(k:Int)<(n0:Int):=by omega
   have hk0:(0:Int)≤(k:Int):=by omega
   go_wp2_with fail
   refine kP.mono ?_
   rintro e w1 ⟨⟨v1,rfl,hq1⟩,hb1⟩
   clear kP d0 d1 d2
   have bw1:=Zb bw hb1
   obtain ⟨g1,e1,rfl⟩:=Y6 hq1 hp0
   have hU:QC w w1 (.slice (some ⟨g1,0,none⟩) (YO zs (x0,x1,x2)).length e1) (putAll [] (xs.take (k+1))):=by
    rw [← HN.out]
    exact ⟨⟨_,_,rfl⟩,ZZ hq1 bw.size,hpf,by omega⟩
   generalize (YO zs (x0,x1,x2)).length=m1 at *
   clear hq1 hpf
   go_wp2
   go_roundw
   case rel=>exact ⟨k+1,_,rfl,by omega,by go_num,hU,bw1⟩
   case measure=>simp [intOf];omega
  obtain rfl:k=n0:=by omega
  have hU:QC w wr (.slice (some ⟨g,0,none⟩) (putAll [] (xs.take k)).length c) (putAll (putAll [] xs) (ys.take 0)):=by
   have e:xs.take k=xs:=List.take_of_length_le (by omega)
   rw [e] at hq hf hz ⊢
   exact ⟨⟨_,_,rfl⟩,hq,hf,hz⟩
  have hal:(putAll [] xs).length≤k:=by have:=Wc xs [];simp at this;omega
  have haf:∀ z ∈ putAll [] xs,I3.fits z:=Ns (by simp) f0
  generalize (putAll [] (xs.take k)).length=m at *
  clear hq hf hz h0
  go_wp2_with fail
  go_loopw [5,7] (fun so si wr=>∃ (j:Nat) (v:Value),v=so∧j≤n1∧si=.int .i64 j∧QC w wr v (putAll (putAll [] xs) (ys.take j))∧Below w.heap.size w wr) (fun _ si _=>n1 - (intOf si).toNat)
  case atStart=>exact ⟨0,_,rfl,by omega,rfl,hU,bw⟩
  case round =>
   clear hU bw
   obtain ⟨j,so,rfl,hj,rfl,⟨⟨g,c,rfl⟩,hq,hf,hz⟩,bw⟩:=hrel
   by_cases hltj:j<n1
   ·obtain ⟨zs,hzs⟩:∃ zs,zs=putAll (putAll [] xs) (ys.take j):=⟨_,rfl⟩
    rw [← hzs] at hq hf hz
    try rw [← hzs]
    have hZ:=ZL.of_owns hq rfl hf rfl
    obtain ⟨_,_,_,_,hcase⟩:=h1.below bw
    rcases hcase with e0 | ⟨b,off,rfl,hb,hc⟩
    ·omega
    obtain ⟨d0,d1,d2⟩:=hc j hltj
    clear hc hb
    obtain ⟨x,hx⟩:∃ x,x=ys.getD j (0,0,0):=⟨_,rfl⟩
    have hfx:I3.fits x:=by rw [hx];exact f1 _ (QQ (by omega))
    have hnew:YO zs x=putAll (putAll [] xs) (ys.take (j+1)):=by rw [hzs,hx];exact (SS _ ys (by omega)).symm
    rw [← hx] at d0 d1 d2
    have HN:Hid (YO zs x=putAll (putAll [] xs) (ys.take (j+1))):=hnew
    have hzl:zs.length≤k+j:=by rw [hzs];have:=Wc (ys.take j) (putAll [] xs);simp at this;omega
    clear hx hnew hzs
    have kP:=UD g 0 zs.length c zs x _ hZ (by omega)
    have hpl:=TV zs x
    have hpf:=Nr hf hfx
    have hp0:0<(YO zs x).length:=List.length_pos_of_mem (Wm.2 (.inr rfl))
    generalize zs.length=mm at *
    obtain ⟨x0,x1,x2⟩:=x
    unfold I3.val at kP
    simp only at d0 d1 d2 kP
    clear hZ hq
    have hlt':(j:Int)<(n1:Int):=by omega
    have hk0:(0:Int)≤(j:Int):=by omega
    go_wp2_with fail
    refine kP.mono ?_
    rintro e w1 ⟨⟨v1,rfl,hq1⟩,hb1⟩
    clear kP d0 d1 d2
    have bw1:=Zb bw hb1
    obtain ⟨g1,e1,rfl⟩:=Y6 hq1 hp0
    have hU:QC w w1 (.slice (some ⟨g1,0,none⟩) (YO zs (x0,x1,x2)).length e1) (putAll (putAll [] xs) (ys.take (j+1))):=by
     rw [← HN.out]
     exact ⟨⟨_,_,rfl⟩,ZZ hq1 bw.size,hpf,by omega⟩
    generalize (YO zs (x0,x1,x2)).length=m1 at *
    clear hq1 hpf
    go_wp2
    go_roundw
    case rel=>exact ⟨j+1,_,rfl,by omega,by go_num,hU,bw1⟩
    case measure=>simp [intOf];omega
   obtain rfl:j=n1:=by omega
   have e:ys.take j=ys:=List.take_of_length_le (by omega)
   rw [e] at hq hf hz
   try rw [e]
   obtain ⟨mm,hmm⟩:∃ mm,mm=(putAll (putAll [] xs) ys).length:=⟨_,rfl⟩
   rw [← hmm]
   have HQ:Hid (∀ e,e=.returned (.slice (some ⟨g,0,none⟩) mm c)→Uq e wr w.heap.size (Yg xs ys)):=fun e he=>⟨_,he,by rw [hmm];exact hq⟩
   clear hq hmm hz
   go_wp2
   go_ret
   exact ⟨HQ.out _ rfl,bw⟩

end Go.Proofs.YtifoggpohlegmaaGreatDoor
