/-
  Joined: EvA, RunPl, RunQ, Ev0, Evs, TakM, RpE, CmpB, SortL, MrgB, CatB.
-/
import Derived.Laws.RangeString
import Derived.Laws.RangeAny
import Derived.Laws.Bits
import Derived.Lib.FieldsP
import Derived.Stop.Asserts
import Derived.Recover
import Derived.Shelf.SlSortCmp.Insertion
import Derived.Shelf.SlSortCmp.NoneTotal
import Derived.Shelf.Spec.SlicesGrow
import Derived.Laws.AppendOwnNone
import Derived.Test.YtgmhhegckcionaaGreatDoorF15
import Derived.Test.YtgmhhegckcionaaGreatDoorF20

namespace Go.Proofs.YtgmhhegckcionaaGreatDoor
set_option maxRecDepth 100000
set_option maxHeartbeats 16000000
open Go.RowKit
set_option linter.unusedVariables false
set_option linter.unusedSimpArgs false

def Bq (x:I3):Int:=if x.1=1 then x.2.2 else if x.1=2 then x.2.1 else if x.1=5∨x.1=6 then 4+x.2.1 else -1
def Kh (rows:List (List I3)) (m:V4) (k:Nat):Int × Int × Int × Int:=(k,m.1.getD k 0,(Xa rows m k).1,Bq (Xa rows m k))


def XO (rows:List (List I3)) (m:V4) (k:Int):Int:=
 if 0≤k∧k≤2 then (if Ya rows m k.toNat then 10 else if YH rows m k.toNat then 0 else 11) else 4
def goM (rows:List (List I3)) (m:V4) (k:Int):V4 × Int:=ZQ m (Xa rows m k.toNat) k.toNat
def Xg (rows:List (List I3)) (m:V4) (k:Int):List I3:=if (goM rows m k).2=0 then [] else [((goM rows m k).2,k,m.1.getD k.toNat 0)]
def ZC (rows:List (List I3)) (m:V4):List I3:=if YS rows m then [(14,0,0)] else []
def Xx (rows:List (List I3)) (m:V4) (k:Int):List I3:=if YS rows (goM rows m k).1 then YV (Xg rows m k) (14,0,0) else Xg rows m k

def Vh (rows:List (List I3)):V4→List I3→List Int→V4 × List I3 × Int
 | m,fs,[]=>(m,fs,0)
 | m,fs,k::ks=>if XO rows m k=0 then Vh rows (goM rows m k).1 (fs++Xg rows m k) ks else (m,fs,XO rows m k)
theorem XB {rows:List (List I3)} {m:V4} {k:Int} (h:XO rows m k=0):0≤k∧k≤2∧Ya rows m k.toNat=false∧YH rows m k.toNat=true:=by
 unfold XO at h
 split at h
 ·rename_i hk
  cases hd:Ya rows m k.toNat
  ·cases hc:YH rows m k.toNat
   ·rw [hd,hc] at h;simp at h
   exact ⟨hk.1,hk.2,rfl,rfl⟩
  rw [hd] at h;simp at h
 cases h


theorem KQ (m:V4) (x:I3) (k:Nat):(ZQ m x k).2=0∨(ZQ m x k).2=12∨(ZQ m x k).2=13:=by
 unfold ZQ
 repeat' split
 all_goals simp
theorem Jq {rows:List (List I3)} {m:V4} {k:Int} (hp:Zf rows=true) (hs:Zc m=true) (hz:XO rows m k=0):∀ x ∈ Xg rows m k,okB x=true:=by
 obtain ⟨h0,h2,hd,hc⟩:=XB hz
 obtain ⟨q,rfl⟩:∃ q:Nat,k=q:=⟨k.toNat,by omega⟩
 rw [Int.toNat_natCast] at hd
 have hq:q<3:=by omega
 obtain ⟨p,ep,hlt,_,_⟩:=Up hp hs hq hd
 have hl6:=(Vk hp hq).1
 have hf:=KQ m (Xa rows m q) q
 intro x hx
 unfold Xg goM at hx
 rw [Int.toNat_natCast] at hx
 split at hx
 ·simp at hx
 rename_i h9
 simp only [List.mem_singleton] at hx
 subst hx
 unfold okB
 simp only
 have h12:(ZQ m (Xa rows m q) q).2=12∨(ZQ m (Xa rows m q) q).2=13:=by omega
 rw [if_neg (by omega),if_pos h12,ep]
 rw [Bool.and_eq_true]
 exact ⟨ZD.2 (by omega),ZD.2 (by omega)⟩
theorem Vm {rows:List (List I3)} {m:V4} {k:Int} (hp:Zf rows=true) (hs:Zc m=true) (hz:XO rows m k=0):Zc (goM rows m k).1=true:=by
 obtain ⟨h0,h2,hd,hc⟩:=XB hz
 exact Q6 hp hs (by omega) hd
theorem Wg {x:I3} (h:okB x=true):I3.fits x:=by
 unfold okB at h
 split at h
 ·rename_i h1
  simp only [Bool.and_eq_true,decide_eq_true_eq] at h
  exact ⟨Yj (by omega) (by omega),Yj (by omega) (by omega),Yj (by omega) (by omega)⟩
 split at h
 ·rename_i h1
  rw [Bool.and_eq_true] at h
  have a:=ZD.1 h.1
  have b:=ZD.1 h.2
  exact ⟨Yj (by omega) (by omega),Yj (by omega) (by omega),Yj (by omega) (by omega)⟩
 cases h

open Go.RowKit Go.ChangeShapes Go.WideShapes Go.Joins

abbrev I4:=Int × Int × Int × Int


def We:List I4→List Value
 | []=>[]
 | x::xs=>[.int .i64 x.1,.int .i64 x.2.1,.int .i64 x.2.2.1,.int .i64 x.2.2.2]++We xs
theorem Ki (es:List I4) (x:I4):We (es++[x])=We es++[.int .i64 x.1,.int .i64 x.2.1,.int .i64 x.2.2.1,.int .i64 x.2.2.2]:=by
 induction es with
 | nil=>rfl
 | cons y ys ih=>simp only [List.cons_append,We,ih,List.append_assoc]
theorem MH:∀ (xs:List I4) (t:Nat),t<xs.length→(We xs)[t*4]?=some (.int .i64 (xs.getD t (0,0,0,0)).1)∧(We xs)[t*4+1]?=some (.int .i64 (xs.getD t (0,0,0,0)).2.1)∧(We xs)[t*4+2]?=some (.int .i64 (xs.getD t (0,0,0,0)).2.2.1)∧(We xs)[t*4+3]?=some (.int .i64 (xs.getD t (0,0,0,0)).2.2.2)
 | [],t,h=>by simp at h
 | x::xs,0,_=>⟨rfl,rfl,rfl,rfl⟩
 | x::xs,t+1,h=>by
  have ih:=MH xs t (by simpa using h)
  have e:(t+1)*4=t*4+1+1+1+1:=by omega
  simp only [We,List.cons_append,List.nil_append,e,List.getElem?_cons_succ,List.getD_cons_succ]
  exact ih


theorem Hd {a b c:World} {r:Option Nat} {j:Nat} (h:a.grownBy b r) (k:b.grownBy c (some j)) (hj:a.heap.size≤j):a.grownBy c r:=
 ⟨k.os.trans h.os,k.tape.trans h.tape,k.output.trans h.output,Nat.le_trans h.size k.size,fun i hi hr=>(k.block i (Nat.lt_of_lt_of_le hi h.size) (by simp;omega)).trans (h.block i hi hr)⟩

theorem JF {w:World} {g:Nat} {cs:Sl × Sl × Sl} {rows:List (List I3)} {m:V4} (h:ZO w g cs rows m) (hp:Zf rows=true) (hs:Zc m=true) {k:Nat} (hk:k<3) (hd:Ya rows m k=false) :
  Calls Tryz.prog 125 #[.pointer (some ⟨g,0,none⟩),.int .i64 k] w fun e w'=>e=.returned (.agg #[.int .i64 (ZQ m (Xa rows m k) k).2,.int .i64 k,.int .i64 (m.1.getD k 0)])∧Blk w' g 98 (Zi cs.1.val cs.2.1.val cs.2.2.val (ZQ m (Xa rows m k) k).1)∧w.grownBy w' (some g):=by
 have kS:=fun W (hM:ZO W g cs rows m)=>Cr hM hp hs hk hd
 generalize ZQ m (Xa rows m k) k=zf at *
 obtain ⟨z,f⟩:=zf
 simp only at kS ⊢
 have hk3:(k:Int)<3:=by omega
 obtain ⟨pc,hpc⟩:∃ pc,pc=m.1.getD k 0:=⟨_,rfl⟩
 rw [← hpc]
 have HPc:Hid (pc=m.1.getD k 0):=hpc
 clear hd hp hs hpc
 have hgl:=h.1.lt
 have pB:=Blk.new w 103 [.int .i64 0,.int .i64 0,.int .i64 0]
 have bz:Below w.heap.size w (w.alloc (.cells #[.int .i64 0,.int .i64 0,.int .i64 0] 103)):=by go_grown
 replace h:=h.below bz
 have r1:=h.pc hk
 rw [← HPc.out] at r1
 clear HPc
 have kSx:=kS _ h
 clear kS h
 go_enter Tryz.func125,Tryz.ntmps125
 go_wp2_with fail
 refine kSx.mono ?_
 rintro e w2 ⟨rfl,hM2,g2⟩
 have gz:w.grownBy w2 (some g):=Ws (PZ bz) g2
 have pB2:=pB.kept g2 (by simp;omega)
 have hsz:=gz.size
 clear kSx g2 bz r1 pB
 obtain ⟨GB,hGB⟩:∃ GB,GB=w.heap.size:=⟨_,rfl⟩
 have hwj:w.heap.size≤GB:=by omega
 rw [← hGB] at pB2 hgl ⊢
 clear hGB hsz
 go_wp2_with (refine Ze rfl 103 _ _ rfl GB [.int .i64 f,.int .i64 k,.int .i64 pc] rfl rfl pB2 (by kernel_rfl) rfl rfl ?_)
 intro W9 pR2 g3
 have hM3:=hM2.kept g3 (by simp;omega)
 go_wp2
 refine bodyPost_ret (UH Tryz.results125 _ _ _ _ _ _ rfl pR2.out Tryz.underlying103 rfl (by kernel_rfl)) rfl ?_
 exact ⟨rfl,hM3,Hd gz g3 hwj⟩


theorem Li (rows:List (List I3)) (m:V4) (k:Int):(Xg rows m k).length≤1:=by unfold Xg;split<;>simp

open Go.RowKit Go.Sort

def Rc (a b:Int):Int:=if a<b then -1 else if b<a then 1 else 0
def orI (a b c:Int):Int:=if a≠0 then a else if b≠0 then b else c
def So (x y:I3):Int:=orI (Rc x.1 y.1) (Rc x.2.1 y.2.1) (Rc x.2.2 y.2.2)
theorem VJ (x y:I3):ltOf So x y=ltB x y:=by
 unfold ltOf So orI Rc ltB
 by_cases a1:x.1<y.1
 ·simp [a1]
 by_cases a2:y.1<x.1
 ·have:¬ (x.1=y.1):=by omega
  simp [a1,a2,this]
 have a3:x.1=y.1:=by omega
 by_cases b1:x.2.1<y.2.1
 ·simp [a3,b1]
 by_cases b2:y.2.1<x.2.1
 ·have:¬ (x.2.1=y.2.1):=by omega
  simp [a3,b1,b2,this]
 have b3:x.2.1=y.2.1:=by omega
 by_cases c1:x.2.2<y.2.2
 ·simp [a3,b3,c1]
 by_cases c2:y.2.2<x.2.2
 ·simp [a3,b3,c1,c2]
 simp [a3,b3,c1,c2]
theorem Fk:SWO (ltOf So) where
 irrefl x:=by rw [VJ];exact VC x
 trans x y z h1 h2:=by rw [VJ] at *;exact Uf h1 h2
 ntrans x y z h1 h2:=by
  rw [VJ] at *
  cases h:ltB x z
  ·rfl
  cases k:ltB y x
  ·have:=Vp h1 k
   subst this
   rw [h] at h2
   cases h2
  have:=Uf k h
  rw [this] at h2
  cases h2
theorem L8 (x y:I3) (h:ltOf So x y=false) (k:ltOf So y x=false):x=y:=by
 rw [VJ] at h k
 exact Vp h k

theorem WJ (a b:Int) (w:World):Calls Tryz.prog 75 #[.int .i64 a,.int .i64 b] w fun e w'=>e=.returned (.int .i64 (Rc a b))∧w=w':=by
 have ha:(a != a)=false:=by simp
 have hb:(b != b)=false:=by simp
 unfold Rc
 by_cases h1:a<b
 ·rw [if_pos h1]
  go_enter Tryz.func75,Tryz.ntmps75
  go_wp2
  go_ret
  exact ⟨rfl,rfl⟩
 rw [if_neg h1]
 by_cases h2:b<a
 ·rw [if_pos h2]
  go_enter Tryz.func75,Tryz.ntmps75
  go_wp2
  go_ret
  exact ⟨rfl,rfl⟩
 rw [if_neg h2]
 go_enter Tryz.func75,Tryz.ntmps75
 go_wp2
 go_ret
 exact ⟨rfl,rfl⟩

theorem Fl (g:Nat) (a b c:Int) (w:World) (h0:w.cell? ⟨g,0,none⟩=some (.int .i64 a)) (h1:w.cell? ⟨g,1,none⟩=some (.int .i64 b)) (h2:w.cell? ⟨g,2,none⟩=some (.int .i64 c)) :
  Calls Tryz.prog 148 #[.slice (some ⟨g,0,none⟩) 3 3] w fun e w'=>e=.returned (.int .i64 (orI a b c))∧w=w':=by
 unfold orI
 by_cases ha:a=0
 ·subst ha
  simp only [ne_eq,not_true_eq_false,if_false]
  by_cases hb:b=0
  ·subst hb
   simp only [ne_eq,not_true_eq_false,if_false]
   by_cases hc:c=0
   ·subst hc
    go_enter Tryz.func148,Tryz.ntmps148
    go_wp2
    refine wp_loop_rounds 4 ?_
    rw [rounds_succ]
    go_wp2
    rw [rounds_succ]
    go_wp2
    rw [rounds_succ]
    go_wp2
    rw [rounds_succ]
    go_wp2
    go_ret
    exact ⟨rfl,rfl⟩
   go_enter Tryz.func148,Tryz.ntmps148
   go_wp2
   refine wp_loop_rounds 3 ?_
   rw [rounds_succ]
   go_wp2
   rw [rounds_succ]
   go_wp2
   rw [rounds_succ]
   go_wp2
   go_ret
   exact ⟨rfl,rfl⟩
  simp only [ne_eq,hb,not_false_eq_true,if_true]
  go_enter Tryz.func148,Tryz.ntmps148
  go_wp2
  refine wp_loop_rounds 2 ?_
  rw [rounds_succ]
  go_wp2
  rw [rounds_succ]
  go_wp2
  go_ret
  exact ⟨rfl,rfl⟩
 simp only [ne_eq,ha,not_false_eq_true,if_true]
 go_enter Tryz.func148,Tryz.ntmps148
 go_wp2
 refine wp_loop_rounds 1 ?_
 rw [rounds_succ]
 go_wp2
 go_ret
 exact ⟨rfl,rfl⟩

theorem UX (x y:I3) (w:World) :
  Calls Tryz.prog 113 #[.agg #[.int .i64 x.1,.int .i64 x.2.1,.int .i64 x.2.2],.agg #[.int .i64 y.1,.int .i64 y.2.1,.int .i64 y.2.2]] w fun e w'=>e=.returned (.int .i64 (So x y))∧∃ q os,w'=grow (w.drewN q) os:=by
 obtain ⟨x0,x1,x2⟩:=x
 obtain ⟨y0,y1,y2⟩:=y
 unfold So
 simp only
 have k0:=fun W=>WJ x0 y0 W
 have k1:=fun W=>WJ x1 y1 W
 have k2:=fun W=>WJ x2 y2 W
 generalize Rc x0 y0=p0 at *
 generalize Rc x1 y1=p1 at *
 generalize Rc x2 y2=p2 at *
 have HW:Hid (∃ q os,((w.alloc (.cells #[.int .i64 x0,.int .i64 x1,.int .i64 x2] 103)).alloc (.cells #[.int .i64 y0,.int .i64 y1,.int .i64 y2] 103)).drew.alloc (.cells #[.int .i64 p0,.int .i64 p1,.int .i64 p2] 3)=grow (w.drewN q) os):=⟨1,#[.cells #[.int .i64 x0,.int .i64 x1,.int .i64 x2] 103]++#[.cells #[.int .i64 y0,.int .i64 y1,.int .i64 y2] 103]++#[.cells #[.int .i64 p0,.int .i64 p1,.int .i64 p2] 3],by
  rw [alloc_eq_grow,alloc_eq_grow,alloc_eq_grow]
  simp only [grow,World.drew,World.drewN,Array.append_assoc]⟩
 have c0:((w.alloc (.cells #[.int .i64 x0,.int .i64 x1,.int .i64 x2] 103)).alloc (.cells #[.int .i64 y0,.int .i64 y1,.int .i64 y2] 103)).cell? ⟨w.heap.size,0,none⟩=some (.int .i64 x0):=by simp [go_sem]
 have c1:((w.alloc (.cells #[.int .i64 x0,.int .i64 x1,.int .i64 x2] 103)).alloc (.cells #[.int .i64 y0,.int .i64 y1,.int .i64 y2] 103)).cell? ⟨w.heap.size,1,none⟩=some (.int .i64 x1):=by simp [go_sem]
 have c2:((w.alloc (.cells #[.int .i64 x0,.int .i64 x1,.int .i64 x2] 103)).alloc (.cells #[.int .i64 y0,.int .i64 y1,.int .i64 y2] 103)).cell? ⟨w.heap.size,2,none⟩=some (.int .i64 x2):=by simp [go_sem]
 have e0:((w.alloc (.cells #[.int .i64 x0,.int .i64 x1,.int .i64 x2] 103)).alloc (.cells #[.int .i64 y0,.int .i64 y1,.int .i64 y2] 103)).cell? ⟨w.heap.size+1,0,none⟩=some (.int .i64 y0):=by simp [go_sem]
 have e1:((w.alloc (.cells #[.int .i64 x0,.int .i64 x1,.int .i64 x2] 103)).alloc (.cells #[.int .i64 y0,.int .i64 y1,.int .i64 y2] 103)).cell? ⟨w.heap.size+1,1,none⟩=some (.int .i64 y1):=by simp [go_sem]
 have e2:((w.alloc (.cells #[.int .i64 x0,.int .i64 x1,.int .i64 x2] 103)).alloc (.cells #[.int .i64 y0,.int .i64 y1,.int .i64 y2] 103)).cell? ⟨w.heap.size+1,2,none⟩=some (.int .i64 y2):=by simp [go_sem]
 go_enter Tryz.func113,Tryz.ntmps113
 go_wp2_with fail
 generalize ((w.alloc (.cells #[.int .i64 x0,.int .i64 x1,.int .i64 x2] 103)).alloc (.cells #[.int .i64 y0,.int .i64 y1,.int .i64 y2] 103))=W at *
 refine wp_region_held_drew (S:=(fun w'=>w'.cell? ⟨w.heap.size,0,none⟩=some (.int .i64 x0)∧w'.cell? ⟨w.heap.size,1,none⟩=some (.int .i64 x1)∧w'.cell? ⟨w.heap.size,2,none⟩=some (.int .i64 x2)∧w'.cell? ⟨w.heap.size+1,0,none⟩=some (.int .i64 y0)∧w'.cell? ⟨w.heap.size+1,1,none⟩=some (.int .i64 y1)∧w'.cell? ⟨w.heap.size+1,2,none⟩=some (.int .i64 y2))) (by kernel_rfl) ⟨c0,c1,c2,e0,e1,e2⟩ (fun hS0=>?_)
 refine tkm 0 5 (.pointer (some ⟨w.heap.size,0,none⟩)) ?_
 refine tkm 1 6 (.int .i64 x0) ?_
 refine tkm 2 7 (.pointer (some ⟨w.heap.size+1,0,none⟩)) ?_
 refine tkm 3 8 (.int .i64 y0) ?_
 refine tkm 5 10 (.pointer (some ⟨w.heap.size,1,none⟩)) ?_
 refine tkm 6 11 (.int .i64 x1) ?_
 refine tkm 7 12 (.pointer (some ⟨w.heap.size+1,1,none⟩)) ?_
 refine tkm 8 13 (.int .i64 y1) ?_
 refine tkm 10 15 (.pointer (some ⟨w.heap.size,2,none⟩)) ?_
 refine tkm 11 16 (.int .i64 x2) ?_
 refine tkm 12 17 (.pointer (some ⟨w.heap.size+1,2,none⟩)) ?_
 refine tkm 13 18 (.int .i64 y2) ?_
 refine tkr 4 9 (fun K hK=>?_)
 go_simp
 refine (k0 _).mono ?_
 rintro e w5 ⟨rfl,rfl⟩
 go_wp2_with fail
 refine hK.out _ _ ⟨c0,c1,c2,e0,e1,e2⟩ (fun hS1=>?_)
 clear hK
 try simp only [Act.put,tka,tkb,tkc]
 refine tkr 9 14 (fun K hK=>?_)
 go_simp
 refine (k1 _).mono ?_
 rintro e w6 ⟨rfl,rfl⟩
 go_wp2_with fail
 refine hK.out _ _ ⟨c0,c1,c2,e0,e1,e2⟩ (fun hS2=>?_)
 clear hK
 try simp only [Act.put,tka,tkb,tkc]
 refine tkr 14 19 (fun K hK=>?_)
 go_simp
 refine (k2 _).mono ?_
 rintro e w7 ⟨rfl,rfl⟩
 go_wp2_with fail
 refine hK.out _ _ ⟨c0,c1,c2,e0,e1,e2⟩ (fun hS3=>?_)
 clear hK
 try simp only [Act.put,tka,tkb,tkc]
 have f0:(W.drew.alloc (.cells #[.int .i64 p0,.int .i64 p1,.int .i64 p2] 3)).cell? ⟨W.heap.size,0,none⟩=some (.int .i64 p0):=by simp [go_sem]
 have f1:(W.drew.alloc (.cells #[.int .i64 p0,.int .i64 p1,.int .i64 p2] 3)).cell? ⟨W.heap.size,1,none⟩=some (.int .i64 p1):=by simp [go_sem]
 have f2:(W.drew.alloc (.cells #[.int .i64 p0,.int .i64 p1,.int .i64 p2] 3)).cell? ⟨W.heap.size,2,none⟩=some (.int .i64 p2):=by simp [go_sem]
 have hal:Below W.heap.size W (W.drew.alloc (.cells #[.int .i64 p0,.int .i64 p1,.int .i64 p2] 3)):=by go_grown
 refine tkr 15 20 (fun K hK=>?_)
 go_simp
 refine hK.out _ _ ⟨Za hal _ _ c0,Za hal _ _ c1,Za hal _ _ c2,Za hal _ _ e0,Za hal _ _ e1,Za hal _ _ e2⟩ (fun hSa=>?_)
 clear hK
 try simp only [Act.put,tka,tkb,tkc]
 refine tkr 16 21 (fun K hK=>?_)
 go_simp
 refine (Fl W.heap.size p0 p1 p2 _ f0 f1 f2).mono ?_
 rintro e w9 ⟨rfl,rfl⟩
 go_wp2_with fail
 refine hK.out _ _ hSa (fun hSb=>?_)
 clear hK
 try simp only [Act.put,tka,tkb,tkc]
 refine tkm 17 4 (.int .i64 (orI p0 p1 p2)) ?_
 refine wpAnyH_done (by kernel_rfl) ?_ _
 clear hSa hSb c0 c1 c2 e0 e1 e2 f0 f1 f2 k0 k1 k2
 go_wp2
 go_ret
 exact ⟨rfl,HW.out⟩

open Go.RowKit Go.Shelf

def LC:Go.Shelf.Ren:=⟨fun | 6=>128 | 15=>162 | 14=>161 | 28=>179 | 29=>180 | 20=>171 | 21=>172 | 22=>173 | 23=>174 | 24=>175 | 25=>176 | 26=>177 | 27=>178 | 46=>199 | 47=>200 | 48=>201 | 49=>202 | 50=>203 | 57=>211 | n=>n,fun | 22=>28 | 24=>103 | 25=>182 | 3=>3 | 39=>204 | 0=>0 | 53=>249 | 55=>251 | 4=>4 | 46=>243 | 45=>242 | 50=>114 | 5=>5 | 9=>9 | 66=>263 | 70=>267 | 76=>273 | 77=>128 | n=>n,fun | n=>n⟩
theorem Jw:Go.Proofs.SlLaysF0.n6 Tryz.prog LC:={
 mixed:=by kernel_rfl
 f6:=⟨Tryz.f128.name,by decide,Tryz.func128.trans (congrArg some (by kernel_rfl))⟩
 f14:=⟨Tryz.f161.name,by decide,Tryz.func161.trans (congrArg some (by kernel_rfl))⟩
 f15:=Tryz.func162.trans (congrArg some (by kernel_rfl))
 f20:=⟨Tryz.f171.name,by decide,Tryz.func171.trans (congrArg some (by kernel_rfl))⟩
 f21:=⟨Tryz.f172.name,by decide,Tryz.func172.trans (congrArg some (by kernel_rfl))⟩
 f22:=⟨Tryz.f173.name,by decide,Tryz.func173.trans (congrArg some (by kernel_rfl))⟩
 f23:=⟨Tryz.f174.name,by decide,Tryz.func174.trans (congrArg some (by kernel_rfl))⟩
 f24:=⟨Tryz.f175.name,by decide,Tryz.func175.trans (congrArg some (by kernel_rfl))⟩
 f25:=⟨Tryz.f176.name,by decide,Tryz.func176.trans (congrArg some (by kernel_rfl))⟩
 f26:=⟨Tryz.f177.name,by decide,Tryz.func177.trans (congrArg some (by kernel_rfl))⟩
 f27:=⟨Tryz.f178.name,by decide,Tryz.func178.trans (congrArg some (by kernel_rfl))⟩
 f28:=Tryz.func179.trans (congrArg some (by kernel_rfl))
 f29:=Tryz.func180.trans (congrArg some (by kernel_rfl))
 f46:=⟨Tryz.f199.name,by decide,Tryz.func199.trans (congrArg some (by kernel_rfl))⟩
 f47:=Tryz.func200.trans (congrArg some (by kernel_rfl))
 f48:=Tryz.func201.trans (congrArg some (by kernel_rfl))
 f49:=⟨Tryz.f202.name,by decide,Tryz.func202.trans (congrArg some (by kernel_rfl))⟩
 f50:=⟨Tryz.f203.name,by decide,Tryz.func203.trans (congrArg some (by kernel_rfl))⟩
 f57:=⟨Tryz.f211.name,by decide,Tryz.func211.trans (congrArg some (by kernel_rfl))⟩
 t0:=Tryz.underlying0
 a0:=Tryz.isAgg0
 z0:=Tryz.sizeOf0
 v0:=Tryz.zeroValue0
 t3:=Tryz.underlying3
 a3:=Tryz.isAgg3
 z3:=Tryz.sizeOf3
 v3:=Tryz.zeroValue3
 t4:=Tryz.underlying4
 a4:=Tryz.isAgg4
 z4:=Tryz.sizeOf4
 v4:=Tryz.zeroValue4
 t5:=Tryz.underlying5
 a5:=Tryz.isAgg5
 z5:=Tryz.sizeOf5
 v5:=Tryz.zeroValue5
 t9:=Tryz.underlying9
 a9:=Tryz.isAgg9
 z9:=Tryz.sizeOf9
 v9:=Tryz.zeroValue9
 t22:=Tryz.underlying28
 a22:=Tryz.isAgg28
 z22:=Tryz.sizeOf28
 v22:=Tryz.zeroValue28
 t25:=Tryz.underlying182
 a25:=Tryz.isAgg182
 z25:=Tryz.sizeOf182
 v25:=Tryz.zeroValue182
 t39:=Tryz.underlying204
 a39:=Tryz.isAgg204
 z39:=Tryz.sizeOf204
 v39:=Tryz.zeroValue204
 t45:=Tryz.underlying242
 a45:=Tryz.isAgg242
 z45:=Tryz.sizeOf242
 v45:=Tryz.zeroValue242
 t46:=Tryz.underlying243
 a46:=Tryz.isAgg243
 z46:=Tryz.sizeOf243
 v46:=Tryz.zeroValue243
 t50:=Tryz.underlying114
 a50:=Tryz.isAgg114
 z50:=Tryz.sizeOf114
 v50:=Tryz.zeroValue114
 t53:=Tryz.underlying249
 a53:=Tryz.isAgg249
 z53:=Tryz.sizeOf249
 v53:=Tryz.zeroValue249
 t55:=Tryz.underlying251
 a55:=Tryz.isAgg251
 z55:=Tryz.sizeOf251
 v55:=Tryz.zeroValue251
 t66:=Tryz.underlying263
 a66:=Tryz.isAgg263
 z66:=Tryz.sizeOf263
 v66:=Tryz.zeroValue263
 t70:=Tryz.underlying267
 a70:=Tryz.isAgg267
 z70:=Tryz.sizeOf267
 v70:=Tryz.zeroValue267
 t76:=Tryz.underlying273
 a76:=Tryz.isAgg273
 z76:=Tryz.sizeOf273
 v76:=Tryz.zeroValue273
 t77:=Tryz.underlying128
 a77:=Tryz.isAgg128
 z77:=Tryz.sizeOf128
 v77:=Tryz.zeroValue128 }


def Rn (xs:List I3):Bool:=xs.all okB
def XW (e:Ending) (w:World) (B:Nat) (zs:List I3):Prop:=∃ v,e=.returned v∧w.ownsRow B 103 3 v zs.length (Zn zs)
theorem MF {zs:List I3} {x:I3} (h:∀ z ∈ zs,I3.fits z) (hx:I3.fits x):∀ z ∈ YV zs x,I3.fits z:=fun z hz=>by
 rcases WS.1 hz with e | e
 ·exact h z e
 rw [e];exact hx
theorem MG {xs ys:List I3} (h:∀ z ∈ xs,I3.fits z) (k:∀ z ∈ ys,I3.fits z):∀ z ∈ putAll xs ys,I3.fits z:=fun z hz=>by
 rcases UB.1 hz with e | e
 ·exact h z e
 exact k z e
theorem RP (out xs:List I3) {k:Nat} (hk:k<xs.length):putAll out (xs.take (k+1))=YV (putAll out (xs.take k)) (xs.getD k (0,0,0)):=by
 unfold putAll
 rw [List.take_add_one,List.foldl_append,List.getElem?_eq_getElem hk]
 simp [List.getD,List.getElem?_eq_getElem hk]
theorem PY {xs:List I3} {k:Nat} (hk:k<xs.length):xs.getD k (0,0,0) ∈ xs:=by
 rw [List.getD,List.getElem?_eq_getElem hk,Option.getD_some]
 exact List.getElem_mem hk
def PD (w wr:World) (v:Value) (zs:List I3):Prop:=(∃ g c,v=.slice (some ⟨g,0,none⟩) zs.length c)∧wr.ownsRow w.heap.size 103 3 v zs.length (Zn zs)∧(∀ z ∈ zs,I3.fits z)∧zs.length≤1000000

theorem RK (a0:Option Addr) (n0 c0:Nat) (xs:List I3) (a1:Option Addr) (n1 c1:Nat) (ys:List I3) (w:World) (h0:Zr w a0 n0 c0 xs) (h1:Zr w a1 n1 c1 ys) (m0:n0≤400000) (m1:n1≤400000) :
  Calls Tryz.prog 121 #[.slice a0 n0 c0,.slice a1 n1 c1] w fun e w'=>XW e w' w.heap.size (ZK xs ys)∧Below w.heap.size w w':=by
 have l0:=h0.1
 have l1:=h1.1
 have f0:=h0.2.2.2.1
 have f1:=h1.2.2.2.1
 have q0:PD w (w.alloc (.cells #[] 103)) (.slice (some ⟨w.heap.size,0,none⟩) 0 0) []:=⟨⟨_,_,rfl⟩,Y4 w 103 3 w.heap.size (Nat.le_refl _),by simp,by simp⟩
 have bw0:Below w.heap.size w (w.alloc (.cells #[] 103)):=by go_grown
 go_enter Tryz.func121,Tryz.ntmps121
 go_wp2_with fail
 generalize w.alloc (.cells #[] 103)=W0 at *
 go_loopw [5,6] (fun so si wr=>∃ (k:Nat) (v:Value),v=so∧k≤n0∧si=.int .i64 k∧PD w wr v (putAll [] (xs.take k))∧Below w.heap.size w wr) (fun _ si _=>n0 - (intOf si).toNat)
 case atStart=>exact ⟨0,_,rfl,by omega,rfl,q0,bw0⟩
 case round =>
  clear q0 bw0
  obtain ⟨k,so,rfl,hk,rfl,⟨⟨g,c,rfl⟩,hq,hf,hz⟩,bw⟩:=hrel
  by_cases hlt:k<n0
  ·obtain ⟨zs,hzs⟩:∃ zs,zs=putAll [] (xs.take k):=⟨_,rfl⟩
   rw [← hzs] at hq hf hz
   try rw [← hzs]
   have hZ:=Zr.of_owns hq rfl hf rfl
   obtain ⟨_,_,_,_,hcase⟩:=h0.below bw
   rcases hcase with e0 | ⟨b,off,rfl,hb,hc⟩
   ·omega
   obtain ⟨d0,d1,d2⟩:=hc k hlt
   clear hc hb
   obtain ⟨x,hx⟩:∃ x,x=xs.getD k (0,0,0):=⟨_,rfl⟩
   have hfx:I3.fits x:=by rw [hx];exact f0 _ (PY (by omega))
   have hnew:YV zs x=putAll [] (xs.take (k+1)):=by rw [hzs,hx];exact (RP [] xs (by omega)).symm
   rw [← hx] at d0 d1 d2
   have HN:Hid (YV zs x=putAll [] (xs.take (k+1))):=hnew
   have hzl:zs.length≤k:=by rw [hzs];have:=WH (xs.take k) [];simp at this;omega
   clear hx hnew hzs
   have kP:=TG g 0 zs.length c zs x wr hZ (by omega)
   have hpl:=SR zs x
   have hpf:=MF hf hfx
   have hp0:0<(YV zs x).length:=List.length_pos_of_mem (WS.2 (.inr rfl))
   generalize zs.length=m at *
   obtain ⟨x0,x1,x2⟩:=x
   unfold I3.val at kP
   simp only at d0 d1 d2 kP
   clear hZ hq
   have hlt':(k:Int)<(n0:Int):=by omega
   have hk0:(0:Int)≤(k:Int):=by omega
   go_wp2_with fail
   refine kP.mono ?_
   rintro e w1 ⟨⟨v1,rfl,hq1⟩,hb1⟩
   clear kP d0 d1 d2
   have bw1:=Zb bw hb1
   obtain ⟨g1,e1,rfl⟩:=WF hq1 hp0
   have hU:PD w w1 (.slice (some ⟨g1,0,none⟩) (YV zs (x0,x1,x2)).length e1) (putAll [] (xs.take (k+1))):=by
    rw [← HN.out]
    exact ⟨⟨_,_,rfl⟩,Xn hq1 bw.size,hpf,by omega⟩
   generalize (YV zs (x0,x1,x2)).length=m1 at *
   clear hq1 hpf
   go_wp2
   go_roundw
   case rel=>exact ⟨k+1,_,rfl,by omega,by go_num,hU,bw1⟩
   case measure=>simp [intOf];omega
  obtain rfl:k=n0:=by omega
  have hU:PD w wr (.slice (some ⟨g,0,none⟩) (putAll [] (xs.take k)).length c) (putAll (putAll [] xs) (ys.take 0)):=by
   have e:xs.take k=xs:=List.take_of_length_le (by omega)
   rw [e] at hq hf hz ⊢
   exact ⟨⟨_,_,rfl⟩,hq,hf,hz⟩
  have hal:(putAll [] xs).length≤k:=by have:=WH xs [];simp at this;omega
  have haf:∀ z ∈ putAll [] xs,I3.fits z:=MG (by simp) f0
  generalize (putAll [] (xs.take k)).length=m at *
  clear hq hf hz h0
  go_wp2_with fail
  go_loopw [5,7] (fun so si wr=>∃ (j:Nat) (v:Value),v=so∧j≤n1∧si=.int .i64 j∧PD w wr v (putAll (putAll [] xs) (ys.take j))∧Below w.heap.size w wr) (fun _ si _=>n1 - (intOf si).toNat)
  case atStart=>exact ⟨0,_,rfl,by omega,rfl,hU,bw⟩
  case round =>
   clear hU bw
   obtain ⟨j,so,rfl,hj,rfl,⟨⟨g,c,rfl⟩,hq,hf,hz⟩,bw⟩:=hrel
   by_cases hltj:j<n1
   ·obtain ⟨zs,hzs⟩:∃ zs,zs=putAll (putAll [] xs) (ys.take j):=⟨_,rfl⟩
    rw [← hzs] at hq hf hz
    try rw [← hzs]
    have hZ:=Zr.of_owns hq rfl hf rfl
    obtain ⟨_,_,_,_,hcase⟩:=h1.below bw
    rcases hcase with e0 | ⟨b,off,rfl,hb,hc⟩
    ·omega
    obtain ⟨d0,d1,d2⟩:=hc j hltj
    clear hc hb
    obtain ⟨x,hx⟩:∃ x,x=ys.getD j (0,0,0):=⟨_,rfl⟩
    have hfx:I3.fits x:=by rw [hx];exact f1 _ (PY (by omega))
    have hnew:YV zs x=putAll (putAll [] xs) (ys.take (j+1)):=by rw [hzs,hx];exact (RP _ ys (by omega)).symm
    rw [← hx] at d0 d1 d2
    have HN:Hid (YV zs x=putAll (putAll [] xs) (ys.take (j+1))):=hnew
    have hzl:zs.length≤k+j:=by rw [hzs];have:=WH (ys.take j) (putAll [] xs);simp at this;omega
    clear hx hnew hzs
    have kP:=TG g 0 zs.length c zs x _ hZ (by omega)
    have hpl:=SR zs x
    have hpf:=MF hf hfx
    have hp0:0<(YV zs x).length:=List.length_pos_of_mem (WS.2 (.inr rfl))
    generalize zs.length=mm at *
    obtain ⟨x0,x1,x2⟩:=x
    unfold I3.val at kP
    simp only at d0 d1 d2 kP
    clear hZ hq
    have hlt':(j:Int)<(n1:Int):=by omega
    have hk0:(0:Int)≤(j:Int):=by omega
    go_wp2_with fail
    refine kP.mono ?_
    rintro e w1 ⟨⟨v1,rfl,hq1⟩,hb1⟩
    clear kP d0 d1 d2
    have bw1:=Zb bw hb1
    obtain ⟨g1,e1,rfl⟩:=WF hq1 hp0
    have hU:PD w w1 (.slice (some ⟨g1,0,none⟩) (YV zs (x0,x1,x2)).length e1) (putAll (putAll [] xs) (ys.take (j+1))):=by
     rw [← HN.out]
     exact ⟨⟨_,_,rfl⟩,Xn hq1 bw.size,hpf,by omega⟩
    generalize (YV zs (x0,x1,x2)).length=m1 at *
    clear hq1 hpf
    go_wp2
    go_roundw
    case rel=>exact ⟨j+1,_,rfl,by omega,by go_num,hU,bw1⟩
    case measure=>simp [intOf];omega
   obtain rfl:j=n1:=by omega
   have e:ys.take j=ys:=List.take_of_length_le (by omega)
   rw [e] at hq hf hz
   try rw [e]
   obtain ⟨mm,hmm⟩:∃ mm,mm=(putAll (putAll [] xs) ys).length:=⟨_,rfl⟩
   rw [← hmm]
   have HQ:Hid (∀ e,e=.returned (.slice (some ⟨g,0,none⟩) mm c)→XW e wr w.heap.size (ZK xs ys)):=fun e he=>⟨_,he,by rw [hmm];exact hq⟩
   clear hq hmm hz
   go_wp2
   go_ret
   exact ⟨HQ.out _ rfl,bw⟩

theorem Gk {xs:List I3} {k:Nat} (hk:k<xs.length):Rn (xs.drop k)=(okB (xs.getD k (0,0,0)) && Rn (xs.drop (k+1))):=by
 unfold Rn
 rw [List.drop_eq_getElem_cons hk,List.all_cons,List.getD,List.getElem?_eq_getElem hk,Option.getD_some]
theorem JN (a:Option Addr) (n cap:Nat) (xs:List I3) (w:World) (h:Zr w a n cap xs) (hn:n≤1048576) :
  Calls Tryz.prog 111 #[.slice a n cap] w fun e w'=>e=.returned (.bool (Rn xs))∧Below w.heap.size w w':=by
 have hl:=h.1
 obtain ⟨r,hr⟩:∃ r,r=Rn xs:=⟨_,rfl⟩
 rw [← hr]
 have HR:Hid (r=Rn (xs.drop 0)):=by rw [Hid];simpa using hr
 clear hr
 go_enter Tryz.func111,Tryz.ntmps111
 go_wp2_with fail
 go_loopw [7] (fun si wr=>∃ k:Nat,k≤n∧si=.int .i64 k∧Hid (r=Rn (xs.drop k))∧Below w.heap.size w wr) (fun si _=>n - (intOf si).toNat)
 case atStart=>exact ⟨0,by omega,rfl,HR,Below.refl _ _⟩
 case round =>
  clear HR
  obtain ⟨k,hk,rfl,HR,bw⟩:=hrel
  by_cases hlt:k<n
  ·obtain ⟨_,_,_,_,hcase⟩:=h.below bw
   rcases hcase with e0 | ⟨b,off,rfl,hb,hc⟩
   ·omega
   obtain ⟨d0,d1,d2⟩:=hc k hlt
   clear hc hb
   have hst:=Gk (xs:=xs) (k:=k) (by omega)
   have kB:=N6 (xs.getD k (0,0,0))
   generalize xs.getD k (0,0,0)=x at *
   have HS:Hid (Rn (xs.drop k)=(okB x && Rn (xs.drop (k+1)))):=hst
   clear hst
   have hlt':(k:Int)<(n:Int):=by omega
   have hk0:(0:Int)≤(k:Int):=by omega
   cases hx:okB x
   ·have HF:Hid (r=false):=by rw [Hid,HR.out,HS.out,hx];rfl
    rw [hx] at kB
    clear hx HS HR
    obtain ⟨x0,x1,x2⟩:=x
    unfold I3.val at kB
    simp only at d0 d1 d2 kB
    go_wp2_with fail
    refine (kB _).mono ?_
    rintro e w1 ⟨rfl,hb1⟩
    have bw1:=Zb bw (Zb (by go_grown) hb1)
    clear hb1 d0 d1 d2 kB
    go_wp2
    go_ret
    exact ⟨by rw [HF.out];rfl,bw1⟩
   have HF:Hid (r=Rn (xs.drop (k+1))):=by rw [Hid,HR.out,HS.out,hx];rfl
   rw [hx] at kB
   clear hx HS HR
   obtain ⟨x0,x1,x2⟩:=x
   unfold I3.val at kB
   simp only at d0 d1 d2 kB
   go_wp2_with fail
   refine (kB _).mono ?_
   rintro e w1 ⟨rfl,hb1⟩
   have bw1:=Zb bw (Zb (by go_grown) hb1)
   clear hb1 d0 d1 d2 kB
   go_wp2
   go_roundw
   case rel=>exact ⟨k+1,by omega,by go_num,HF,bw1⟩
   case measure=>simp [intOf];omega
  obtain rfl:k=n:=by omega
  have HF:Hid (r=true):=by rw [Hid,HR.out,List.drop_of_length_le (by omega)];rfl
  clear HR
  go_wp2
  go_ret
  exact ⟨by rw [HF.out];rfl,bw⟩


def MP:Go.Shelf.Ren:=⟨fun | 4=>160 | n=>n,fun | 22=>28 | 25=>103 | 3=>3 | 4=>4 | 9=>9 | 20=>20 | 0=>0 | n=>n,fun | n=>n⟩
theorem K7:Go.Proofs.Lays8.n4 Tryz.prog MP:={
 mixed:=by kernel_rfl
 f4:=⟨Tryz.f160.name,by decide,Tryz.func160.trans (congrArg some (by kernel_rfl))⟩
 t0:=Tryz.underlying0
 a0:=Tryz.isAgg0
 z0:=Tryz.sizeOf0
 v0:=Tryz.zeroValue0
 t3:=Tryz.underlying3
 a3:=Tryz.isAgg3
 z3:=Tryz.sizeOf3
 v3:=Tryz.zeroValue3
 t4:=Tryz.underlying4
 a4:=Tryz.isAgg4
 z4:=Tryz.sizeOf4
 v4:=Tryz.zeroValue4
 t9:=Tryz.underlying9
 a9:=Tryz.isAgg9
 z9:=Tryz.sizeOf9
 v9:=Tryz.zeroValue9
 t20:=Tryz.underlying20
 a20:=Tryz.isAgg20
 z20:=Tryz.sizeOf20
 v20:=Tryz.zeroValue20
 t22:=Tryz.underlying28
 a22:=Tryz.isAgg28
 z22:=Tryz.sizeOf28
 v22:=Tryz.zeroValue28 }

theorem QV {w:World} {B e s n:Nat} {v:Value} {cs:List Value} (h:w.ownsRow B e s v n cs):∃ a m c,v=.slice a m c:=by
 rcases h.2 with ⟨rfl,h0⟩ | ⟨g,cap,cur,hv,_⟩
 ·exact ⟨_,_,_,rfl⟩
 exact ⟨_,_,_,hv⟩
theorem MO (n:Nat) (w:World) (hn:n≤1000000) :
  Calls Tryz.prog 160 #[.slice none 0 0,.int .i64 n] w fun e w'=>(∃ v,e=.returned v∧(∃ a c,v=.slice a 0 c)∧w'.ownsRow w.heap.size 103 3 v 0 [])∧Below w.heap.size w w':=by
 obtain ⟨i0,hi,hz0,hz1,hz2⟩:=info_parts Xp
 by_cases h0:n=0
 ·subst h0
  have k:=Any8.slices_Grow_room K7 none 0 0 0 w (Nat.le_refl _) (by omega) (by omega) (by omega)
  refine Calls.mono k ?_
  rintro e w' ⟨rfl,rfl⟩
  exact ⟨⟨_,rfl,⟨_,_,rfl⟩,World.ownsRow_nil _ _ _ _⟩,Below.refl _ _⟩
 have k:=Any8.slices_Grow_grow K7 i0 _ hi hz0 (by omega) none 0 0 n [] w (Nat.le_refl _) (by omega) (by rw [hz2];omega) (by omega) (by simp) (fun _=>rfl) (fun a h=>by cases h)
 refine Calls.mono k ?_
 rintro e w' ⟨rfl,rfl⟩
 have hG1:=grownCap_ge w (0+n) 0 103
 have hG2:=grownCap_le_maxLen w (0+n) 0 103 (by unfold maxLen;omega)
 refine ⟨⟨_,rfl,⟨_,_,rfl⟩,rfl,.inr ⟨w.heap.size,_,_,rfl,Nat.le_refl _,heap_alloc_new _ _,Nat.zero_le _,hG2,?_,by simp⟩⟩,(Below.refl _ _).trans (by go_grown)⟩
 have e3:(Value.agg #[.int .i64 0,.int .i64 0,.int .i64 0]).cells.size=3:=rfl
 simp only [Array.size_append,size_zeroCells,e3,List.size_toArray,List.length_nil]
 show 0+(0+n - 0)*3+(grownCap w (0+n) 0 103 - (0+n))*3=grownCap w (0+n) 0 103*3
 omega

theorem JQ (g:Nat) (a0:Option Addr) (n0 c0:Nat) (xs:List I3) (a1:Option Addr) (n1 c1:Nat) (ys:List I3) (w:World) (h0:Zr w a0 n0 c0 xs) (h1:Zr w a1 n1 c1 ys) (m0:n0≤400000) (m1:n1≤400000)
  (z0:a0=none→c0=0) (z1:a1=none→c1=0) (p0:∀ a,a0=some a→a.spot=none) (p1:∀ a,a1=some a→a.spot=none) (d0:w.cell? ⟨g,0,none⟩=some (.slice a0 n0 c0)) (d1:w.cell? ⟨g,1,none⟩=some (.slice a1 n1 c1)) :
  Calls Tryz.prog 127 #[.slice (some ⟨g,0,none⟩) 2 2] w fun e w'=>(∃ v,e=.returned v∧(∃ a n c,v=.slice a n c)∧w'.ownsRow w.heap.size 103 3 v (n0+n1) (Zn (xs++ys)))∧Below w.heap.size w w':=by
 obtain ⟨i0,hi,hz0,hz1,hz2⟩:=info_parts Xp
 have l0:=h0.1
 have l1:=h1.1
 have H1:Hid (∀ W,Below w.heap.size w W→Zr W a1 n1 c1 ys):=fun W hb=>h1.below hb
 have hgw:g<w.heap.size:=World.block_lt_of_cell? _ _ d0
 have kG:Hid (∀ (z:Int) (W:World),z=(n0:Int)+(n1:Int)→Calls Tryz.prog 160 #[.slice none 0 0,.int .i64 z] W fun e w'=>(∃ v,e=.returned v∧(∃ a c,v=.slice a 0 c)∧w'.ownsRow W.heap.size 103 3 v 0 [])∧Below W.heap.size W w'):=by
  intro z W hz
  obtain rfl:z=((n0+n1:Nat):Int):=by omega
  exact MO (n0+n1) W (by omega)

 have HF:Hid (Zn (xs++ys)=Zn xs++Zn ys):=Yp xs ys
 go_enter Tryz.func127,Tryz.ntmps127
 go_wp2_with fail
 refine wp_loop_rounds 3 ?_
 rw [rounds_succ]
 go_wp2
 rw [rounds_succ]
 go_wp2
 rw [rounds_succ]
 go_wp2_with fail
 refine (kG.out _ _ rfl).mono ?_
 rintro e w1 ⟨⟨v,rfl,⟨aG,cG,rfl⟩,hq⟩,bw⟩
 clear kG
 replace h0:=h0.below bw
 replace h1:=h1.below bw
 replace d0:=Za bw _ _ d0
 replace d1:=Za bw _ _ d1
 have hsz:=bw.size
 go_wp2_with fail
 refine wp_loop_rounds 3 ?_
 rw [rounds_succ]
 rcases a0 with _ | ⟨b0,o0,s0⟩
 ·obtain rfl:=z0 rfl
  obtain rfl:n0=0:=by have:=h0.2.1;omega
  obtain rfl:xs=[]:=List.length_eq_zero_iff.1 l0
  rcases a1 with _ | ⟨b1,o1,s1⟩
  ·obtain rfl:=z1 rfl
   obtain rfl:n1=0:=by have:=h1.2.1;omega
   obtain rfl:ys=[]:=List.length_eq_zero_iff.1 l1
   go_wp2_with (at_builtin;refine wpList_append_own_none rfl _ _ 28 rfl w.heap.size 103 i0 3 Tryz.underlying28 hi (.slice aG 0 cG) _ _ rfl hq rfl ?_)
   go_wp2_with fail
   rw [rounds_succ]
   go_wp2_with (at_builtin;refine wpList_append_own_none rfl _ _ 28 rfl w.heap.size 103 i0 3 Tryz.underlying28 hi (.slice aG 0 cG) _ _ rfl hq rfl ?_)
   go_wp2_with fail
   rw [rounds_succ]
   have HQ:Hid (∀ e:Ending,e=Ending.returned (.slice aG 0 cG)→∃ v,e=Ending.returned v∧(∃ a n c,v=Value.slice a n c)∧w1.ownsRow w.heap.size 103 3 v (0+0) (Zn ([]++[]))):=fun e he=>⟨_,he,QV hq,by simpa [Yp,Zn] using hq⟩
   clear hq h0 h1 d0 d1
   go_wp2
   go_ret
   exact ⟨HQ.out _ rfl,bw⟩
  obtain rfl:s1=none:=p1 _ rfl
  go_wp2_with (at_builtin;refine wpList_append_own_none rfl _ _ 28 rfl w.heap.size 103 i0 3 Tryz.underlying28 hi (.slice aG 0 cG) _ _ rfl hq rfl ?_)
  go_wp2_with fail
  rw [rounds_succ]
  go_wp2_with (at_builtin;refine wpList_append_own _ rfl _ _ 28 rfl w.heap.size 103 i0 (.agg #[.int .i64 0,.int .i64 0,.int .i64 0]) 3 24 Tryz.underlying28 hi hz0 hz1 hz2 rfl (by decide) (.slice aG 0 cG) _ _ rfl hq ⟨b1,o1,none⟩ n1 c1 (Zn ys) rfl (by rw [Zw];omega) (Yb h1) (Yk _) (by unfold maxLen;omega) (by omega) hsz ?_)
  intro v3 U3 q3 gr _
  replace d0:=Zg gr d0 (fun e=>by have h9:=(hq.lt _ e.symm).1;have h8:=hgw;simp at h9;omega)
  replace d1:=Zg gr d1 (fun e=>by have h9:=(hq.lt _ e.symm).1;have h8:=hgw;simp at h9;omega)
  replace bw:=bw.grown gr hsz (fun j hj=>(hq.lt j hj).1)
  replace h1:=H1.out _ bw
  replace hsz:=Nat.le_trans hsz gr.size
  clear gr
  go_wp2_with fail
  rw [rounds_succ]
  have HQ:Hid (∀ e:Ending,e=Ending.returned v3→∃ v,e=Ending.returned v∧(∃ a n c,v=Value.slice a n c)∧U3.ownsRow w.heap.size 103 3 v (0+n1) (Zn ([]++ys))):=fun e he=>⟨_,he,QV q3,by simpa [Yp,Zn] using q3⟩
  clear q3 h0 h1 d0 d1
  go_wp2
  go_ret
  exact ⟨HQ.out _ rfl,bw⟩
 obtain rfl:s0=none:=p0 _ rfl
 rcases a1 with _ | ⟨b1,o1,s1⟩
 ·obtain rfl:=z1 rfl
  obtain rfl:n1=0:=by have:=h1.2.1;omega
  obtain rfl:ys=[]:=List.length_eq_zero_iff.1 l1
  go_wp2_with (at_builtin;refine wpList_append_own _ rfl _ _ 28 rfl w.heap.size 103 i0 (.agg #[.int .i64 0,.int .i64 0,.int .i64 0]) 3 24 Tryz.underlying28 hi hz0 hz1 hz2 rfl (by decide) (.slice aG 0 cG) _ _ rfl hq ⟨b0,o0,none⟩ n0 c0 (Zn xs) rfl (by rw [Zw];omega) (Yb h0) (Yk _) (by unfold maxLen;omega) (by omega) hsz ?_)
  intro v2 U2 q2 gr _
  replace d0:=Zg gr d0 (fun e=>by have h9:=(hq.lt _ e.symm).1;have h8:=hgw;simp at h9;omega)
  replace d1:=Zg gr d1 (fun e=>by have h9:=(hq.lt _ e.symm).1;have h8:=hgw;simp at h9;omega)
  replace bw:=bw.grown gr hsz (fun j hj=>(hq.lt j hj).1)
  replace h1:=H1.out _ bw
  replace hsz:=Nat.le_trans hsz gr.size
  clear gr
  go_wp2_with fail
  rw [rounds_succ]
  go_wp2_with (at_builtin;refine wpList_append_own_none rfl _ _ 28 rfl w.heap.size 103 i0 3 Tryz.underlying28 hi v2 _ _ rfl q2 rfl ?_)
  go_wp2_with fail
  rw [rounds_succ]
  have HQ:Hid (∀ e:Ending,e=Ending.returned v2→∃ v,e=Ending.returned v∧(∃ a n c,v=Value.slice a n c)∧U2.ownsRow w.heap.size 103 3 v (n0+0) (Zn (xs++[]))):=fun e he=>⟨_,he,QV q2,by simpa [Yp,Zn] using q2⟩
  clear q2 h0 h1 d0 d1
  go_wp2
  go_ret
  exact ⟨HQ.out _ rfl,bw⟩
 obtain rfl:s1=none:=p1 _ rfl
 go_wp2_with (at_builtin;refine wpList_append_own _ rfl _ _ 28 rfl w.heap.size 103 i0 (.agg #[.int .i64 0,.int .i64 0,.int .i64 0]) 3 24 Tryz.underlying28 hi hz0 hz1 hz2 rfl (by decide) (.slice aG 0 cG) _ _ rfl hq ⟨b0,o0,none⟩ n0 c0 (Zn xs) rfl (by rw [Zw];omega) (Yb h0) (Yk _) (by unfold maxLen;omega) (by omega) hsz ?_)
 intro v2 U2 q2 gr _
 replace d0:=Zg gr d0 (fun e=>by have h9:=(hq.lt _ e.symm).1;have h8:=hgw;simp at h9;omega)
 replace d1:=Zg gr d1 (fun e=>by have h9:=(hq.lt _ e.symm).1;have h8:=hgw;simp at h9;omega)
 replace bw:=bw.grown gr hsz (fun j hj=>(hq.lt j hj).1)
 replace h1:=H1.out _ bw
 replace hsz:=Nat.le_trans hsz gr.size
 clear gr
 go_wp2_with fail
 rw [rounds_succ]
 go_wp2_with (at_builtin;refine wpList_append_own _ rfl _ _ 28 rfl w.heap.size 103 i0 (.agg #[.int .i64 0,.int .i64 0,.int .i64 0]) 3 24 Tryz.underlying28 hi hz0 hz1 hz2 rfl (by decide) v2 _ _ rfl q2 ⟨b1,o1,none⟩ n1 c1 (Zn ys) rfl (by rw [Zw];omega) (Yb h1) (Yk _) (by unfold maxLen;omega) (by omega) hsz ?_)
 intro v3 U3 q3 gr _
 replace d0:=Zg gr d0 (fun e=>by have h9:=(q2.lt _ e.symm).1;have h8:=hgw;simp at h9;omega)
 replace d1:=Zg gr d1 (fun e=>by have h9:=(q2.lt _ e.symm).1;have h8:=hgw;simp at h9;omega)
 replace bw:=bw.grown gr hsz (fun j hj=>(q2.lt j hj).1)
 replace h1:=H1.out _ bw
 replace hsz:=Nat.le_trans hsz gr.size
 clear gr
 go_wp2_with fail
 rw [rounds_succ]
 have HQ:Hid (∀ e:Ending,e=Ending.returned v3→∃ v,e=Ending.returned v∧(∃ a n c,v=Value.slice a n c)∧U3.ownsRow w.heap.size 103 3 v (n0+n1) (Zn (xs++ys))):=fun e he=>⟨_,he,QV q3,by simpa [Yp,Zn] using q3⟩
 clear q3 h0 h1 d0 d1
 go_wp2
 go_ret
 exact ⟨HQ.out _ rfl,bw⟩
end Go.Proofs.YtgmhhegckcionaaGreatDoor
