/-
  Joined: VmDraw, RunPl, RunQ, TakM, RpE, SortL, CatB.
-/
import Derived.Lib.FieldsP
import Derived.Stop.Asserts
import Derived.Recover
import Derived.Shelf.SlSortCmp.NoneTotal
import Derived.Shelf.Spec.SlicesGrow
import Derived.Test.YtnffeclgboomoaaGreatDoorT18
import Derived.Test.YtnffeclgboomoaaGreatDoorT32

namespace Go.Proofs.YtnffeclgboomoaaGreatDoor
set_option maxRecDepth 100000
set_option maxHeartbeats 16000000
open Go.RowKit
set_option linter.unusedVariables false
set_option linter.unusedSimpArgs false

theorem ZJ.lowerB {B B':Nat} {w:World} {s:S4} {m:V4} (h:ZJ w B s m) (hB:B'≤B):ZJ w B' s m:=⟨⟨Xl h.1.1 hB,Xl h.1.2.1 hB,Xl h.1.2.2.1 hB,Xl h.1.2.2.2 hB⟩,h.2⟩
theorem Xp {P:Program} {ops:Array Oper} {o:Oper} {a:Act} {w:World} {K:Act→World→Prop} {Q:Exit→Act→World→Prop} {E:Prop} (hgd:o.guard=none) (ty:TypeId) (x y:Operand) (ho:o.op=.store ty x y) (g:Nat) (vs:List Value) (hx:a.eval x=.pointer (some ⟨g,0,none⟩)) (hy:a.eval y=.agg vs.toArray) {t:Nat} {cs:List Value} (hB:Blk w g t cs)
  (hi:(P.info? ty).map (·.size)=some vs.length) (hl:cs.length=vs.length) (h1:vs.all (·.oneCell')=true)
  (h:∀ w',Hid (Blk w' g t vs)→w.grownBy w' (some g)→K (a.put o.dst undef) w'):if Region.wanted o (yielded ops a.tmps)=true then Oper.wp P o a w K Q else E:=by
 have hw:Region.wanted o (yielded ops a.tmps)=true:=by simp [Region.wanted,hgd]
 rw [if_pos hw]
 exact wp_store_row ty x y ho g vs.toArray hx hy t cs.toArray hB (by simpa using hi) (by simpa using hl) (by simpa using h1) (h _ (UN vs hB) (Wp _ _ _))


def VS (rows:List (List I3)) (m:V4) (k:Int):Int:=
 if 0≤k∧k≤2 then (if Yt rows m k.toNat then 10 else if WZ rows m k.toNat then 0 else 11) else 4
def goM (rows:List (List I3)) (m:V4) (k:Int):V4 × Int:=ZH m (Xj rows m k.toNat) k.toNat
def XO (rows:List (List I3)) (m:V4) (k:Int):List I3:=if (goM rows m k).2=0 then [] else [((goM rows m k).2,k,m.1.getD k.toNat 0)]
def ZB (rows:List (List I3)) (m:V4):List I3:=if Wk rows m then [(14,0,0)] else []
def Y6 (rows:List (List I3)) (m:V4) (k:Int):List I3:=if Wk rows (goM rows m k).1 then YE (XO rows m k) (14,0,0) else XO rows m k

theorem X6 {rows:List (List I3)} {m:V4} {k:Int} (h:VS rows m k=0):0≤k∧k≤2∧Yt rows m k.toNat=false∧WZ rows m k.toNat=true:=by
 unfold VS at h
 split at h
 ·rename_i hk
  cases hd:Yt rows m k.toNat
  ·cases hc:WZ rows m k.toNat
   ·rw [hd,hc] at h;simp at h
   exact ⟨hk.1,hk.2,rfl,rfl⟩
  rw [hd] at h;simp at h
 cases h


theorem M8 (m:V4) (x:I3) (k:Nat):(ZH m x k).2=0∨(ZH m x k).2=12∨(ZH m x k).2=13:=by
 unfold ZH
 repeat' split
 all_goals simp
theorem GV {rows:List (List I3)} {m:V4} {k:Int} (hp:Zj rows=true) (hs:Zd m=true) (hz:VS rows m k=0):∀ x ∈ XO rows m k,okB x=true:=by
 obtain ⟨h0,h2,hd,hc⟩:=X6 hz
 obtain ⟨q,rfl⟩:∃ q:Nat,k=q:=⟨k.toNat,by omega⟩
 rw [Int.toNat_natCast] at hd
 have hq:q<3:=by omega
 obtain ⟨p,ep,hlt,_,_⟩:=VL hp hs hq hd
 have hl6:=(Wv hp hq).1
 have hf:=M8 m (Xj rows m q) q
 intro x hx
 unfold XO goM at hx
 rw [Int.toNat_natCast] at hx
 split at hx
 ·simp at hx
 rename_i h9
 simp only [List.mem_singleton] at hx
 subst hx
 unfold okB
 simp only
 have h12:(ZH m (Xj rows m q) q).2=12∨(ZH m (Xj rows m q) q).2=13:=by omega
 rw [if_neg (by omega),if_pos h12,ep]
 rw [Bool.and_eq_true]
 exact ⟨Zy.2 (by omega),Zy.2 (by omega)⟩
theorem T6 {rows:List (List I3)} {m:V4} {k:Int} (hp:Zj rows=true) (hs:Zd m=true) (hz:VS rows m k=0):Zd (goM rows m k).1=true:=by
 obtain ⟨h0,h2,hd,hc⟩:=X6 hz
 exact RV hp hs (by omega) hd
theorem Yx {x:I3} (h:okB x=true):I3.fits x:=by
 unfold okB at h
 split at h
 ·rename_i h1
  simp only [Bool.and_eq_true,decide_eq_true_eq] at h
  exact ⟨Z4 (by omega) (by omega),Z4 (by omega) (by omega),Z4 (by omega) (by omega)⟩
 split at h
 ·rename_i h1
  rw [Bool.and_eq_true] at h
  have a:=Zy.1 h.1
  have b:=Zy.1 h.2
  exact ⟨Z4 (by omega) (by omega),Z4 (by omega) (by omega),Z4 (by omega) (by omega)⟩
 cases h


theorem KF {a b c:World} {r:Option Nat} {j:Nat} (h:a.grownBy b r) (k:b.grownBy c (some j)) (hj:a.heap.size≤j):a.grownBy c r:=
 ⟨k.os.trans h.os,k.tape.trans h.tape,k.output.trans h.output,Nat.le_trans h.size k.size,fun i hi hr=>(k.block i (Nat.lt_of_lt_of_le hi h.size) (by simp;omega)).trans (h.block i hi hr)⟩

theorem G2 {w:World} {g:Nat} {cs:Sl × Sl × Sl} {rows:List (List I3)} {m:V4} (h:YD w g cs rows m) (hp:Zj rows=true) (hs:Zd m=true) {k:Nat} (hk:k<3) (hd:Yt rows m k=false) :
  Calls Tryz.prog 176 #[.pointer (some ⟨g,0,none⟩),.int .i64 k] w fun e w'=>e=.returned (.agg #[.int .i64 (ZH m (Xj rows m k) k).2,.int .i64 k,.int .i64 (m.1.getD k 0)])∧Blk w' g 122 (Zk cs.1.val cs.2.1.val cs.2.2.val (ZH m (Xj rows m k) k).1)∧w.grownBy w' (some g):=by
 have kS:=fun W (hM:YD W g cs rows m)=>G1 hM hp hs hk hd
 generalize ZH m (Xj rows m k) k=zf at *
 obtain ⟨z,f⟩:=zf
 simp only at kS ⊢
 have hk3:(k:Int)<3:=by omega
 obtain ⟨pc,hpc⟩:∃ pc,pc=m.1.getD k 0:=⟨_,rfl⟩
 rw [← hpc]
 have HPc:Hid (pc=m.1.getD k 0):=hpc
 clear hd hp hs hpc
 have hgl:=h.1.lt
 have pB:=Blk.new w 127 [.int .i64 0,.int .i64 0,.int .i64 0]
 have bz:Below w.heap.size w (w.alloc (.cells #[.int .i64 0,.int .i64 0,.int .i64 0] 127)):=by go_grown
 replace h:=h.below bz
 have r1:=h.pc hk
 rw [← HPc.out] at r1
 clear HPc
 have kSx:=kS _ h
 clear kS h
 go_enter Tryz.func176,Tryz.ntmps176
 go_wp2_with fail
 refine kSx.mono ?_
 rintro e w2 ⟨rfl,hM2,g2⟩
 have gz:w.grownBy w2 (some g):=Z5 (YG bz) g2
 have pB2:=pB.kept g2 (by simp;omega)
 have hsz:=gz.size
 clear kSx g2 bz r1 pB
 obtain ⟨GB,hGB⟩:∃ GB,GB=w.heap.size:=⟨_,rfl⟩
 have hwj:w.heap.size≤GB:=by omega
 rw [← hGB] at pB2 hgl ⊢
 clear hGB hsz
 go_wp2_with (refine Zf rfl 127 _ _ rfl GB [.int .i64 f,.int .i64 k,.int .i64 pc] rfl rfl pB2 (by kernel_rfl) rfl rfl ?_)
 intro W9 pR2 g3
 have hM3:=hM2.kept g3 (by simp;omega)
 go_wp2
 refine bodyPost_ret (Vz Tryz.results176 _ _ _ _ _ _ rfl pR2.out Tryz.underlying127 rfl (by kernel_rfl)) rfl ?_
 exact ⟨rfl,hM3,KF gz g3 hwj⟩


theorem Hw (rows:List (List I3)) (m:V4) (k:Int):(XO rows m k).length≤1:=by unfold XO;split<;>simp

open Go.RowKit Go.Shelf

def N8:Go.Shelf.Ren:=⟨fun | 6=>179 | 15=>216 | 14=>215 | 28=>234 | 29=>235 | 20=>226 | 21=>227 | 22=>228 | 23=>229 | 24=>230 | 25=>231 | 26=>232 | 27=>233 | 46=>254 | 47=>255 | 48=>256 | 49=>257 | 50=>258 | 57=>266 | n=>n,fun | 22=>28 | 24=>127 | 25=>230 | 3=>3 | 39=>252 | 0=>0 | 53=>300 | 55=>302 | 4=>4 | 46=>294 | 45=>293 | 50=>138 | 5=>5 | 9=>9 | 66=>314 | 70=>318 | 76=>324 | 77=>167 | n=>n,fun | n=>n⟩
theorem L4:Go.Proofs.SlLaysF0.n6 Tryz.prog N8:={
 mixed:=by kernel_rfl
 f6:=⟨Tryz.f179.name,by decide,Tryz.func179.trans (congrArg some (by kernel_rfl))⟩
 f14:=⟨Tryz.f215.name,by decide,Tryz.func215.trans (congrArg some (by kernel_rfl))⟩
 f15:=Tryz.func216.trans (congrArg some (by kernel_rfl))
 f20:=⟨Tryz.f226.name,by decide,Tryz.func226.trans (congrArg some (by kernel_rfl))⟩
 f21:=⟨Tryz.f227.name,by decide,Tryz.func227.trans (congrArg some (by kernel_rfl))⟩
 f22:=⟨Tryz.f228.name,by decide,Tryz.func228.trans (congrArg some (by kernel_rfl))⟩
 f23:=⟨Tryz.f229.name,by decide,Tryz.func229.trans (congrArg some (by kernel_rfl))⟩
 f24:=⟨Tryz.f230.name,by decide,Tryz.func230.trans (congrArg some (by kernel_rfl))⟩
 f25:=⟨Tryz.f231.name,by decide,Tryz.func231.trans (congrArg some (by kernel_rfl))⟩
 f26:=⟨Tryz.f232.name,by decide,Tryz.func232.trans (congrArg some (by kernel_rfl))⟩
 f27:=⟨Tryz.f233.name,by decide,Tryz.func233.trans (congrArg some (by kernel_rfl))⟩
 f28:=Tryz.func234.trans (congrArg some (by kernel_rfl))
 f29:=Tryz.func235.trans (congrArg some (by kernel_rfl))
 f46:=⟨Tryz.f254.name,by decide,Tryz.func254.trans (congrArg some (by kernel_rfl))⟩
 f47:=Tryz.func255.trans (congrArg some (by kernel_rfl))
 f48:=Tryz.func256.trans (congrArg some (by kernel_rfl))
 f49:=⟨Tryz.f257.name,by decide,Tryz.func257.trans (congrArg some (by kernel_rfl))⟩
 f50:=⟨Tryz.f258.name,by decide,Tryz.func258.trans (congrArg some (by kernel_rfl))⟩
 f57:=⟨Tryz.f266.name,by decide,Tryz.func266.trans (congrArg some (by kernel_rfl))⟩
 t0:=Tryz.underlying0
 a0:=Tryz.isAgg0
 z0:=Tryz.sizeOf0
 v0:=Tryz.zeroValue0
 t3:=Tryz.underlying3
 a3:=Tryz.isAgg3
 z3:=Tryz.sizeOf3
 v3:=Tryz.zeroValue3
 t4:=Tryz.underlying4
 a4:=Tryz.isAgg4
 z4:=Tryz.sizeOf4
 v4:=Tryz.zeroValue4
 t5:=Tryz.underlying5
 a5:=Tryz.isAgg5
 z5:=Tryz.sizeOf5
 v5:=Tryz.zeroValue5
 t9:=Tryz.underlying9
 a9:=Tryz.isAgg9
 z9:=Tryz.sizeOf9
 v9:=Tryz.zeroValue9
 t22:=Tryz.underlying28
 a22:=Tryz.isAgg28
 z22:=Tryz.sizeOf28
 v22:=Tryz.zeroValue28
 t25:=Tryz.underlying230
 a25:=Tryz.isAgg230
 z25:=Tryz.sizeOf230
 v25:=Tryz.zeroValue230
 t39:=Tryz.underlying252
 a39:=Tryz.isAgg252
 z39:=Tryz.sizeOf252
 v39:=Tryz.zeroValue252
 t45:=Tryz.underlying293
 a45:=Tryz.isAgg293
 z45:=Tryz.sizeOf293
 v45:=Tryz.zeroValue293
 t46:=Tryz.underlying294
 a46:=Tryz.isAgg294
 z46:=Tryz.sizeOf294
 v46:=Tryz.zeroValue294
 t50:=Tryz.underlying138
 a50:=Tryz.isAgg138
 z50:=Tryz.sizeOf138
 v50:=Tryz.zeroValue138
 t53:=Tryz.underlying300
 a53:=Tryz.isAgg300
 z53:=Tryz.sizeOf300
 v53:=Tryz.zeroValue300
 t55:=Tryz.underlying302
 a55:=Tryz.isAgg302
 z55:=Tryz.sizeOf302
 v55:=Tryz.zeroValue302
 t66:=Tryz.underlying314
 a66:=Tryz.isAgg314
 z66:=Tryz.sizeOf314
 v66:=Tryz.zeroValue314
 t70:=Tryz.underlying318
 a70:=Tryz.isAgg318
 z70:=Tryz.sizeOf318
 v70:=Tryz.zeroValue318
 t76:=Tryz.underlying324
 a76:=Tryz.isAgg324
 z76:=Tryz.sizeOf324
 v76:=Tryz.zeroValue324
 t77:=Tryz.underlying167
 a77:=Tryz.isAgg167
 z77:=Tryz.sizeOf167
 v77:=Tryz.zeroValue167 }


def Nr:Go.Shelf.Ren:=⟨fun | 4=>214 | n=>n,fun | 22=>28 | 25=>127 | 3=>3 | 4=>4 | 9=>9 | 20=>20 | 0=>0 | n=>n,fun | n=>n⟩
theorem LI:Go.Proofs.Lays8.n4 Tryz.prog Nr:={
 mixed:=by kernel_rfl
 f4:=⟨Tryz.f214.name,by decide,Tryz.func214.trans (congrArg some (by kernel_rfl))⟩
 t0:=Tryz.underlying0
 a0:=Tryz.isAgg0
 z0:=Tryz.sizeOf0
 v0:=Tryz.zeroValue0
 t3:=Tryz.underlying3
 a3:=Tryz.isAgg3
 z3:=Tryz.sizeOf3
 v3:=Tryz.zeroValue3
 t4:=Tryz.underlying4
 a4:=Tryz.isAgg4
 z4:=Tryz.sizeOf4
 v4:=Tryz.zeroValue4
 t9:=Tryz.underlying9
 a9:=Tryz.isAgg9
 z9:=Tryz.sizeOf9
 v9:=Tryz.zeroValue9
 t20:=Tryz.underlying20
 a20:=Tryz.isAgg20
 z20:=Tryz.sizeOf20
 v20:=Tryz.zeroValue20
 t22:=Tryz.underlying28
 a22:=Tryz.isAgg28
 z22:=Tryz.sizeOf28
 v22:=Tryz.zeroValue28 }

theorem RJ {w:World} {B e s n:Nat} {v:Value} {cs:List Value} (h:w.ownsRow B e s v n cs):∃ a m c,v=.slice a m c:=by
 rcases h.2 with ⟨rfl,h0⟩ | ⟨g,cap,cur,hv,_⟩
 ·exact ⟨_,_,_,rfl⟩
 exact ⟨_,_,_,hv⟩
theorem Nq (n:Nat) (w:World) (hn:n≤1000000) :
  Calls Tryz.prog 214 #[.slice none 0 0,.int .i64 n] w fun e w'=>(∃ v,e=.returned v∧(∃ a c,v=.slice a 0 c)∧w'.ownsRow w.heap.size 127 3 v 0 [])∧Below w.heap.size w w':=by
 obtain ⟨i0,hi,hz0,hz1,hz2⟩:=info_parts Wc
 by_cases h0:n=0
 ·subst h0
  have k:=Any8.slices_Grow_room LI none 0 0 0 w (Nat.le_refl _) (by omega) (by omega) (by omega)
  refine Calls.mono k ?_
  rintro e w' ⟨rfl,rfl⟩
  exact ⟨⟨_,rfl,⟨_,_,rfl⟩,World.ownsRow_nil _ _ _ _⟩,Below.refl _ _⟩
 have k:=Any8.slices_Grow_grow LI i0 _ hi hz0 (by omega) none 0 0 n [] w (Nat.le_refl _) (by omega) (by rw [hz2];omega) (by omega) (by simp) (fun _=>rfl) (fun a h=>by cases h)
 refine Calls.mono k ?_
 rintro e w' ⟨rfl,rfl⟩
 have hG1:=grownCap_ge w (0+n) 0 127
 have hG2:=grownCap_le_maxLen w (0+n) 0 127 (by unfold maxLen;omega)
 refine ⟨⟨_,rfl,⟨_,_,rfl⟩,rfl,.inr ⟨w.heap.size,_,_,rfl,Nat.le_refl _,heap_alloc_new _ _,Nat.zero_le _,hG2,?_,by simp⟩⟩,(Below.refl _ _).trans (by go_grown)⟩
 have e3:(Value.agg #[.int .i64 0,.int .i64 0,.int .i64 0]).cells.size=3:=rfl
 simp only [Array.size_append,size_zeroCells,e3,List.size_toArray,List.length_nil]
 show 0+(0+n - 0)*3+(grownCap w (0+n) 0 127 - (0+n))*3=grownCap w (0+n) 0 127*3
 omega

theorem Kr (g:Nat) (a0:Option Addr) (n0 c0:Nat) (xs:List I3) (a1:Option Addr) (n1 c1:Nat) (ys:List I3) (w:World) (h0:Zl w a0 n0 c0 xs) (h1:Zl w a1 n1 c1 ys) (m0:n0≤400000) (m1:n1≤400000)
  (z0:a0=none→c0=0) (z1:a1=none→c1=0) (p0:∀ a,a0=some a→a.spot=none) (p1:∀ a,a1=some a→a.spot=none) (d0:w.cell? ⟨g,0,none⟩=some (.slice a0 n0 c0)) (d1:w.cell? ⟨g,1,none⟩=some (.slice a1 n1 c1)) :
  Calls Tryz.prog 178 #[.slice (some ⟨g,0,none⟩) 2 2] w fun e w'=>(∃ v,e=.returned v∧(∃ a n c,v=.slice a n c)∧w'.ownsRow w.heap.size 127 3 v (n0+n1) (Zm (xs++ys)))∧Below w.heap.size w w':=by
 obtain ⟨i0,hi,hz0,hz1,hz2⟩:=info_parts Wc
 have l0:=h0.1
 have l1:=h1.1
 have H1:Hid (∀ W,Below w.heap.size w W→Zl W a1 n1 c1 ys):=fun W hb=>h1.below hb
 have hgw:g<w.heap.size:=World.block_lt_of_cell? _ _ d0
 have kG:Hid (∀ (z:Int) (W:World),z=(n0:Int)+(n1:Int)→Calls Tryz.prog 214 #[.slice none 0 0,.int .i64 z] W fun e w'=>(∃ v,e=.returned v∧(∃ a c,v=.slice a 0 c)∧w'.ownsRow W.heap.size 127 3 v 0 [])∧Below W.heap.size W w'):=by
  intro z W hz
  obtain rfl:z=((n0+n1:Nat):Int):=by omega
  exact Nq (n0+n1) W (by omega)

 have HF:Hid (Zm (xs++ys)=Zm xs++Zm ys):=Z9 xs ys
 go_enter Tryz.func178,Tryz.ntmps178
 go_wp2_with fail
 refine wp_loop_rounds 3 ?_
 rw [rounds_succ]
 go_wp2
 rw [rounds_succ]
 go_wp2
 rw [rounds_succ]
 go_wp2_with fail
 refine (kG.out _ _ rfl).mono ?_
 rintro e w1 ⟨⟨v,rfl,⟨aG,cG,rfl⟩,hq⟩,bw⟩
 clear kG
 replace h0:=h0.below bw
 replace h1:=h1.below bw
 replace d0:=Za bw _ _ d0
 replace d1:=Za bw _ _ d1
 have hsz:=bw.size
 go_wp2_with fail
 refine wp_loop_rounds 3 ?_
 rw [rounds_succ]
 rcases a0 with _ | ⟨b0,o0,s0⟩
 ·obtain rfl:=z0 rfl
  obtain rfl:n0=0:=by have:=h0.2.1;omega
  obtain rfl:xs=[]:=List.length_eq_zero_iff.1 l0
  rcases a1 with _ | ⟨b1,o1,s1⟩
  ·obtain rfl:=z1 rfl
   obtain rfl:n1=0:=by have:=h1.2.1;omega
   obtain rfl:ys=[]:=List.length_eq_zero_iff.1 l1
   go_wp2_with (at_builtin;refine wpList_append_own_none rfl _ _ 28 rfl w.heap.size 127 i0 3 Tryz.underlying28 hi (.slice aG 0 cG) _ _ rfl hq rfl ?_)
   go_wp2_with fail
   rw [rounds_succ]
   go_wp2_with (at_builtin;refine wpList_append_own_none rfl _ _ 28 rfl w.heap.size 127 i0 3 Tryz.underlying28 hi (.slice aG 0 cG) _ _ rfl hq rfl ?_)
   go_wp2_with fail
   rw [rounds_succ]
   have HQ:Hid (∀ e:Ending,e=Ending.returned (.slice aG 0 cG)→∃ v,e=Ending.returned v∧(∃ a n c,v=Value.slice a n c)∧w1.ownsRow w.heap.size 127 3 v (0+0) (Zm ([]++[]))):=fun e he=>⟨_,he,RJ hq,by simpa [Z9,Zm] using hq⟩
   clear hq h0 h1 d0 d1
   go_wp2
   go_ret
   exact ⟨HQ.out _ rfl,bw⟩
  obtain rfl:s1=none:=p1 _ rfl
  go_wp2_with (at_builtin;refine wpList_append_own_none rfl _ _ 28 rfl w.heap.size 127 i0 3 Tryz.underlying28 hi (.slice aG 0 cG) _ _ rfl hq rfl ?_)
  go_wp2_with fail
  rw [rounds_succ]
  go_wp2_with (at_builtin;refine wpList_append_own _ rfl _ _ 28 rfl w.heap.size 127 i0 (.agg #[.int .i64 0,.int .i64 0,.int .i64 0]) 3 24 Tryz.underlying28 hi hz0 hz1 hz2 rfl (by decide) (.slice aG 0 cG) _ _ rfl hq ⟨b1,o1,none⟩ n1 c1 (Zm ys) rfl (by rw [Zo];omega) (ZG h1) (Z0 _) (by unfold maxLen;omega) (by omega) hsz ?_)
  intro v3 U3 q3 gr _
  replace d0:=Ze gr d0 (fun e=>by have h9:=(hq.lt _ e.symm).1;have h8:=hgw;simp at h9;omega)
  replace d1:=Ze gr d1 (fun e=>by have h9:=(hq.lt _ e.symm).1;have h8:=hgw;simp at h9;omega)
  replace bw:=bw.grown gr hsz (fun j hj=>(hq.lt j hj).1)
  replace h1:=H1.out _ bw
  replace hsz:=Nat.le_trans hsz gr.size
  clear gr
  go_wp2_with fail
  rw [rounds_succ]
  have HQ:Hid (∀ e:Ending,e=Ending.returned v3→∃ v,e=Ending.returned v∧(∃ a n c,v=Value.slice a n c)∧U3.ownsRow w.heap.size 127 3 v (0+n1) (Zm ([]++ys))):=fun e he=>⟨_,he,RJ q3,by simpa [Z9,Zm] using q3⟩
  clear q3 h0 h1 d0 d1
  go_wp2
  go_ret
  exact ⟨HQ.out _ rfl,bw⟩
 obtain rfl:s0=none:=p0 _ rfl
 rcases a1 with _ | ⟨b1,o1,s1⟩
 ·obtain rfl:=z1 rfl
  obtain rfl:n1=0:=by have:=h1.2.1;omega
  obtain rfl:ys=[]:=List.length_eq_zero_iff.1 l1
  go_wp2_with (at_builtin;refine wpList_append_own _ rfl _ _ 28 rfl w.heap.size 127 i0 (.agg #[.int .i64 0,.int .i64 0,.int .i64 0]) 3 24 Tryz.underlying28 hi hz0 hz1 hz2 rfl (by decide) (.slice aG 0 cG) _ _ rfl hq ⟨b0,o0,none⟩ n0 c0 (Zm xs) rfl (by rw [Zo];omega) (ZG h0) (Z0 _) (by unfold maxLen;omega) (by omega) hsz ?_)
  intro v2 U2 q2 gr _
  replace d0:=Ze gr d0 (fun e=>by have h9:=(hq.lt _ e.symm).1;have h8:=hgw;simp at h9;omega)
  replace d1:=Ze gr d1 (fun e=>by have h9:=(hq.lt _ e.symm).1;have h8:=hgw;simp at h9;omega)
  replace bw:=bw.grown gr hsz (fun j hj=>(hq.lt j hj).1)
  replace h1:=H1.out _ bw
  replace hsz:=Nat.le_trans hsz gr.size
  clear gr
  go_wp2_with fail
  rw [rounds_succ]
  go_wp2_with (at_builtin;refine wpList_append_own_none rfl _ _ 28 rfl w.heap.size 127 i0 3 Tryz.underlying28 hi v2 _ _ rfl q2 rfl ?_)
  go_wp2_with fail
  rw [rounds_succ]
  have HQ:Hid (∀ e:Ending,e=Ending.returned v2→∃ v,e=Ending.returned v∧(∃ a n c,v=Value.slice a n c)∧U2.ownsRow w.heap.size 127 3 v (n0+0) (Zm (xs++[]))):=fun e he=>⟨_,he,RJ q2,by simpa [Z9,Zm] using q2⟩
  clear q2 h0 h1 d0 d1
  go_wp2
  go_ret
  exact ⟨HQ.out _ rfl,bw⟩
 obtain rfl:s1=none:=p1 _ rfl
 go_wp2_with (at_builtin;refine wpList_append_own _ rfl _ _ 28 rfl w.heap.size 127 i0 (.agg #[.int .i64 0,.int .i64 0,.int .i64 0]) 3 24 Tryz.underlying28 hi hz0 hz1 hz2 rfl (by decide) (.slice aG 0 cG) _ _ rfl hq ⟨b0,o0,none⟩ n0 c0 (Zm xs) rfl (by rw [Zo];omega) (ZG h0) (Z0 _) (by unfold maxLen;omega) (by omega) hsz ?_)
 intro v2 U2 q2 gr _
 replace d0:=Ze gr d0 (fun e=>by have h9:=(hq.lt _ e.symm).1;have h8:=hgw;simp at h9;omega)
 replace d1:=Ze gr d1 (fun e=>by have h9:=(hq.lt _ e.symm).1;have h8:=hgw;simp at h9;omega)
 replace bw:=bw.grown gr hsz (fun j hj=>(hq.lt j hj).1)
 replace h1:=H1.out _ bw
 replace hsz:=Nat.le_trans hsz gr.size
 clear gr
 go_wp2_with fail
 rw [rounds_succ]
 go_wp2_with (at_builtin;refine wpList_append_own _ rfl _ _ 28 rfl w.heap.size 127 i0 (.agg #[.int .i64 0,.int .i64 0,.int .i64 0]) 3 24 Tryz.underlying28 hi hz0 hz1 hz2 rfl (by decide) v2 _ _ rfl q2 ⟨b1,o1,none⟩ n1 c1 (Zm ys) rfl (by rw [Zo];omega) (ZG h1) (Z0 _) (by unfold maxLen;omega) (by omega) hsz ?_)
 intro v3 U3 q3 gr _
 replace d0:=Ze gr d0 (fun e=>by have h9:=(q2.lt _ e.symm).1;have h8:=hgw;simp at h9;omega)
 replace d1:=Ze gr d1 (fun e=>by have h9:=(q2.lt _ e.symm).1;have h8:=hgw;simp at h9;omega)
 replace bw:=bw.grown gr hsz (fun j hj=>(q2.lt j hj).1)
 replace h1:=H1.out _ bw
 replace hsz:=Nat.le_trans hsz gr.size
 clear gr
 go_wp2_with fail
 rw [rounds_succ]
 have HQ:Hid (∀ e:Ending,e=Ending.returned v3→∃ v,e=Ending.returned v∧(∃ a n c,v=Value.slice a n c)∧U3.ownsRow w.heap.size 127 3 v (n0+n1) (Zm (xs++ys))):=fun e he=>⟨_,he,RJ q3,by simpa [Z9,Zm] using q3⟩
 clear q3 h0 h1 d0 d1
 go_wp2
 go_ret
 exact ⟨HQ.out _ rfl,bw⟩
end Go.Proofs.YtnffeclgboomoaaGreatDoor
