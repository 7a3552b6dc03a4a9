/-
  Joined: VisI.
-/
import Derived.Test.YtifoggpohlegmaaGreatDoorE37
import Derived.Test.YtifoggpohlegmaaGreatDoorE38

namespace Go.Proofs.YtifoggpohlegmaaGreatDoor
set_option maxRecDepth 100000
set_option maxHeartbeats 16000000
open Go.RowKit
set_option linter.unusedVariables false
set_option linter.unusedSimpArgs false

structure Kp7 (w w':World) (X:Nat) (bv sv:Value):Prop where
 os:w'.os=w.os
 tape:w'.tape=w.tape
 output:w'.output=w.output
 size:w.heap.size≤w'.heap.size
 block:∀ j,j<w.heap.size→j≠X→bv.ownBlock≠some j→sv.ownBlock≠some j→w'.heap[j]?=w.heap[j]?
theorem Kp7.refl (w:World) (X:Nat) (bv sv:Value):Kp7 w w X bv sv:=⟨rfl,rfl,rfl,Nat.le_refl _,fun _ _ _ _ _=>rfl⟩
theorem Kp7.belowR {a b c:World} {X:Nat} {bv sv:Value} (h:Kp7 a b X bv sv) (k:Below b.heap.size b c):Kp7 a c X bv sv:=
 ⟨k.os.trans h.os,k.tape.trans h.tape,k.output.trans h.output,Nat.le_trans h.size k.size,fun j hj h1 h2 h3=>(k.block j (Nat.lt_of_lt_of_le hj h.size)).trans (h.block j hj h1 h2 h3)⟩
theorem Kp7.grX {a b c:World} {X:Nat} {bv sv:Value} (h:Kp7 a b X bv sv) (k:b.grownBy c (some X)):Kp7 a c X bv sv:=
 ⟨k.os.trans h.os,k.tape.trans h.tape,k.output.trans h.output,Nat.le_trans h.size k.size,fun j hj h1 h2 h3=>(k.block j (Nat.lt_of_lt_of_le hj h.size) (fun e=>h1 (by cases e;rfl))).trans (h.block j hj h1 h2 h3)⟩
theorem Kp7.grB {a b c:World} {X:Nat} {bv sv bv':Value} (h:Kp7 a b X bv sv) (hm:ZT a bv bv') (k:b.grownBy c bv'.ownBlock):Kp7 a c X bv sv:=
 ⟨k.os.trans h.os,k.tape.trans h.tape,k.output.trans h.output,Nat.le_trans h.size k.size,fun j hj h1 h2 h3=>(k.block j (Nat.lt_of_lt_of_le hj h.size) (fun e=>by
  rcases hm with hm | ⟨g,hg,hm⟩
  ·exact h2 (hm▸e.symm)
  rw [hm] at e;cases e;omega)).trans (h.block j hj h1 h2 h3)⟩
theorem Kp7.grS {a b c:World} {X:Nat} {bv sv sv':Value} (h:Kp7 a b X bv sv) (hm:ZT a sv sv') (k:b.grownBy c sv'.ownBlock):Kp7 a c X bv sv:=
 ⟨k.os.trans h.os,k.tape.trans h.tape,k.output.trans h.output,Nat.le_trans h.size k.size,fun j hj h1 h2 h3=>(k.block j (Nat.lt_of_lt_of_le hj h.size) (fun e=>by
  rcases hm with hm | ⟨g,hg,hm⟩
  ·exact h3 (hm▸e.symm)
  rw [hm] at e;cases e;omega)).trans (h.block j hj h1 h2 h3)⟩
theorem Kp7.call {a b c:World} {X:Nat} {bv sv bv' uv:Value} (h:Kp7 a b X bv sv) (hm:ZT a bv bv') (k:Kp7 b c X bv' uv) (hu:∀ q,uv.ownBlock=some q→a.heap.size≤q):Kp7 a c X bv sv:=
 ⟨k.os.trans h.os,k.tape.trans h.tape,k.output.trans h.output,Nat.le_trans h.size k.size,fun j hj h1 h2 h3=>(k.block j (Nat.lt_of_lt_of_le hj h.size) h1 (fun e=>by
  rcases hm with hm | ⟨g,hg,hm⟩
  ·exact h2 (hm▸e)
  rw [hm] at e;cases e;omega) (fun e=>by have:=hu j e;omega)).trans (h.block j hj h1 h2 h3)⟩
theorem Kp7.blk {w w':World} {X B B' n n':Nat} {bv sv:Value} {xs ys cx:List Value} (k:Kp7 w w' X bv sv) (hb:w.ownsRow B 64 3 bv n xs) (hz:w.ownsRow B' 3 1 sv n' ys) (hX:Blk w X 70 cx) {g e:Nat} {zs:List Value} (p:Blk w g e zs) (h1:64≠e) (h2:3≠e) (h3:70≠e):Blk w' g e zs:=
 (k.block g p.lt (fun e2=>ZK hX p h3 e2.symm) (Zg hb p h1) (Zg hz p h2)).trans p
theorem Kp7.row {w w':World} {X B n:Nat} {bv sv:Value} {xs cx:List Value} (k:Kp7 w w' X bv sv) (hb:w.ownsRow B 64 3 bv n xs) (hX:Blk w X 70 cx) {B' n':Nat} {v:Value} {zs:List Value} (ho:w.ownsRow B' 3 1 v n' zs) (ha:Ap3 v sv):w'.ownsRow B' 3 1 v n' zs:=by
 have hlt:=fun g hg=>(ZN ho (g:=g) hg).2
 have hnX:=Zg ho hX (by decide)
 have hap:=Ap3.types ho hb (by decide)
 refine ⟨ho.1,?_⟩
 rcases ho.2 with hn | ⟨g,cap,cur,rfl,hb9,hgg,rest⟩
 ·exact .inl hn
 exact .inr ⟨g,cap,cur,rfl,hb9,(k.block g (hlt g rfl) (fun e=>hnX (by rw [← e];rfl)) (hap g rfl) (ha g rfl)).trans hgg,rest⟩
theorem Kp7.below {a b:World} {X B:Nat} {bv sv:Value} (h:Kp7 a b X bv sv) (hX:B≤X) (hb:∀ k,bv.ownBlock=some k→B≤k) (hs:∀ k,sv.ownBlock=some k→B≤k) (hB:B≤a.heap.size):Below B a b:=
 ⟨h.os,h.tape,h.output,h.size,fun k hk=>h.block k (by omega) (by omega) (fun e=>by have:=hb k e;omega) (fun e=>by have:=hs k e;omega)⟩
def F1 (w:World) (B X V:Nat) (st:St7) (bv:Value):Prop:=Blk w X 70 [bv,.int .i64 st.2.1,.int .i64 st.2.2]∧w.ownsRow B 64 3 bv st.1.length (Zo st.1)∧Blk w V 133 [.func (.func 90) #[] #[.pointer (some ⟨X,0,none⟩),.pointer (some ⟨V,0,none⟩)]]
def VX (e:Ending) (w w':World) (B X V:Nat) (bv sv:Value) (st:St7):Prop:=e=.returned (.tuple #[])∧∃ bv',F1 w' B X V st bv'∧ZT w bv bv'∧Kp7 w w' X bv sv
def FA (rows:List (List I3)) (f:Nat) (m:V4) (Z:List Int) (st:St7):Prop:=Zk m=true∧YE rows m<f∧SG rows m Z∧Z.length+3*f≤60∧st.2.2+XY f≤1000000000∧st.1.length≤4*st.2.2∧st.2.1≤st.2.2
def JO (rows:List (List I3)) (wb:World) (X V:Nat) (cs:Sl × Sl × Sl) (f:Nat):Prop:=∀ (m:V4) (Z:List Int) (st:St7),FA rows f m Z st→∀ (w:World) (bv sv:Value),Below wb.heap.size wb w→F1 w wb.heap.size X V st bv→w.ownsRow wb.heap.size 3 1 sv Z.length (Z.map (Value.int .i64)) →
  Calls Tryz.prog 90 #[.agg (Zh cs.1.val cs.2.1.val cs.2.2.val m).toArray,sv,.pointer (some ⟨X,0,none⟩),.pointer (some ⟨V,0,none⟩)] w fun e w'=>VX e w w' wb.heap.size X V bv sv (Xy rows f m Z st)
theorem GD {rows:List (List I3)} {m:V4} {Z:List Int} {k:Nat} (h:SG rows m Z):SG rows (goM rows m (k:Int)).1 (YP rows m Z (k:Int)):=fun j hj=>by
 obtain ⟨h1,h2⟩:=List.mem_filter.1 hj
 obtain ⟨q,rfl,h3,hd⟩:=h j h1
 refine ⟨q,rfl,h3,?_⟩
 rw [Int.toNat_natCast,Int.toNat_natCast] at h2
 have hne:=(Ut (rows:=rows) (m:=m) (k:=k) (l:=q) (by simpa using h2)).1
 rw [WP,VG hne]
 exact hd
theorem Jr (rows:List (List I3)) (m:V4) (Z:List Int) (k:Int):(YP rows m Z k).length≤Z.length:=List.length_filter_le _ _
theorem Gi {rows:List (List I3)} {m:V4} {Z:List Int} {k:Nat} (h:SG rows m Z) (hk:k<3) (hd:Z2 rows m k=false):SG rows m (Z++[(k:Int)]):=fun j hj=>by
 rcases List.mem_append.1 hj with hj | hj
 ·exact h j hj
 rw [List.mem_singleton] at hj
 exact ⟨k,hj,hk,hd⟩
theorem Sn {w W:World} {v v':Value} {u:Value} (h:ZT w v u) (hs:w.heap.size≤W.heap.size) (h':v'.ownBlock=u.ownBlock∨v'.ownBlock=some W.heap.size):ZT w v v':=
 h.trans hs (by rcases h' with h' | h';exact .inl h';exact .inr ⟨_,Nat.le_refl _,h'⟩)
structure On7 (rows:List (List I3)) (wb w wr:World) (X V g bL f:Nat) (cs:Sl × Sl × Sl) (m:V4) (bv sv bvi svi:Value) (sl:Sl) (R:St7) (i:Nat) (Zi:List Int) (st:St7):Prop where
 eq:XN rows m (Xy rows f) ((Zj rows m 3).drop i) Zi st=R
 ok:SG rows m Zi
 zl:Zi.length+((Zj rows m 3).length - i)+3*f≤60
 rm:st.2.2+((Zj rows m 3).length - i)*XY f≤1000000000
 bl4:st.1.length+((Zj rows m 3).length - i)≤4*st.2.2
 rl:st.2.1≤st.2.2
 bx:Blk wr X 70 [bvi,.int .i64 st.2.1,.int .i64 st.2.2]
 br:wr.ownsRow wb.heap.size 64 3 bvi st.1.length (Zo st.1)
 vx:Blk wr V 133 [.func (.func 90) #[] #[.pointer (some ⟨X,0,none⟩),.pointer (some ⟨V,0,none⟩)]]
 mc:Blk wr g 89 (Zh cs.1.val cs.2.1.val cs.2.2.val m)
 ls:ZI wr bL sl (Zj rows m 3)
 zr:wr.ownsRow wb.heap.size 3 1 svi Zi.length (Zi.map (Value.int .i64))
 az:Ap3 (.slice sl.1 sl.2.1 sl.2.2) svi
 kp:Kp7 w wr X bv sv
 mb:ZT w bv bvi
 ms:ZT w sv svi
 bl:Below wb.heap.size wb wr

def F4 (rows:List (List I3)) (f:Nat) (m:V4) (i n:Nat) (st:St7) (Zi:List Int):Prop:=SG rows m Zi∧Zi.length+(n - i)+3*f≤60∧st.2.2+(n - i)*XY f≤1000000000∧st.1.length+(n - i)≤4*st.2.2∧st.2.1≤st.2.2
theorem Hz {w:World} {B e s n:Nat} {a:Option Addr} {k c:Nat} {xs:List Value} (h:w.ownsRow B e s (.slice a k c) n xs):k=n:=by
 rcases h.2 with ⟨h1,h2⟩ | ⟨gq,cq,cur,h1,_⟩
 ·cases h1;exact h2.symm
 cases h1;rfl
theorem On7.skip {rows:List (List I3)} {wb w wr:World} {X V g bL f:Nat} {cs:Sl × Sl × Sl} {m:V4} {bv sv bvi svi:Value} {sl:Sl} {R:St7} {i:Nat} {Zi:List Int} {st:St7} {k:Int} (h:On7 rows wb w wr X V g bL f cs m bv sv bvi svi sl R i Zi st) (hd:(Zj rows m 3).drop i=k::(Zj rows m 3).drop (i+1)) (hk:k ∈ Zi) (hi:i<(Zj rows m 3).length):On7 rows wb w wr X V g bL f cs m bv sv bvi svi sl R (i+1) Zi st:=by
 obtain ⟨e1,e2,e3,e4,e5,e6,e7,e8,e9,e10,e11,e12,e13,e14,e15,e16,e17⟩:=h
 refine ⟨?_,e2,by omega,?_,by omega,e6,e7,e8,e9,e10,e11,e12,e13,e14,e15,e16,e17⟩
 ·rw [hd,WJ hk] at e1;exact e1
 have:((Zj rows m 3).length - (i+1))*XY f≤((Zj rows m 3).length - i)*XY f:=Nat.mul_le_mul_right _ (by omega)
 omega

theorem Lf {rows:List (List I3)} {wb:World} {X V:Nat} {cs:Sl × Sl × Sl} (hp:Zn rows=true) (hI:∀ k,k<3→ZL wb (slK cs k).1 (slK cs k).2.1 (slK cs k).2.2 (Yn rows k)) (hBX:wb.heap.size≤X) {f:Nat} (ih:JO rows wb X V cs f):JO rows wb X V cs (f+1):=by
 intro m Z st hcan w bv sv b0 hV hz
 obtain ⟨hs,hf,hZ,hZl,hT,hB4,hR9⟩:=hcan
 obtain ⟨pX,qB,pV⟩:=hV
 obtain ⟨i0,hi9,hz0,hz1,hz2⟩:=info_parts Ub
 obtain ⟨i1,hi1,hy0,hy1,hy2⟩:=info_parts Xe
 obtain ⟨R,hR⟩:∃ R,R=Xy rows (f+1) m Z st:=⟨_,rfl⟩
 rw [← hR]
 rw [Xy] at hR
 have hrt:XY (f+1)=1+3*XY f:=rfl
 rw [hrt] at hT
 clear hrt
 obtain ⟨bs,rn,nd⟩:=st
 simp only at pX qB hT hB4 hR9 hR
 have HR:Hid (R=if 5000<nd+1 then (bs,rn,nd+1) else XN rows m (Xy rows f) (Zj rows m 3) Z (UL rows m (bs,rn,nd))):=hR
 clear hR
 obtain ⟨za,zn,zc,rfl⟩:=Z0 hz
 obtain ⟨ba,bn,bc,rfl⟩:=Z0 qB
 have hXl:=pX.lt
 have kE:=fun (W:World) (b:Below wb.heap.size wb W) (g:Nat) (h:Blk W g 89 (Zh cs.1.val cs.2.1.val cs.2.2.val m))=>VH g cs rows m W ⟨h,fun k hk=>(hI k hk).below b⟩ hp hs
 have kU:=fun (W:World) (b:Below wb.heap.size wb W) (g:Nat) (h:Blk W g 89 (Zh cs.1.val cs.2.1.val cs.2.2.val m))=>GE g cs rows m W ⟨h,fun k hk=>(hI k hk).below b⟩ hp hs
 have hone:=RX cs.1 cs.2.1 cs.2.2 m
 obtain ⟨x0,x1,x2,x3,x4,x5,x6,x7,x8,x9,x10,x11,x12,x13,x14,x15,x16,x17,hMC⟩:∃ x0 x1 x2 x3 x4 x5 x6 x7 x8 x9 x10 x11 x12 x13 x14 x15 x16 x17:Value,Zh cs.1.val cs.2.1.val cs.2.2.val m=[x0,x1,x2,x3,x4,x5,x6,x7,x8,x9,x10,x11,x12,x13,x14,x15,x16,x17]:=⟨_,_,_,_,_,_,_,_,_,_,_,_,_,_,_,_,_,_,rfl⟩
 have HMC:Hid (Zh cs.1.val cs.2.1.val cs.2.2.val m=[x0,x1,x2,x3,x4,x5,x6,x7,x8,x9,x10,x11,x12,x13,x14,x15,x16,x17]):=hMC
 rw [hMC] at hone ⊢
 clear hMC
 simp only [List.all_cons,List.all_nil,Bool.and_true,Bool.and_eq_true] at hone
 obtain ⟨o0,o1,o2,o3,o4,o5,o6,o7,o8,o9,o10,o11,o12,o13,o14,o15,o16,o17⟩:=hone
 have bw:Below w.heap.size w (w.alloc (.cells #[x0,x1,x2,x3,x4,x5,x6,x7,x8,x9,x10,x11,x12,x13,x14,x15,x16,x17] 89)):=by go_grown
 have cX2:(w.alloc (.cells #[x0,x1,x2,x3,x4,x5,x6,x7,x8,x9,x10,x11,x12,x13,x14,x15,x16,x17] 89)).cell? ⟨X,2,none⟩=some (.int .i64 (nd:Int)):=by simpa using (pX.below bw).cell 2
 have fX2:=(pX.below bw).frozen 2
 have hw2:IntKind.i64.wrap ((nd:Int)+1)=(nd:Int)+1:=IntWalk.i64_in _ ⟨by omega,by omega⟩
 have gX:=Zv w X 2 (.int .i64 ((nd:Int)+1))
 have pX0:Blk (w.setCell ⟨X,2,none⟩ (.int .i64 ((nd:Int)+1))) X 70 [.slice ba bn bc,.int .i64 (rn:Int),.int .i64 ((nd:Int)+1)]:=pX.set 2 (.int .i64 ((nd:Int)+1))
 have hgY:w.heap.size≠X:=by omega
 have eSz:(w.setCell ⟨X,2,none⟩ (.int .i64 ((nd:Int)+1))).heap.size=w.heap.size:=by simp
 have bw1:Below (w.setCell ⟨X,2,none⟩ (.int .i64 ((nd:Int)+1))).heap.size (w.setCell ⟨X,2,none⟩ (.int .i64 ((nd:Int)+1))) ((w.setCell ⟨X,2,none⟩ (.int .i64 ((nd:Int)+1))).alloc (.cells #[x0,x1,x2,x3,x4,x5,x6,x7,x8,x9,x10,x11,x12,x13,x14,x15,x16,x17] 89)):=by go_grown
 have pX1:=pX0.below bw1
 have cX3:((w.setCell ⟨X,2,none⟩ (.int .i64 ((nd:Int)+1))).alloc (.cells #[x0,x1,x2,x3,x4,x5,x6,x7,x8,x9,x10,x11,x12,x13,x14,x15,x16,x17] 89)).cell? ⟨X,2,none⟩=some (.int .i64 ((nd:Int)+1)):=by simpa using pX1.cell 2
 have pY1:Blk ((w.setCell ⟨X,2,none⟩ (.int .i64 ((nd:Int)+1))).alloc (.cells #[x0,x1,x2,x3,x4,x5,x6,x7,x8,x9,x10,x11,x12,x13,x14,x15,x16,x17] 89)) w.heap.size 89 [x0,x1,x2,x3,x4,x5,x6,x7,x8,x9,x10,x11,x12,x13,x14,x15,x16,x17]:=Zp _ _ _ (by simp)
 have pV1:=(pV.kept gX (by simp;exact ZK pX pV (by decide))).below bw1
 have qB1:=Zf (qB.kept gX (.inr (Zg qB pX (by decide)))) bw1
 have hz9:=Zf (hz.kept gX (.inr (Zg hz pX (by decide)))) bw1
 have kp:Kp7 w ((w.setCell ⟨X,2,none⟩ (.int .i64 ((nd:Int)+1))).alloc (.cells #[x0,x1,x2,x3,x4,x5,x6,x7,x8,x9,x10,x11,x12,x13,x14,x15,x16,x17] 89)) X (.slice ba bn bc) (.slice za zn zc):=((Kp7.refl w X _ _).grX gX).belowR bw1
 have bl:Below wb.heap.size wb ((w.setCell ⟨X,2,none⟩ (.int .i64 ((nd:Int)+1))).alloc (.cells #[x0,x1,x2,x3,x4,x5,x6,x7,x8,x9,x10,x11,x12,x13,x14,x15,x16,x17] 89)):=Zb (b0.grown gX b0.size (fun q e=>by cases e;exact hBX)) bw1
 replace pY1:Blk ((w.setCell ⟨X,2,none⟩ (.int .i64 ((nd:Int)+1))).alloc (.cells #[x0,x1,x2,x3,x4,x5,x6,x7,x8,x9,x10,x11,x12,x13,x14,x15,x16,x17] 89)) w.heap.size 89 (Zh cs.1.val cs.2.1.val cs.2.2.val m):=by
  have h9:=pY1
  rw [HMC.out]
  exact h9
 clear pX gX bw pV qB hz b0 HMC pX0 bw1 eSz
 by_cases h5:5000<nd+1
 ·have HR2:Hid (R=(bs,rn,nd+1)):=by rw [Hid,HR.out,if_pos h5]
  have h5':5000<(nd:Int)+1:=by omega
  have HG:Hid (VX (.returned (.tuple #[])) w ((w.setCell ⟨X,2,none⟩ (.int .i64 ((nd:Int)+1))).alloc (.cells #[x0,x1,x2,x3,x4,x5,x6,x7,x8,x9,x10,x11,x12,x13,x14,x15,x16,x17] 89)) wb.heap.size X V (.slice ba bn bc) (.slice za zn zc) R):=by
   unfold Hid VX
   rw [HR2.out]
   refine ⟨rfl,_,⟨?_,qB1,pV1⟩,ZT.refl _ _,kp⟩
   simpa using pX1
  clear HR HR2 kE kU pX1 pY1 pV1 qB1 hz9 kp bl
  go_enter Tryz.func90,Tryz.ntmps90
  go_wp2
  refine bodyPost_ret (by simp [results,Tryz.results90,go_sem];try rfl) rfl ?_
  exact HG.out
 have HR2:Hid (R=XN rows m (Xy rows f) (Zj rows m 3) Z (UL rows m (bs,rn,nd))):=by rw [Hid,HR.out,if_neg h5]
 have h5':¬ (5000<(nd:Int)+1):=by omega
 have kEx:=kE ((w.setCell ⟨X,2,none⟩ (.int .i64 ((nd:Int)+1))).alloc (.cells #[x0,x1,x2,x3,x4,x5,x6,x7,x8,x9,x10,x11,x12,x13,x14,x15,x16,x17] 89)) bl w.heap.size pY1
 clear HR kE h5
 obtain ⟨g,hg⟩:∃ g,g=w.heap.size:=⟨_,rfl⟩
 have hgw:w.heap.size≤g:=by omega
 have HGZ:Hid (g=w.heap.size):=hg
 rw [← hg] at pY1 kEx hgY
 clear hg
 go_enter Tryz.func90,Tryz.ntmps90
 go_wp2_with fail
 rw [← HGZ.out]
 generalize ((w.setCell ⟨X,2,none⟩ (.int .i64 ((nd:Int)+1))).alloc (.cells #[x0,x1,x2,x3,x4,x5,x6,x7,x8,x9,x10,x11,x12,x13,x14,x15,x16,x17] 89))=w1 at *
 clear cX2 fX2 cX3 hw2 o0 o1 o2 o3 o4 o5 o6 o7 o8 o9 o10 o11 o12 o13 o14 o15 o16 o17
 refine kEx.mono ?_
 rintro e w2 ⟨⟨⟨la,ln,lc⟩,rfl,hL⟩,hb⟩
 have hLn:(Zj rows m 3).length=ln:=by have:=hL.1;simpa using this
 have hn3:ln≤3:=by rw [← hLn];exact YF rows m 3
 have HLS:Hid (Ap3 (.slice la ln lc) (.slice za zn zc)):=(Ap3.fresh hz9 hL (Nat.le_refl _)).symm
 replace pX1:=pX1.below hb
 replace pY1:=pY1.below hb
 replace pV1:=pV1.below hb
 replace qB1:=Zf qB1 hb
 replace hz9:=Zf hz9 hb
 replace kp:=kp.belowR hb
 replace bl:=Zb bl hb
 generalize w1.heap.size=bL at *
 clear hb kEx
 have kUx:=kU w2 bl g pY1
 by_cases hE:Zj rows m 3=[]
 ·obtain rfl:ln=0:=by rw [hE] at hLn;simpa using hLn.symm
  have cX1:w2.cell? ⟨X,1,none⟩=some (.int .i64 (rn:Int)):=by simpa using pX1.cell 1
  have fX1:=pX1.frozen 1
  have hw1:IntKind.i64.wrap ((rn:Int)+1)=(rn:Int)+1:=IntWalk.i64_in _ ⟨by omega,by omega⟩
  have gX1:=Zv w2 X 1 (.int .i64 ((rn:Int)+1))
  have pX2:Blk (w2.setCell ⟨X,1,none⟩ (.int .i64 ((rn:Int)+1))) X 70 [.slice ba bn bc,.int .i64 ((rn:Int)+1),.int .i64 ((nd:Int)+1)]:=pX1.set 1 (.int .i64 ((rn:Int)+1))
  have pY2:=pY1.kept gX1 (by simp;omega)
  have pV2:=pV1.kept gX1 (by simp;exact ZK pX1 pV1 (by decide))
  have qB2:=qB1.kept gX1 (.inr (Zg qB1 pX1 (by decide)))
  have kp2:=kp.grX gX1
  have bl2:=bl.grown gX1 bl.size (fun q e=>by cases e;exact hBX)
  clear kUx pX1 pY1 pV1 qB1 hz9 kp bl gX1 HLS hL
  have kUx:=kU _ bl2 g pY2
  clear kU
  go_wp2_with fail
  generalize (w2.setCell ⟨X,1,none⟩ (.int .i64 ((rn:Int)+1)))=w3 at *
  clear cX1 fX1 hw1
  refine kUx.mono ?_
  rintro e w4 ⟨rfl,hb⟩
  replace pX2:=pX2.below hb
  replace pV2:=pV2.below hb
  replace qB2:=Zf qB2 hb
  replace kp2:=kp2.belowR hb
  replace bl2:=Zb bl2 hb
  clear hb kUx pY2
  cases hst:Xk rows m with
  | false =>
   have HG:Hid (VX (.returned (.tuple #[])) w w4 wb.heap.size X V (.slice ba bn bc) (.slice za zn zc) R):=by
    unfold Hid VX
    rw [HR2.out,hE]
    refine ⟨rfl,_,⟨?_,?_,pV2⟩,ZT.refl _ _,kp2⟩
    ·simpa [XN,UL,hE] using pX2
    simpa [XN,UL,XW,hst] using qB2
   clear HR2 pX2 pV2 qB2 kp2 bl2 hE hLn hst
   go_wp2_with fail
   go_loopw [35] (fun s35 wr=>s35=.int .i64 0∧w4=wr) (fun _ _=>0)
   case atStart=>exact ⟨rfl,rfl⟩
   case round =>
    obtain ⟨rfl,rfl⟩:=hrel
    go_wp2
    go_end0
    exact HG.out
  | true =>
   have cX0:w4.cell? ⟨X,0,none⟩=some (.slice ba bn bc):=by simpa using pX2.cell 0
   have hbz:=bl2.size
   go_wp2_with (at_builtin;refine wpList_append_own_at _ rfl _ _ 34 rfl wb.heap.size 64 i0 (.agg #[.int .i64 0,.int .i64 0,.int .i64 0]) 3 24 Tryz.underlying34 hi9 hz0 hz1 hz2 rfl (by decide) _ _ _ rfl (qB2.alloc _) ⟨w4.heap.size,0,none⟩ 1 1 [.int .i64 14,.int .i64 0,.int .i64 0] rfl rfl (Qr (Zp _ _ _ rfl)) (Xx _ _ _) ?c3 ?c4 ?c5 ?_)
   case c3=>unfold maxLen;omega
   case c4=>omega
   case c5=>first | (simp;omega) | omega
   intro v6 w5 q6 gr _ at6
   have ha:Below w4.heap.size w4 (w4.alloc (.cells #[.int .i64 14,.int .i64 0,.int .i64 0] 64)):=by go_grown
   have pX3:=(pX2.below ha).kept gr (Zg (Zf qB2 ha) (pX2.below ha) (by decide))
   have pV3:=(pV2.below ha).kept gr (Zg (Zf qB2 ha) (pV2.below ha) (by decide))
   have kp3:=(kp2.belowR ha).grB (ZT.refl w (.slice ba bn bc)) gr
   have mb3:ZT w (.slice ba bn bc) v6:=by
    rcases at6 with e6 | e6
    ·exact .inl e6
    exact .inr ⟨_,by have:=kp2.size;have:=ha.size;omega,e6⟩
   have cX4:w5.cell? ⟨X,0,none⟩=some (.slice ba bn bc):=by simpa using pX3.cell 0
   have fX4:=pX3.frozen 0
   have gX4:=Zv w5 X 0 v6
   have pX4:Blk (w5.setCell ⟨X,0,none⟩ v6) X 70 [v6,.int .i64 ((rn:Int)+1),.int .i64 ((nd:Int)+1)]:=pX3.set 0 v6
   have pV4:=pV3.kept gX4 (by simp;exact ZK pX3 pV3 (by decide))
   have q7:=q6.kept gX4 (.inr (Zg q6 pX3 (by decide)))
   have kp4:=kp3.grX gX4
   have HG:Hid (VX (.returned (.tuple #[])) w (w5.setCell ⟨X,0,none⟩ v6) wb.heap.size X V (.slice ba bn bc) (.slice za zn zc) R):=by
    unfold Hid VX
    rw [HR2.out,hE]
    refine ⟨rfl,v6,⟨?_,?_,pV4⟩,mb3,kp4⟩
    ·simpa [XN,UL,hE] using pX4
    have h9:=q7
    rw [show Zo bs++[.int .i64 14,.int .i64 0,.int .i64 0]=Zo (bs++[(14,0,0)]) from (RJ bs (14,0,0)).symm] at h9
    simpa [XN,UL,XW,hst] using h9
   obtain ⟨vb6,vn6,vc6,rfl⟩:=Z0 q6
   clear HR2 pX2 pX3 pX4 pV2 pV3 pV4 qB2 q6 q7 kp2 kp3 kp4 bl2 hE hLn hst gr at6 ha mb3 gX4 cX0
   go_wp2_with fail
   generalize (w5.setCell ⟨X,0,none⟩ (.slice vb6 vn6 vc6))=w6 at *
   clear cX4 fX4
   go_loopw [35] (fun s35 wr=>s35=.int .i64 0∧w6=wr) (fun _ _=>0)
   case atStart=>exact ⟨rfl,rfl⟩
   case round =>
    obtain ⟨rfl,rfl⟩:=hrel
    go_wp2
    go_end0
    exact HG.out
 have hst:Xk rows m=false:=by unfold Xk;simp [hE]
 rw [hst] at kUx
 have hln0:((ln:Int) == 0)=false:=by simp;intro e;exact hE (List.eq_nil_of_length_eq_zero (by omega))
 clear kU
 go_wp2_with fail
 refine kUx.mono ?_
 rintro e w3 ⟨rfl,hb⟩
 have hmu:((Zj rows m 3).length - 0)*XY f≤3*XY f:=Nat.mul_le_mul_right _ (by omega)
 have st0:On7 rows wb w w3 X V g bL f cs m (.slice ba bn bc) (.slice za zn zc) (.slice ba bn bc) (.slice za zn zc) (la,ln,lc) R 0 Z (bs,rn,nd+1):=by
  refine ⟨?_,hZ,by omega,by simp only;omega,by simp only;omega,by simp only;omega,?_,Zf qB1 hb,pV1.below hb,pY1.below hb,ZI.below hL hb,Zf hz9 hb,HLS.out,kp.belowR hb,ZT.refl _ _,ZT.refl _ _,Zb bl hb⟩
  ·rw [HR2.out]
   unfold UL XW
   rw [hst,if_neg hE]
   simp
  simpa using pX1.below hb
 clear HR2 hb kUx pX1 pY1 pV1 qB1 hz9 kp bl HLS hL hst hmu hZ hT hB4 hR9 hZl
 go_wp2_with fail
 go_loopw [1,35] (fun s1 s35 wr=>∃ (i:Nat) (Zi:List Int) (sti:St7) (bvi:Value),s35=.int .i64 i∧i≤ln∧On7 rows wb w wr X V g bL f cs m (.slice ba bn bc) (.slice za zn zc) bvi s1 (la,ln,lc) R i Zi sti) (fun _ s35 _=>ln - (intOf s35).toNat)
 case atStart=>exact ⟨0,Z,_,_,rfl,Nat.zero_le _,st0⟩
 case round =>
  clear st0
  obtain ⟨i,Zi,sti,bvi,rfl,hin,hO⟩:=hrel
  obtain ⟨ya,yn,yc,rfl⟩:=Z0 hO.zr
  obtain ⟨va,vn,vc,rfl⟩:=Z0 hO.br
  by_cases hlt:i<ln
  ·have hkj:(Zj rows m 3)[i]?=some ((Zj rows m 3).getD i 0):=by rw [List.getD,List.getElem?_eq_getElem (by omega)];rfl
   have hdr9:(Zj rows m 3).drop i=(Zj rows m 3).getD i 0::(Zj rows m 3).drop (i+1):=by rw [List.drop_eq_getElem_cons (by omega)];simp [List.getD,show i<(Zj rows m 3).length by omega]
   have hz:=Yb (List.mem_of_getElem? hkj)
   obtain ⟨h0k,h2k,hd,_⟩:=ZY hz
   obtain ⟨k,hk⟩:∃ k:Nat,(Zj rows m 3).getD i 0=(k:Int):=⟨_,(Int.toNat_of_nonneg h0k).symm⟩
   obtain ⟨lb,lo,rfl,hc,hlb⟩:=Xa hO.ls.ints (show i<ln from hlt)
   rw [hk] at hkj hz hd h0k h2k hc hdr9
   rw [Int.toNat_natCast] at hd
   have hk3:k<3:=by omega
   clear hk hlb hkj
   obtain rfl:yn=Zi.length:=Hz hO.zr
   have hzi:YV .i64 wr ya Zi.length yc Zi:=ZI.ints (s:=(ya,Zi.length,yc)) hO.zr
   have hzl:=hO.zl
   have kC:=RB ya Zi.length yc Zi (k:Int) wr hzi (by omega)
   have hlt3:(i:Int)<(ln:Int):=by omega
   have hi0:(0:Int)≤(i:Int):=by omega
   have HDR:Hid ((Zj rows m 3).drop i=(k:Int)::(Zj rows m 3).drop (i+1)):=hdr9
   clear hdr9 hzi
   by_cases hmem:(k:Int) ∈ Zi
   ·have st9:=hO.skip HDR.out hmem (by omega)
    rw [show decide ((k:Int) ∈ Zi)=true by simp [hmem]] at kC
    clear hO hmem HDR hz hd
    go_wp2_with fail
    refine kC.mono ?_
    rintro e w9 ⟨rfl,rfl⟩
    clear kC hc
    go_wp2
    go_roundw
    case rel=>exact ⟨i+1,Zi,sti,_,by go_num,by omega,st9⟩
    case measure=>simp [intOf];omega
   rw [show decide ((k:Int) ∈ Zi)=false by simp [hmem]] at kC
   have hx:=ZW hp hs hz
   have hlf:=Y4 hp hs hz
   have kT:=fun (W:World) (q:Nat) (h:Yk W q cs rows m)=>L3 h hp hs hk3 hd
   rw [← Wv] at kT
   have kA:=fun (W:World) (b:Below wb.heap.size wb W) (h:Blk W g 89 (Zh cs.1.val cs.2.1.val cs.2.2.val m)) (hL:YV .i64 W ya Zi.length yc Zi)=>Qn ⟨h,fun q hq=>(hI q hq).below b⟩ hp hs hk3 hd ya Zi.length yc Zi hL (by omega) hO.ok
   have hown:Yt rows m (k:Int)=if (goM rows m (k:Int)).2=0 then [] else [((goM rows m (k:Int)).2,(k:Int),m.1.getD k 0)]:=by unfold Yt;rw [Int.toNat_natCast]
   have hzs:=GD (rows:=rows) (m:=m) (k:=k) hO.ok
   have hzl2:=Jr rows m Zi (k:Int)
   have HEQ:Hid (XN rows m (Xy rows f) ((Zj rows m 3).drop (i+1)) (Zi++[(k:Int)]) (Xy rows f (goM rows m (k:Int)).1 (YP rows m Zi (k:Int)) (sti.1++Yt rows m (k:Int),sti.2))=R):=by
    have h9:=hO.eq
    rw [HDR.out,UH hmem] at h9
    exact h9
   have hok2:=Gi hO.ok hk3 hd
   have hrm:=hO.rm
   have hb4:=hO.bl4
   have hrl:=hO.rl
   have hmu:((Zj rows m 3).length - i)*XY f=((Zj rows m 3).length - (i+1))*XY f+XY f:=by rw [show (Zj rows m 3).length - i=((Zj rows m 3).length - (i+1))+1 by omega,Nat.succ_mul]
   have hol:=LE rows m (k:Int)
   have hcan:FA rows f (goM rows m (k:Int)).1 (YP rows m Zi (k:Int)) (sti.1++Yt rows m (k:Int),sti.2):=⟨hx,by omega,hzs,by omega,by simp only;omega,by simp only [List.length_append];omega,hrl⟩
   have hsr:=SD rows f (goM rows m (k:Int)).1 (YP rows m Zi (k:Int)) (sti.1++Yt rows m (k:Int),sti.2)
   have hss:=SE rows f (goM rows m (k:Int)).1 (YP rows m Zi (k:Int)) (sti.1++Yt rows m (k:Int),sti.2) ((Zj rows m 3).length - (i+1)) (by simp only [List.length_append];omega) hrl
   have kV:=ih _ _ _ hcan
   simp only at hsr
   have HST:Hid (F4 rows f m (i+1) (Zj rows m 3).length (Xy rows f (goM rows m (k:Int)).1 (YP rows m Zi (k:Int)) (sti.1++Yt rows m (k:Int),sti.2)) (Zi++[(k:Int)])):=⟨hok2,by rw [List.length_append];simp only [List.length_cons,List.length_nil];omega,by omega,by omega,hss.2⟩
   have hnb:sti.1.length≤4000000000:=by omega
   clear hcan hsr hss hok2 hzs hrm hmu hol hx hlf hmem HDR
   generalize Xy rows f (goM rows m (k:Int)).1 (YP rows m Zi (k:Int)) (sti.1++Yt rows m (k:Int),sti.2)=st2 at *
   generalize YP rows m Zi (k:Int)=Zs at *
   generalize Yt rows m (k:Int)=ow at *
   generalize goM rows m (k:Int)=zf at *
   obtain ⟨z,f9⟩:=zf
   simp only at kT kV hown
   have HOW:Hid (ow=if f9=0 then [] else [(f9,(k:Int),m.1.getD k 0)]):=hown
   clear hown
   generalize m.1.getD k 0=pc at *
   clear hz hd
   go_wp2_with fail
   refine kC.mono ?_
   rintro e w9 ⟨rfl,rfl⟩
   clear kC hc
   have pM:=hO.mc
   have pN:=Blk.new wr 89 [.slice none 0 0,.int .i64 0,.int .i64 0,.int .i64 0,.slice none 0 0,.int .i64 0,.int .i64 0,.int .i64 0,.slice none 0 0,.int .i64 0,.int .i64 0,.int .i64 0,.int .i64 0,.int .i64 0,.int .i64 0,.int .i64 0,.int .i64 0,.int .i64 0]
   have hbN:Below wr.heap.size wr (wr.alloc (.cells #[.slice none 0 0,.int .i64 0,.int .i64 0,.int .i64 0,.slice none 0 0,.int .i64 0,.int .i64 0,.int .i64 0,.slice none 0 0,.int .i64 0,.int .i64 0,.int .i64 0,.int .i64 0,.int .i64 0,.int .i64 0,.int .i64 0,.int .i64 0,.int .i64 0] 89)):=by go_grown
   replace pM:=pM.below hbN
   go_wp2_with (first | refine Zc rfl 89 _ rfl g rfl hO.mc _ Tryz.underlying89 rfl (by kernel_rfl) ?_ | refine Zc rfl 89 _ rfl g rfl pM _ Tryz.underlying89 rfl (by kernel_rfl) ?_ | refine Ze rfl 89 _ _ rfl wr.heap.size (Zh cs.1.val cs.2.1.val cs.2.2.val m) rfl rfl pN (by kernel_rfl) rfl rfl ?_)
   intro u1 p1 g1
   have pZ:=p1.out
   have bz:Below wr.heap.size wr u1:=hbN.grown g1 hbN.size (fun q e=>by cases e;exact Nat.le_refl _)
   clear p1 g1 hbN pN pM
   obtain ⟨N,hN⟩:∃ N,N=wr.heap.size:=⟨_,rfl⟩
   rw [← hN] at pZ ⊢
   have hZw:wr.heap.size≤N:=by omega
   clear hN
   have kTx:=kT u1 N ⟨pZ,fun q hq=>(hI q hq).below (Zb hO.bl bz)⟩
   clear kT
   go_wp2_with fail
   refine kTx.mono ?_
   rintro e u2 ⟨rfl,pZ2,g2⟩
   have b2:Below wr.heap.size wr u2:=bz.grown g2 bz.size (fun q e=>by cases e;exact hZw)
   clear kTx pZ bz g2
   have pN:=Blk.new u2 64 [.int .i64 0,.int .i64 0,.int .i64 0]
   have hbN:Below u2.heap.size u2 (u2.alloc (.cells #[.int .i64 0,.int .i64 0,.int .i64 0] 64)):=by go_grown
   go_wp2_with (refine Ze rfl 64 _ _ rfl u2.heap.size [.int .i64 f9,.int .i64 (k:Int),.int .i64 pc] rfl rfl pN (by kernel_rfl) rfl rfl ?_)
   intro u3 p3 g3
   have pG:=p3.out
   have b3:Below u2.heap.size u2 u3:=hbN.grown g3 hbN.size (fun q e=>by cases e;exact Nat.le_refl _)
   replace pZ2:=pZ2.below b3
   have bz:=Zb b2 b3
   clear p3 g3 hbN pN b2 b3
   generalize u2.heap.size=G at *
   have bx:=hO.bx.below bz
   have br:=Zf hO.br bz
   have vx:=hO.vx.below bz
   have mc:=hO.mc.below bz
   have ls:=hO.ls.below bz
   have zr:=Zf hO.zr bz
   have az:=hO.az
   have kp:=hO.kp.belowR bz
   have mb:=hO.mb
   have ms:=hO.ms
   have bl:=Zb hO.bl bz
   clear hO bz
   have cG:u3.cell? ⟨G,0,none⟩=some (.int .i64 f9):=by simpa using pG.cell 0
   have hbsz:=bl.size
   by_cases hf0:f9=0
   ·have HOW2:Hid (ow=[]):=by rw [Hid,HOW.out,if_pos hf0]
    have hfn:(f9 != 0)=false:=by simp [hf0]
    clear hf0 HOW pG
    have br2:u3.ownsRow wb.heap.size 64 3 (.slice va vn vc) (sti.1++ow).length (Zo (sti.1++ow)):=by rw [HOW2.out,List.append_nil];exact br
    clear br HOW2
    go_wp2_with fail
    clear cG hfn
    have hdr:Below u3.heap.size u3 u3.drew:=by go_grown
    refine wp_region_held_drew (S:=(fun w'=>w'.cell? ⟨V,0,none⟩=some (.func (.func 90) #[] #[.pointer (some ⟨X,0,none⟩),.pointer (some ⟨V,0,none⟩)])∧w'.rangeAt N 0 (Zh cs.1.val cs.2.1.val cs.2.2.val z))) (by kernel_rfl) ⟨by simpa using vx.cell 0,Yv pZ2⟩ (fun hS0=>?_)
    refine tkm 0 54 (.func (.func 90) #[] #[.pointer (some ⟨X,0,none⟩),.pointer (some ⟨V,0,none⟩)]) ?_
    refine wpAnyH_take (i:=1) (oi:=⟨some 55,_,_,_,_,_⟩) (v:=.agg (Zh cs.1.val cs.2.1.val cs.2.2.val z).toArray) rfl (by kernel_rfl) (by kernel_rfl) (by kernel_rfl) (fun _ _ _ h=>h) (yieldsIf_load_mid (by rfl) 89 _ rfl N 0 rfl (Zh cs.1.val cs.2.1.val cs.2.2.val z) _ (fun _ h=>h.2) Tryz.underlying89 rfl (by kernel_rfl)) (by assumption) ?_
    simp only [Act.put,tka,tkb,tkc]
    refine tkm 2 56 (.slice ya (Zi.length) yc) ?_
    refine tkm 3 57 (.int .i64 (k:Int)) ?_
    replace bx:=bx.below hdr
    replace br2:=Zf br2 hdr
    replace vx:=vx.below hdr
    replace mc:=mc.below hdr
    replace ls:=ls.below hdr
    replace zr:=Zf zr hdr
    replace kp:=kp.belowR hdr
    replace bl:=Zb bl hdr
    replace pZ2:=pZ2.below hdr
    clear hdr
    generalize u3.drew=D0 at *
    have kAx:=kA D0 bl mc (ZI.ints (s:=(ya,Zi.length,yc)) zr)
    clear kA
    refine tkr 4 58 (fun K hK=>?_)
    go_simp
    refine kAx.mono ?_
    rintro e D1 ⟨⟨uv,rfl,qU⟩,hb1⟩
    have apZ:=Ap3.fresh zr qU (Nat.le_refl _)
    have apL:=Ap3.fresh ls qU (Nat.le_refl _)
    have huv:∀ q,uv.ownBlock=some q→w.heap.size≤q:=fun q hq=>Nat.le_trans kp.size (ZN qU hq).1
    have qU2:=ZZ (B':=wb.heap.size) qU bl.size
    replace bx:=bx.below hb1
    replace br2:=Zf br2 hb1
    replace vx:=vx.below hb1
    replace mc:=mc.below hb1
    replace ls:=ls.below hb1
    replace zr:=Zf zr hb1
    replace kp:=kp.belowR hb1
    replace bl:=Zb bl hb1
    replace pZ2:=pZ2.below hb1
    clear kAx hb1 qU
    obtain ⟨ua,un,uc,rfl⟩:=Z0 qU2
    go_wp2_with fail
    refine hK.out _ _ ⟨by simpa using vx.cell 0,Yv pZ2⟩ (fun hS1=>?_)
    clear hK
    try simp only [Act.put,tka,tkb,tkc]
    have kVx:=kV D1 (.slice va vn vc) (.slice ua un uc) bl ⟨bx,br2,vx⟩ qU2
    clear kV
    refine tkr 5 59 (fun K hK=>?_)
    go_simp
    refine kVx.mono ?_
    rintro e D2 ⟨rfl,bv2,⟨bx2,br3,vx2⟩,mb2,kp2⟩
    have mc2:=kp2.blk br2 qU2 bx mc (by decide) (by decide) (by decide)
    have pZ3:=kp2.blk br2 qU2 bx pZ2 (by decide) (by decide) (by decide)
    have ls2:ZI D2 bL (some ⟨lb,lo,none⟩,ln,lc) (Zj rows m 3):=kp2.row br2 bx ls apL
    have zr2:=kp2.row br2 bx zr apZ
    have bl2:Below wb.heap.size wb D2:=bl.trans (kp2.below hBX (fun q hq=>(ZN br2 hq).1) (fun q hq=>(ZN qU2 hq).1) bl.size)
    have kp3:=kp.call mb kp2 huv
    have mb3:=mb.trans kp.size mb2
    clear kVx bx br2 vx mc ls zr kp bl pZ2 qU2 apZ apL huv mb2 kp2 mb
    go_wp2_with fail
    refine hK.out _ _ ⟨by simpa using vx2.cell 0,Yv pZ3⟩ (fun hS2=>?_)
    clear hK
    try simp only [Act.put,tka,tkb,tkc]
    refine wpAnyH_done (by kernel_rfl) ?_ _
    clear hS0 hS1 hS2 pZ3
    have hzb:=bl2.size
    go_wp2_with (at_builtin;refine wpList_append_own_at _ rfl _ _ 27 rfl wb.heap.size 3 i1 (.int .i64 0) 1 8 Tryz.underlying27 hi1 hy0 hy1 hy2 rfl (by decide) _ _ _ rfl (zr2.alloc _) ⟨D2.heap.size,0,none⟩ 1 1 [.int .i64 (k:Int)] rfl rfl (cell_one_new _ _ _) (by simp [Value.oneCell']) ?c3 ?c4 ?c5 ?_)
    case c3=>unfold maxLen;omega
    case c4=>omega
    case c5=>first | (simp;omega) | omega
    intro sv7 D3 q7 gr7 _ at7
    have ha7:Below D2.heap.size D2 (D2.alloc (.cells #[.int .i64 (k:Int)] 3)):=by go_grown
    have zr7:=Zf zr2 ha7
    have bx7:=bx2.below ha7
    have vx7:=vx2.below ha7
    have mc7:=mc2.below ha7
    have br7:=Zf br3 ha7
    have st9:On7 rows wb w D3 X V g bL f cs m (.slice ba bn bc) (.slice za zn zc) bv2 sv7 (some ⟨lb,lo,none⟩,ln,lc) R (i+1) (Zi++[(k:Int)]) st2:=by
     obtain ⟨s1,s2,s3,s4,s5⟩:=HST.out
     refine ⟨HEQ.out,s1,s2,s3,s4,s5,bx7.kept gr7 (Zg zr7 bx7 (by decide)),br7.kept gr7 (Ap3.types br7 zr7 (by decide)).or,vx7.kept gr7 (Zg zr7 vx7 (by decide)),mc7.kept gr7 (Zg zr7 mc7 (by decide)),World.ownsRow.kept (ZI.below ls2 ha7) gr7 az.or,?_,?_,(kp3.belowR ha7).grS ms gr7,mb3,?_,(Zb bl2 ha7).grown gr7 (Zb bl2 ha7).size (fun q hq=>(ZN zr7 hq).1)⟩
     ·rw [List.length_append,List.map_append]
      exact q7
     ·exact Ap3.moved (ZI.below ls2 ha7) az (by rw [World.size_alloc];exact at7)
     exact Sn ms (Nat.le_trans kp3.size ha7.size) (by rw [World.size_alloc];exact at7)
    obtain ⟨sa7,sn7,sc7,rfl⟩:=Z0 q7
    clear HST HEQ q7 gr7 at7 ha7 zr7 bx7 vx7 mc7 br7 bx2 br3 vx2 mc2 ls2 zr2 az kp3 mb3 ms bl2
    go_wp2
    go_roundw
    case rel=>exact ⟨i+1,_,st2,_,by go_num,by omega,st9⟩
    case measure=>simp [intOf];omega
   have HOW2:Hid (ow=[(f9,(k:Int),pc)]):=by rw [Hid,HOW.out,if_neg hf0]
   have hfn:(f9 != 0)=true:=by simp [hf0]
   clear hf0 HOW
   have cX0:u3.cell? ⟨X,0,none⟩=some (.slice va vn vc):=by simpa using bx.cell 0
   go_wp2_with (first | refine Zc rfl 64 _ rfl G rfl pG _ Tryz.underlying64 rfl (by kernel_rfl) ?_ | (at_builtin;refine wpList_append_own_at _ rfl _ _ 34 rfl wb.heap.size 64 i0 (.agg #[.int .i64 0,.int .i64 0,.int .i64 0]) 3 24 Tryz.underlying34 hi9 hz0 hz1 hz2 rfl (by decide) _ _ _ rfl (br.alloc _) ⟨u3.heap.size,0,none⟩ 1 1 [.int .i64 f9,.int .i64 (k:Int),.int .i64 pc] rfl rfl (Qr (Zp _ _ _ rfl)) (Xx _ _ _) ?c3 ?c4 ?c5 ?_))
   case c3=>unfold maxLen;omega
   case c4=>omega
   case c5=>first | (simp;omega) | omega
   intro v6 u5 q6 gr _ at6
   have ha:Below u3.heap.size u3 (u3.alloc (.cells #[.int .i64 f9,.int .i64 (k:Int),.int .i64 pc] 64)):=by go_grown
   have br0:=Zf br ha
   have bx0:=bx.below ha
   have vx0:=vx.below ha
   have mc0:=mc.below ha
   have zr0:=Zf zr ha
   have pZ0:=pZ2.below ha
   have bx1:=bx0.kept gr (Zg br0 bx0 (by decide))
   have vx1:=vx0.kept gr (Zg br0 vx0 (by decide))
   have mc1:=mc0.kept gr (Zg br0 mc0 (by decide))
   have pZ1:=pZ0.kept gr (Zg br0 pZ0 (by decide))
   have ls0:ZI (u3.alloc (.cells #[.int .i64 f9,.int .i64 (k:Int),.int .i64 pc] 64)) bL (some ⟨lb,lo,none⟩,ln,lc) (Zj rows m 3):=ZI.below ls ha
   have ls1:ZI u5 bL (some ⟨lb,lo,none⟩,ln,lc) (Zj rows m 3):=World.ownsRow.kept ls0 gr (Ap3.types ls0 br0 (by decide)).or
   have zr1:=zr0.kept gr (Ap3.types zr0 br0 (by decide)).or
   have kp1:=(kp.belowR ha).grB mb gr
   have mb1:=Sn mb (Nat.le_trans kp.size ha.size) (by rw [World.size_alloc];exact at6)
   have bl1:=(Zb bl ha).grown gr (Zb bl ha).size (fun q hq=>(ZN br0 hq).1)
   have cX4:u5.cell? ⟨X,0,none⟩=some (.slice va vn vc):=by simpa using bx1.cell 0
   have fX4:=bx1.frozen 0
   have gX4:=Zv u5 X 0 v6
   have bx4:Blk (u5.setCell ⟨X,0,none⟩ v6) X 70 [v6,.int .i64 (sti.2.1:Int),.int .i64 (sti.2.2:Int)]:=bx1.set 0 v6
   have vx4:=vx1.kept gX4 (by simp;exact ZK bx1 vx1 (by decide))
   have mc4:=mc1.kept gX4 (by simp;exact ZK bx1 mc1 (by decide))
   have pZ4:=pZ1.kept gX4 (by simp;exact ZK bx1 pZ1 (by decide))
   have q7:=q6.kept gX4 (.inr (Zg q6 bx1 (by decide)))
   have ls4:ZI (u5.setCell ⟨X,0,none⟩ v6) bL (some ⟨lb,lo,none⟩,ln,lc) (Zj rows m 3):=World.ownsRow.kept ls1 gX4 (.inr (Zg ls1 bx1 (by decide)))
   have zr4:=zr1.kept gX4 (.inr (Zg zr1 bx1 (by decide)))
   have kp4:=kp1.grX gX4
   have bl4:=bl1.grown gX4 bl1.size (fun q e=>by cases e;exact hBX)
   have br2:(u5.setCell ⟨X,0,none⟩ v6).ownsRow wb.heap.size 64 3 v6 (sti.1++ow).length (Zo (sti.1++ow)):=by rw [HOW2.out,RJ,List.length_append];exact q7
   obtain ⟨vb6,vn6,vc6,rfl⟩:=Z0 q6
   clear bx br vx mc ls zr kp mb bl pZ2 br0 bx0 vx0 mc0 zr0 pZ0 bx1 vx1 mc1 pZ1 ls0 ls1 zr1 kp1 bl1 q6 q7 gr at6 ha gX4 HOW2 cX0 pG
   go_wp2_with fail
   generalize (u5.setCell ⟨X,0,none⟩ (.slice vb6 vn6 vc6))=u6 at *
   clear cX4 fX4 cG hfn
   have bx:=bx4
   have vx:=vx4
   have mc:=mc4
   have pZ2:=pZ4
   have ls:=ls4
   have zr:=zr4
   have kp:=kp4
   have mb:=mb1
   have bl:=bl4
   clear bx4 vx4 mc4 pZ4 ls4 zr4 kp4 mb1 bl4
   have hdr:Below u6.heap.size u6 u6.drew:=by go_grown
   refine wp_region_held_drew (S:=(fun w'=>w'.cell? ⟨V,0,none⟩=some (.func (.func 90) #[] #[.pointer (some ⟨X,0,none⟩),.pointer (some ⟨V,0,none⟩)])∧w'.rangeAt N 0 (Zh cs.1.val cs.2.1.val cs.2.2.val z))) (by kernel_rfl) ⟨by simpa using vx.cell 0,Yv pZ2⟩ (fun hS0=>?_)
   refine tkm 0 54 (.func (.func 90) #[] #[.pointer (some ⟨X,0,none⟩),.pointer (some ⟨V,0,none⟩)]) ?_
   refine wpAnyH_take (i:=1) (oi:=⟨some 55,_,_,_,_,_⟩) (v:=.agg (Zh cs.1.val cs.2.1.val cs.2.2.val z).toArray) rfl (by kernel_rfl) (by kernel_rfl) (by kernel_rfl) (fun _ _ _ h=>h) (yieldsIf_load_mid (by rfl) 89 _ rfl N 0 rfl (Zh cs.1.val cs.2.1.val cs.2.2.val z) _ (fun _ h=>h.2) Tryz.underlying89 rfl (by kernel_rfl)) (by assumption) ?_
   simp only [Act.put,tka,tkb,tkc]
   refine tkm 2 56 (.slice ya (Zi.length) yc) ?_
   refine tkm 3 57 (.int .i64 (k:Int)) ?_
   replace bx:=bx.below hdr
   replace br2:=Zf br2 hdr
   replace vx:=vx.below hdr
   replace mc:=mc.below hdr
   replace ls:=ls.below hdr
   replace zr:=Zf zr hdr
   replace kp:=kp.belowR hdr
   replace bl:=Zb bl hdr
   replace pZ2:=pZ2.below hdr
   clear hdr
   generalize u6.drew=D0 at *
   have kAx:=kA D0 bl mc (ZI.ints (s:=(ya,Zi.length,yc)) zr)
   clear kA
   refine tkr 4 58 (fun K hK=>?_)
   go_simp
   refine kAx.mono ?_
   rintro e D1 ⟨⟨uv,rfl,qU⟩,hb1⟩
   have apZ:=Ap3.fresh zr qU (Nat.le_refl _)
   have apL:=Ap3.fresh ls qU (Nat.le_refl _)
   have huv:∀ q,uv.ownBlock=some q→w.heap.size≤q:=fun q hq=>Nat.le_trans kp.size (ZN qU hq).1
   have qU2:=ZZ (B':=wb.heap.size) qU bl.size
   replace bx:=bx.below hb1
   replace br2:=Zf br2 hb1
   replace vx:=vx.below hb1
   replace mc:=mc.below hb1
   replace ls:=ls.below hb1
   replace zr:=Zf zr hb1
   replace kp:=kp.belowR hb1
   replace bl:=Zb bl hb1
   replace pZ2:=pZ2.below hb1
   clear kAx hb1 qU
   obtain ⟨ua,un,uc,rfl⟩:=Z0 qU2
   go_wp2_with fail
   refine hK.out _ _ ⟨by simpa using vx.cell 0,Yv pZ2⟩ (fun hS1=>?_)
   clear hK
   try simp only [Act.put,tka,tkb,tkc]
   have kVx:=kV D1 (.slice vb6 vn6 vc6) (.slice ua un uc) bl ⟨bx,br2,vx⟩ qU2
   clear kV
   refine tkr 5 59 (fun K hK=>?_)
   go_simp
   refine kVx.mono ?_
   rintro e D2 ⟨rfl,bv2,⟨bx2,br3,vx2⟩,mb2,kp2⟩
   have mc2:=kp2.blk br2 qU2 bx mc (by decide) (by decide) (by decide)
   have pZ3:=kp2.blk br2 qU2 bx pZ2 (by decide) (by decide) (by decide)
   have ls2:ZI D2 bL (some ⟨lb,lo,none⟩,ln,lc) (Zj rows m 3):=kp2.row br2 bx ls apL
   have zr2:=kp2.row br2 bx zr apZ
   have bl2:Below wb.heap.size wb D2:=bl.trans (kp2.below hBX (fun q hq=>(ZN br2 hq).1) (fun q hq=>(ZN qU2 hq).1) bl.size)
   have kp3:=kp.call mb kp2 huv
   have mb3:=mb.trans kp.size mb2
   clear kVx bx br2 vx mc ls zr kp bl pZ2 qU2 apZ apL huv mb2 kp2 mb
   go_wp2_with fail
   refine hK.out _ _ ⟨by simpa using vx2.cell 0,Yv pZ3⟩ (fun hS2=>?_)
   clear hK
   try simp only [Act.put,tka,tkb,tkc]
   refine wpAnyH_done (by kernel_rfl) ?_ _
   clear hS0 hS1 hS2 pZ3
   have hzb:=bl2.size
   go_wp2_with (at_builtin;refine wpList_append_own_at _ rfl _ _ 27 rfl wb.heap.size 3 i1 (.int .i64 0) 1 8 Tryz.underlying27 hi1 hy0 hy1 hy2 rfl (by decide) _ _ _ rfl (zr2.alloc _) ⟨D2.heap.size,0,none⟩ 1 1 [.int .i64 (k:Int)] rfl rfl (cell_one_new _ _ _) (by simp [Value.oneCell']) ?c3 ?c4 ?c5 ?_)
   case c3=>unfold maxLen;omega
   case c4=>omega
   case c5=>first | (simp;omega) | omega
   intro sv7 D3 q7 gr7 _ at7
   have ha7:Below D2.heap.size D2 (D2.alloc (.cells #[.int .i64 (k:Int)] 3)):=by go_grown
   have zr7:=Zf zr2 ha7
   have bx7:=bx2.below ha7
   have vx7:=vx2.below ha7
   have mc7:=mc2.below ha7
   have br7:=Zf br3 ha7
   have st9:On7 rows wb w D3 X V g bL f cs m (.slice ba bn bc) (.slice za zn zc) bv2 sv7 (some ⟨lb,lo,none⟩,ln,lc) R (i+1) (Zi++[(k:Int)]) st2:=by
    obtain ⟨s1,s2,s3,s4,s5⟩:=HST.out
    refine ⟨HEQ.out,s1,s2,s3,s4,s5,bx7.kept gr7 (Zg zr7 bx7 (by decide)),br7.kept gr7 (Ap3.types br7 zr7 (by decide)).or,vx7.kept gr7 (Zg zr7 vx7 (by decide)),mc7.kept gr7 (Zg zr7 mc7 (by decide)),World.ownsRow.kept (ZI.below ls2 ha7) gr7 az.or,?_,?_,(kp3.belowR ha7).grS ms gr7,mb3,?_,(Zb bl2 ha7).grown gr7 (Zb bl2 ha7).size (fun q hq=>(ZN zr7 hq).1)⟩
    ·rw [List.length_append,List.map_append]
     exact q7
    ·exact Ap3.moved (ZI.below ls2 ha7) az (by rw [World.size_alloc];exact at7)
    exact Sn ms (Nat.le_trans kp3.size ha7.size) (by rw [World.size_alloc];exact at7)
   obtain ⟨sa7,sn7,sc7,rfl⟩:=Z0 q7
   clear HST HEQ q7 gr7 at7 ha7 zr7 bx7 vx7 mc7 br7 bx2 br3 vx2 mc2 ls2 zr2 az kp3 mb3 ms bl2
   go_wp2
   go_roundw
   case rel=>exact ⟨i+1,_,st2,_,by go_num,by omega,st9⟩
   case measure=>simp [intOf];omega
  obtain rfl:i=ln:=by omega
  have hnl:¬ ((i:Int)<(i:Int)):=by omega
  have HG:Hid (VX (.returned (.tuple #[])) w wr wb.heap.size X V (.slice ba bn bc) (.slice za zn zc) R):=by
   have h9:=hO.eq
   rw [List.drop_of_length_le (by omega)] at h9
   unfold XN at h9
   rw [← h9]
   exact ⟨rfl,_,⟨hO.bx,hO.br,hO.vx⟩,hO.mb,hO.kp⟩
  clear hO
  go_wp2
  go_end0
  exact HG.out
theorem Mu {rows:List (List I3)} {wb:World} {X V:Nat} {cs:Sl × Sl × Sl} (hp:Zn rows=true) (hI:∀ k,k<3→ZL wb (slK cs k).1 (slK cs k).2.1 (slK cs k).2.2 (Yn rows k)) (hBX:wb.heap.size≤X):∀ f,JO rows wb X V cs f
 | 0=>fun m Z st h=>absurd h.2.1 (Nat.not_lt_zero _)
 | f+1=>Lf hp hI hBX (Mu hp hI hBX f)
end Go.Proofs.YtifoggpohlegmaaGreatDoor
