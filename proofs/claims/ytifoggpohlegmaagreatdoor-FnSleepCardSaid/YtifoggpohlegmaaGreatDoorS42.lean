/-
  Joined: VisI, SbgI.
-/
import Derived.Test.YtifoggpohlegmaaGreatDoorS32
import Derived.Test.YtifoggpohlegmaaGreatDoorS39
import Derived.Test.YtifoggpohlegmaaGreatDoorS41

namespace Go.Proofs.YtifoggpohlegmaaGreatDoor
set_option maxRecDepth 100000
set_option maxHeartbeats 16000000
open Go.RowKit
set_option linter.unusedVariables false
set_option linter.unusedSimpArgs false

structure Kp7 (w w':World) (X:Nat) (bv sv:Value):Prop where
 os:w'.os=w.os
 tape:w'.tape=w.tape
 output:w'.output=w.output
 size:w.heap.size≤w'.heap.size
 block:∀ j,j<w.heap.size→j≠X→bv.ownBlock≠some j→sv.ownBlock≠some j→w'.heap[j]?=w.heap[j]?
theorem Kp7.refl (w:World) (X:Nat) (bv sv:Value):Kp7 w w X bv sv:=⟨rfl,rfl,rfl,Nat.le_refl _,fun _ _ _ _ _=>rfl⟩
theorem Kp7.belowR {a b c:World} {X:Nat} {bv sv:Value} (h:Kp7 a b X bv sv) (k:Below b.heap.size b c):Kp7 a c X bv sv:=
 ⟨k.os.trans h.os,k.tape.trans h.tape,k.output.trans h.output,Nat.le_trans h.size k.size,fun j hj h1 h2 h3=>(k.block j (Nat.lt_of_lt_of_le hj h.size)).trans (h.block j hj h1 h2 h3)⟩
theorem Kp7.grX {a b c:World} {X:Nat} {bv sv:Value} (h:Kp7 a b X bv sv) (k:b.grownBy c (some X)):Kp7 a c X bv sv:=
 ⟨k.os.trans h.os,k.tape.trans h.tape,k.output.trans h.output,Nat.le_trans h.size k.size,fun j hj h1 h2 h3=>(k.block j (Nat.lt_of_lt_of_le hj h.size) (fun e=>h1 (by cases e;rfl))).trans (h.block j hj h1 h2 h3)⟩
theorem Kp7.grB {a b c:World} {X:Nat} {bv sv bv':Value} (h:Kp7 a b X bv sv) (hm:MovedS a bv bv') (k:b.grownBy c bv'.ownBlock):Kp7 a c X bv sv:=
 ⟨k.os.trans h.os,k.tape.trans h.tape,k.output.trans h.output,Nat.le_trans h.size k.size,fun j hj h1 h2 h3=>(k.block j (Nat.lt_of_lt_of_le hj h.size) (fun e=>by
  rcases hm with hm | ⟨g,hg,hm⟩
  ·exact h2 (hm▸e.symm)
  ·rw [hm] at e;cases e;omega)).trans (h.block j hj h1 h2 h3)⟩
theorem Kp7.grS {a b c:World} {X:Nat} {bv sv sv':Value} (h:Kp7 a b X bv sv) (hm:MovedS a sv sv') (k:b.grownBy c sv'.ownBlock):Kp7 a c X bv sv:=
 ⟨k.os.trans h.os,k.tape.trans h.tape,k.output.trans h.output,Nat.le_trans h.size k.size,fun j hj h1 h2 h3=>(k.block j (Nat.lt_of_lt_of_le hj h.size) (fun e=>by
  rcases hm with hm | ⟨g,hg,hm⟩
  ·exact h3 (hm▸e.symm)
  ·rw [hm] at e;cases e;omega)).trans (h.block j hj h1 h2 h3)⟩
theorem Kp7.call {a b c:World} {X:Nat} {bv sv bv' uv:Value} (h:Kp7 a b X bv sv) (hm:MovedS a bv bv') (k:Kp7 b c X bv' uv) (hu:∀ q,uv.ownBlock=some q→a.heap.size≤q):Kp7 a c X bv sv:=
 ⟨k.os.trans h.os,k.tape.trans h.tape,k.output.trans h.output,Nat.le_trans h.size k.size,fun j hj h1 h2 h3=>(k.block j (Nat.lt_of_lt_of_le hj h.size) h1 (fun e=>by
  rcases hm with hm | ⟨g,hg,hm⟩
  ·exact h2 (hm▸e)
  ·rw [hm] at e;cases e;omega) (fun e=>by have:=hu j e;omega)).trans (h.block j hj h1 h2 h3)⟩
theorem Kp7.blk {w w':World} {X B B' n n':Nat} {bv sv:Value} {xs ys cx:List Value} (k:Kp7 w w' X bv sv) (hb:w.ownsRow B 64 3 bv n xs) (hz:w.ownsRow B' 3 1 sv n' ys) (hX:Blk w X 70 cx) {g e:Nat} {zs:List Value} (p:Blk w g e zs) (h1:64≠e) (h2:3≠e) (h3:70≠e):Blk w' g e zs:=
 (k.block g p.lt (fun e2=>blk_ne hX p h3 e2.symm) (own_ne_blk9 hb p h1) (own_ne_blk9 hz p h2)).trans p
theorem Kp7.row {w w':World} {X B n:Nat} {bv sv:Value} {xs cx:List Value} (k:Kp7 w w' X bv sv) (hb:w.ownsRow B 64 3 bv n xs) (hX:Blk w X 70 cx) {B' n':Nat} {v:Value} {zs:List Value} (ho:w.ownsRow B' 3 1 v n' zs) (ha:Ap3 v sv):w'.ownsRow B' 3 1 v n' zs:=by
 have hlt:=fun g hg=>(own_lt3 ho (g:=g) hg).2
 have hnX:=own_ne_blk9 ho hX (by decide)
 have hap:=Ap3.types ho hb (by decide)
 refine ⟨ho.1,?_⟩
 rcases ho.2 with hn | ⟨g,cap,cur,rfl,hb9,hgg,rest⟩
 ·exact .inl hn
 ·exact .inr ⟨g,cap,cur,rfl,hb9,(k.block g (hlt g rfl) (fun e=>hnX (by rw [← e];rfl)) (hap g rfl) (ha g rfl)).trans hgg,rest⟩
theorem Kp7.below {a b:World} {X B:Nat} {bv sv:Value} (h:Kp7 a b X bv sv) (hX:B≤X) (hb:∀ k,bv.ownBlock=some k→B≤k) (hs:∀ k,sv.ownBlock=some k→B≤k) (hB:B≤a.heap.size):Below B a b:=
 ⟨h.os,h.tape,h.output,h.size,fun k hk=>h.block k (by omega) (by omega) (fun e=>by have:=hb k e;omega) (fun e=>by have:=hs k e;omega)⟩
def Vis7 (w:World) (B X V:Nat) (st:St7) (bv:Value):Prop:=Blk w X 70 [bv,.int .i64 st.2.1,.int .i64 st.2.2]∧w.ownsRow B 64 3 bv st.1.length (flat st.1)∧Blk w V 133 [.func (.func 90) #[] #[.pointer (some ⟨X,0,none⟩),.pointer (some ⟨V,0,none⟩)]]
def VisGot (e:Ending) (w w':World) (B X V:Nat) (bv sv:Value) (st:St7):Prop:=e=.returned (.tuple #[])∧∃ bv',Vis7 w' B X V st bv'∧MovedS w bv bv'∧Kp7 w w' X bv sv
def Can7 (rows:List (List I3)) (f:Nat) (m:V4) (Z:List Int) (st:St7):Prop:=shapeOk m=true∧leftN rows m<f∧SlpOk rows m Z∧Z.length+3*f≤60∧st.2.2+roomT f≤1000000000∧st.1.length≤4*st.2.2∧st.2.1≤st.2.2
def VisC (rows:List (List I3)) (wb:World) (X V:Nat) (cs:Sl × Sl × Sl) (f:Nat):Prop:=∀ (m:V4) (Z:List Int) (st:St7),Can7 rows f m Z st→∀ (w:World) (bv sv:Value),Below wb.heap.size wb w→Vis7 w wb.heap.size X V st bv→w.ownsRow wb.heap.size 3 1 sv Z.length (Z.map (Value.int .i64)) →
  Calls Tryz.prog 90 #[.agg (machCells cs.1.val cs.2.1.val cs.2.2.val m).toArray,sv,.pointer (some ⟨X,0,none⟩),.pointer (some ⟨V,0,none⟩)] w fun e w'=>VisGot e w w' wb.heap.size X V bv sv (visI rows f m Z st)
theorem still_ok {rows:List (List I3)} {m:V4} {Z:List Int} {k:Nat} (h:SlpOk rows m Z):SlpOk rows (goM rows m (k:Int)).1 (stillM rows m Z (k:Int)):=fun j hj=>by
 obtain ⟨h1,h2⟩:=List.mem_filter.1 hj
 obtain ⟨q,rfl,h3,hd⟩:=h j h1
 refine ⟨q,rfl,h3,?_⟩
 rw [Int.toNat_natCast,Int.toNat_natCast] at h2
 have hne:=(dep_clash (rows:=rows) (m:=m) (k:=k) (l:=q) (by simpa using h2)).1
 rw [goM_natC,done_other hne]
 exact hd
theorem still_len (rows:List (List I3)) (m:V4) (Z:List Int) (k:Int):(stillM rows m Z k).length≤Z.length:=List.length_filter_le _ _
theorem slp_snoc {rows:List (List I3)} {m:V4} {Z:List Int} {k:Nat} (h:SlpOk rows m Z) (hk:k<3) (hd:doneM rows m k=false):SlpOk rows m (Z++[(k:Int)]):=fun j hj=>by
 rcases List.mem_append.1 hj with hj | hj
 ·exact h j hj
 ·rw [List.mem_singleton] at hj
  exact ⟨k,hj,hk,hd⟩
theorem moved_app {w W:World} {v v':Value} {u:Value} (h:MovedS w v u) (hs:w.heap.size≤W.heap.size) (h':v'.ownBlock=u.ownBlock∨v'.ownBlock=some W.heap.size):MovedS w v v':=
 h.trans hs (by rcases h' with h' | h';exact .inl h';exact .inr ⟨_,Nat.le_refl _,h'⟩)
structure On7 (rows:List (List I3)) (wb w wr:World) (X V g bL f:Nat) (cs:Sl × Sl × Sl) (m:V4) (bv sv bvi svi:Value) (sl:Sl) (R:St7) (i:Nat) (Zi:List Int) (st:St7):Prop where
 eq:slpL rows m (visI rows f) ((enabM rows m 3).drop i) Zi st=R
 ok:SlpOk rows m Zi
 zl:Zi.length+((enabM rows m 3).length - i)+3*f≤60
 rm:st.2.2+((enabM rows m 3).length - i)*roomT f≤1000000000
 bl4:st.1.length+((enabM rows m 3).length - i)≤4*st.2.2
 rl:st.2.1≤st.2.2
 bx:Blk wr X 70 [bvi,.int .i64 st.2.1,.int .i64 st.2.2]
 br:wr.ownsRow wb.heap.size 64 3 bvi st.1.length (flat st.1)
 vx:Blk wr V 133 [.func (.func 90) #[] #[.pointer (some ⟨X,0,none⟩),.pointer (some ⟨V,0,none⟩)]]
 mc:Blk wr g 89 (machCells cs.1.val cs.2.1.val cs.2.2.val m)
 ls:OwnI wr bL sl (enabM rows m 3)
 zr:wr.ownsRow wb.heap.size 3 1 svi Zi.length (Zi.map (Value.int .i64))
 az:Ap3 (.slice sl.1 sl.2.1 sl.2.2) svi
 kp:Kp7 w wr X bv sv
 mb:MovedS w bv bvi
 ms:MovedS w sv svi
 bl:Below wb.heap.size wb wr

def st9ok (rows:List (List I3)) (f:Nat) (m:V4) (i n:Nat) (st:St7) (Zi:List Int):Prop:=SlpOk rows m Zi∧Zi.length+(n - i)+3*f≤60∧st.2.2+(n - i)*roomT f≤1000000000∧st.1.length+(n - i)≤4*st.2.2∧st.2.1≤st.2.2
theorem own_len7 {w:World} {B e s n:Nat} {a:Option Addr} {k c:Nat} {xs:List Value} (h:w.ownsRow B e s (.slice a k c) n xs):k=n:=by
 rcases h.2 with ⟨h1,h2⟩ | ⟨gq,cq,cur,h1,_⟩
 ·cases h1;exact h2.symm
 ·cases h1;rfl
theorem On7.skip {rows:List (List I3)} {wb w wr:World} {X V g bL f:Nat} {cs:Sl × Sl × Sl} {m:V4} {bv sv bvi svi:Value} {sl:Sl} {R:St7} {i:Nat} {Zi:List Int} {st:St7} {k:Int} (h:On7 rows wb w wr X V g bL f cs m bv sv bvi svi sl R i Zi st) (hd:(enabM rows m 3).drop i=k::(enabM rows m 3).drop (i+1)) (hk:k ∈ Zi) (hi:i<(enabM rows m 3).length):On7 rows wb w wr X V g bL f cs m bv sv bvi svi sl R (i+1) Zi st:=by
 obtain ⟨e1,e2,e3,e4,e5,e6,e7,e8,e9,e10,e11,e12,e13,e14,e15,e16,e17⟩:=h
 refine ⟨?_,e2,by omega,?_,by omega,e6,e7,e8,e9,e10,e11,e12,e13,e14,e15,e16,e17⟩
 ·rw [hd,slpL_skip hk] at e1;exact e1
 ·have:((enabM rows m 3).length - (i+1))*roomT f≤((enabM rows m 3).length - i)*roomT f:=Nat.mul_le_mul_right _ (by omega)
  omega

theorem visit_step {rows:List (List I3)} {wb:World} {X V:Nat} {cs:Sl × Sl × Sl} (hp:progOk rows=true) (hI:∀ k,k<3→Instrs wb (slK cs k).1 (slK cs k).2.1 (slK cs k).2.2 (codeM rows k)) (hBX:wb.heap.size≤X) {f:Nat} (ih:VisC rows wb X V cs f):VisC rows wb X V cs (f+1):=by
 intro m Z st hcan w bv sv b0 hV hz
 obtain ⟨hs,hf,hZ,hZl,hT,hB4,hR9⟩:=hcan
 obtain ⟨pX,qB,pV⟩:=hV
 obtain ⟨i0,hi9,hz0,hz1,hz2⟩:=info_parts info_bug
 obtain ⟨i1,hi1,hy0,hy1,hy2⟩:=info_parts info_int
 obtain ⟨R,hR⟩:∃ R,R=visI rows (f+1) m Z st:=⟨_,rfl⟩
 rw [← hR]
 rw [visI] at hR
 have hrt:roomT (f+1)=1+3*roomT f:=rfl
 rw [hrt] at hT
 clear hrt
 obtain ⟨bs,rn,nd⟩:=st
 simp only at pX qB hT hB4 hR9 hR
 have HR:Hid (R=if 5000<nd+1 then (bs,rn,nd+1) else slpL rows m (visI rows f) (enabM rows m 3) Z (inSt rows m (bs,rn,nd))):=hR
 clear hR
 obtain ⟨za,zn,zc,rfl⟩:=own_slice6 hz
 obtain ⟨ba,bn,bc,rfl⟩:=own_slice6 qB
 have hXl:=pX.lt
 have kE:=fun (W:World) (b:Below wb.heap.size wb W) (g:Nat) (h:Blk W g 89 (machCells cs.1.val cs.2.1.val cs.2.2.val m))=>enabled_is g cs rows m W ⟨h,fun k hk=>(hI k hk).below b⟩ hp hs
 have kU:=fun (W:World) (b:Below wb.heap.size wb W) (g:Nat) (h:Blk W g 89 (machCells cs.1.val cs.2.1.val cs.2.2.val m))=>stuck_is g cs rows m W ⟨h,fun k hk=>(hI k hk).below b⟩ hp hs
 have hone:=mach_one cs.1 cs.2.1 cs.2.2 m
 obtain ⟨x0,x1,x2,x3,x4,x5,x6,x7,x8,x9,x10,x11,x12,x13,x14,x15,x16,x17,hMC⟩:∃ x0 x1 x2 x3 x4 x5 x6 x7 x8 x9 x10 x11 x12 x13 x14 x15 x16 x17:Value,machCells cs.1.val cs.2.1.val cs.2.2.val m=[x0,x1,x2,x3,x4,x5,x6,x7,x8,x9,x10,x11,x12,x13,x14,x15,x16,x17]:=⟨_,_,_,_,_,_,_,_,_,_,_,_,_,_,_,_,_,_,rfl⟩
 have HMC:Hid (machCells cs.1.val cs.2.1.val cs.2.2.val m=[x0,x1,x2,x3,x4,x5,x6,x7,x8,x9,x10,x11,x12,x13,x14,x15,x16,x17]):=hMC
 rw [hMC] at hone ⊢
 clear hMC
 simp only [List.all_cons,List.all_nil,Bool.and_true,Bool.and_eq_true] at hone
 obtain ⟨o0,o1,o2,o3,o4,o5,o6,o7,o8,o9,o10,o11,o12,o13,o14,o15,o16,o17⟩:=hone
 have bw:Below w.heap.size w (w.alloc (.cells #[x0,x1,x2,x3,x4,x5,x6,x7,x8,x9,x10,x11,x12,x13,x14,x15,x16,x17] 89)):=by go_grown
 have cX2:(w.alloc (.cells #[x0,x1,x2,x3,x4,x5,x6,x7,x8,x9,x10,x11,x12,x13,x14,x15,x16,x17] 89)).cell? ⟨X,2,none⟩=some (.int .i64 (nd:Int)):=by simpa using (pX.below bw).cell 2
 have fX2:=(pX.below bw).frozen 2
 have hw2:IntKind.i64.wrap ((nd:Int)+1)=(nd:Int)+1:=IntWalk.i64_in _ ⟨by omega,by omega⟩
 have gX:=grown_cell w X 2 (.int .i64 ((nd:Int)+1))
 have pX0:Blk (w.setCell ⟨X,2,none⟩ (.int .i64 ((nd:Int)+1))) X 70 [.slice ba bn bc,.int .i64 (rn:Int),.int .i64 ((nd:Int)+1)]:=pX.set 2 (.int .i64 ((nd:Int)+1))
 have hgY:w.heap.size≠X:=by omega
 have eSz:(w.setCell ⟨X,2,none⟩ (.int .i64 ((nd:Int)+1))).heap.size=w.heap.size:=by simp
 have bw1:Below (w.setCell ⟨X,2,none⟩ (.int .i64 ((nd:Int)+1))).heap.size (w.setCell ⟨X,2,none⟩ (.int .i64 ((nd:Int)+1))) ((w.setCell ⟨X,2,none⟩ (.int .i64 ((nd:Int)+1))).alloc (.cells #[x0,x1,x2,x3,x4,x5,x6,x7,x8,x9,x10,x11,x12,x13,x14,x15,x16,x17] 89)):=by go_grown
 have pX1:=pX0.below bw1
 have cX3:((w.setCell ⟨X,2,none⟩ (.int .i64 ((nd:Int)+1))).alloc (.cells #[x0,x1,x2,x3,x4,x5,x6,x7,x8,x9,x10,x11,x12,x13,x14,x15,x16,x17] 89)).cell? ⟨X,2,none⟩=some (.int .i64 ((nd:Int)+1)):=by simpa using pX1.cell 2
 have pY1:Blk ((w.setCell ⟨X,2,none⟩ (.int .i64 ((nd:Int)+1))).alloc (.cells #[x0,x1,x2,x3,x4,x5,x6,x7,x8,x9,x10,x11,x12,x13,x14,x15,x16,x17] 89)) w.heap.size 89 [x0,x1,x2,x3,x4,x5,x6,x7,x8,x9,x10,x11,x12,x13,x14,x15,x16,x17]:=blkAt _ _ _ (by simp)
 have pV1:=(pV.kept gX (by simp;exact blk_ne pX pV (by decide))).below bw1
 have qB1:=owns_below (qB.kept gX (.inr (own_ne_blk9 qB pX (by decide)))) bw1
 have hz9:=owns_below (hz.kept gX (.inr (own_ne_blk9 hz pX (by decide)))) bw1
 have kp:Kp7 w ((w.setCell ⟨X,2,none⟩ (.int .i64 ((nd:Int)+1))).alloc (.cells #[x0,x1,x2,x3,x4,x5,x6,x7,x8,x9,x10,x11,x12,x13,x14,x15,x16,x17] 89)) X (.slice ba bn bc) (.slice za zn zc):=((Kp7.refl w X _ _).grX gX).belowR bw1
 have bl:Below wb.heap.size wb ((w.setCell ⟨X,2,none⟩ (.int .i64 ((nd:Int)+1))).alloc (.cells #[x0,x1,x2,x3,x4,x5,x6,x7,x8,x9,x10,x11,x12,x13,x14,x15,x16,x17] 89)):=bel_trans (b0.grown gX b0.size (fun q e=>by cases e;exact hBX)) bw1
 replace pY1:Blk ((w.setCell ⟨X,2,none⟩ (.int .i64 ((nd:Int)+1))).alloc (.cells #[x0,x1,x2,x3,x4,x5,x6,x7,x8,x9,x10,x11,x12,x13,x14,x15,x16,x17] 89)) w.heap.size 89 (machCells cs.1.val cs.2.1.val cs.2.2.val m):=by
  have h9:=pY1
  rw [HMC.out]
  exact h9
 clear pX gX bw pV qB hz b0 HMC pX0 bw1 eSz
 by_cases h5:5000<nd+1
 ·have HR2:Hid (R=(bs,rn,nd+1)):=by rw [Hid,HR.out,if_pos h5]
  have h5':5000<(nd:Int)+1:=by omega
  have HG:Hid (VisGot (.returned (.tuple #[])) w ((w.setCell ⟨X,2,none⟩ (.int .i64 ((nd:Int)+1))).alloc (.cells #[x0,x1,x2,x3,x4,x5,x6,x7,x8,x9,x10,x11,x12,x13,x14,x15,x16,x17] 89)) wb.heap.size X V (.slice ba bn bc) (.slice za zn zc) R):=by
   unfold Hid VisGot
   rw [HR2.out]
   refine ⟨rfl,_,⟨?_,qB1,pV1⟩,MovedS.refl _ _,kp⟩
   simpa using pX1
  clear HR HR2 kE kU pX1 pY1 pV1 qB1 hz9 kp bl
  go_enter Tryz.func90,Tryz.ntmps90
  go_wp2
  refine bodyPost_ret (by simp [results,Tryz.results90,go_sem];try rfl) rfl ?_
  exact HG.out
 have HR2:Hid (R=slpL rows m (visI rows f) (enabM rows m 3) Z (inSt rows m (bs,rn,nd))):=by rw [Hid,HR.out,if_neg h5]
 have h5':¬ (5000<(nd:Int)+1):=by omega
 have kEx:=kE ((w.setCell ⟨X,2,none⟩ (.int .i64 ((nd:Int)+1))).alloc (.cells #[x0,x1,x2,x3,x4,x5,x6,x7,x8,x9,x10,x11,x12,x13,x14,x15,x16,x17] 89)) bl w.heap.size pY1
 clear HR kE h5
 obtain ⟨g,hg⟩:∃ g,g=w.heap.size:=⟨_,rfl⟩
 have hgw:w.heap.size≤g:=by omega
 have HGZ:Hid (g=w.heap.size):=hg
 rw [← hg] at pY1 kEx hgY
 clear hg
 go_enter Tryz.func90,Tryz.ntmps90
 go_wp2_with fail
 rw [← HGZ.out]
 generalize ((w.setCell ⟨X,2,none⟩ (.int .i64 ((nd:Int)+1))).alloc (.cells #[x0,x1,x2,x3,x4,x5,x6,x7,x8,x9,x10,x11,x12,x13,x14,x15,x16,x17] 89))=w1 at *
 clear cX2 fX2 cX3 hw2 o0 o1 o2 o3 o4 o5 o6 o7 o8 o9 o10 o11 o12 o13 o14 o15 o16 o17
 refine kEx.mono ?_
 rintro e w2 ⟨⟨⟨la,ln,lc⟩,rfl,hL⟩,hb⟩
 have hLn:(enabM rows m 3).length=ln:=by have:=hL.1;simpa using this
 have hn3:ln≤3:=by rw [← hLn];exact enabM_len rows m 3
 have HLS:Hid (Ap3 (.slice la ln lc) (.slice za zn zc)):=(Ap3.fresh hz9 hL (Nat.le_refl _)).symm
 replace pX1:=pX1.below hb
 replace pY1:=pY1.below hb
 replace pV1:=pV1.below hb
 replace qB1:=owns_below qB1 hb
 replace hz9:=owns_below hz9 hb
 replace kp:=kp.belowR hb
 replace bl:=bel_trans bl hb
 generalize w1.heap.size=bL at *
 clear hb kEx
 have kUx:=kU w2 bl g pY1
 by_cases hE:enabM rows m 3=[]
 ·obtain rfl:ln=0:=by rw [hE] at hLn;simpa using hLn.symm
  have cX1:w2.cell? ⟨X,1,none⟩=some (.int .i64 (rn:Int)):=by simpa using pX1.cell 1
  have fX1:=pX1.frozen 1
  have hw1:IntKind.i64.wrap ((rn:Int)+1)=(rn:Int)+1:=IntWalk.i64_in _ ⟨by omega,by omega⟩
  have gX1:=grown_cell w2 X 1 (.int .i64 ((rn:Int)+1))
  have pX2:Blk (w2.setCell ⟨X,1,none⟩ (.int .i64 ((rn:Int)+1))) X 70 [.slice ba bn bc,.int .i64 ((rn:Int)+1),.int .i64 ((nd:Int)+1)]:=pX1.set 1 (.int .i64 ((rn:Int)+1))
  have pY2:=pY1.kept gX1 (by simp;omega)
  have pV2:=pV1.kept gX1 (by simp;exact blk_ne pX1 pV1 (by decide))
  have qB2:=qB1.kept gX1 (.inr (own_ne_blk9 qB1 pX1 (by decide)))
  have kp2:=kp.grX gX1
  have bl2:=bl.grown gX1 bl.size (fun q e=>by cases e;exact hBX)
  clear kUx pX1 pY1 pV1 qB1 hz9 kp bl gX1 HLS hL
  have kUx:=kU _ bl2 g pY2
  clear kU
  go_wp2_with fail
  generalize (w2.setCell ⟨X,1,none⟩ (.int .i64 ((rn:Int)+1)))=w3 at *
  clear cX1 fX1 hw1
  refine kUx.mono ?_
  rintro e w4 ⟨rfl,hb⟩
  replace pX2:=pX2.below hb
  replace pV2:=pV2.below hb
  replace qB2:=owns_below qB2 hb
  replace kp2:=kp2.belowR hb
  replace bl2:=bel_trans bl2 hb
  clear hb kUx pY2
  cases hst:stuckM rows m with
  | false =>
   have HG:Hid (VisGot (.returned (.tuple #[])) w w4 wb.heap.size X V (.slice ba bn bc) (.slice za zn zc) R):=by
    unfold Hid VisGot
    rw [HR2.out,hE]
    refine ⟨rfl,_,⟨?_,?_,pV2⟩,MovedS.refl _ _,kp2⟩
    ·simpa [slpL,inSt,hE] using pX2
    ·simpa [slpL,inSt,deadM,hst] using qB2
   clear HR2 pX2 pV2 qB2 kp2 bl2 hE hLn hst
   go_wp2_with fail
   go_loopw [35] (fun s35 wr=>s35=.int .i64 0∧w4=wr) (fun _ _=>0)
   case atStart=>exact ⟨rfl,rfl⟩
   case round =>
    obtain ⟨rfl,rfl⟩:=hrel
    go_wp2
    go_end0
    exact HG.out
  | true =>
   have cX0:w4.cell? ⟨X,0,none⟩=some (.slice ba bn bc):=by simpa using pX2.cell 0
   have hbz:=bl2.size
   go_wp2_with (at_builtin;refine wpList_append_own_at _ rfl _ _ 34 rfl wb.heap.size 64 i0 (.agg #[.int .i64 0,.int .i64 0,.int .i64 0]) 3 24 Tryz.underlying34 hi9 hz0 hz1 hz2 rfl (by decide) _ _ _ rfl (qB2.alloc _) ⟨w4.heap.size,0,none⟩ 1 1 [.int .i64 14,.int .i64 0,.int .i64 0] rfl rfl (three_new6 (blkAt _ _ _ rfl)) (three_one _ _ _) ?c3 ?c4 ?c5 ?_)
   case c3=>unfold maxLen;omega
   case c4=>omega
   case c5=>first | (simp;omega) | omega
   intro v6 w5 q6 gr _ at6
   have ha:Below w4.heap.size w4 (w4.alloc (.cells #[.int .i64 14,.int .i64 0,.int .i64 0] 64)):=by go_grown
   have pX3:=(pX2.below ha).kept gr (own_ne_blk9 (owns_below qB2 ha) (pX2.below ha) (by decide))
   have pV3:=(pV2.below ha).kept gr (own_ne_blk9 (owns_below qB2 ha) (pV2.below ha) (by decide))
   have kp3:=(kp2.belowR ha).grB (MovedS.refl w (.slice ba bn bc)) gr
   have mb3:MovedS w (.slice ba bn bc) v6:=by
    rcases at6 with e6 | e6
    ·exact .inl e6
    ·exact .inr ⟨_,by have:=kp2.size;have:=ha.size;omega,e6⟩
   have cX4:w5.cell? ⟨X,0,none⟩=some (.slice ba bn bc):=by simpa using pX3.cell 0
   have fX4:=pX3.frozen 0
   have gX4:=grown_cell w5 X 0 v6
   have pX4:Blk (w5.setCell ⟨X,0,none⟩ v6) X 70 [v6,.int .i64 ((rn:Int)+1),.int .i64 ((nd:Int)+1)]:=pX3.set 0 v6
   have pV4:=pV3.kept gX4 (by simp;exact blk_ne pX3 pV3 (by decide))
   have q7:=q6.kept gX4 (.inr (own_ne_blk9 q6 pX3 (by decide)))
   have kp4:=kp3.grX gX4
   have HG:Hid (VisGot (.returned (.tuple #[])) w (w5.setCell ⟨X,0,none⟩ v6) wb.heap.size X V (.slice ba bn bc) (.slice za zn zc) R):=by
    unfold Hid VisGot
    rw [HR2.out,hE]
    refine ⟨rfl,v6,⟨?_,?_,pV4⟩,mb3,kp4⟩
    ·simpa [slpL,inSt,hE] using pX4
    ·have h9:=q7
     rw [show flat bs++[.int .i64 14,.int .i64 0,.int .i64 0]=flat (bs++[(14,0,0)]) from (flat_snoc6 bs (14,0,0)).symm] at h9
     simpa [slpL,inSt,deadM,hst] using h9
   obtain ⟨vb6,vn6,vc6,rfl⟩:=own_slice6 q6
   clear HR2 pX2 pX3 pX4 pV2 pV3 pV4 qB2 q6 q7 kp2 kp3 kp4 bl2 hE hLn hst gr at6 ha mb3 gX4 cX0
   go_wp2_with fail
   generalize (w5.setCell ⟨X,0,none⟩ (.slice vb6 vn6 vc6))=w6 at *
   clear cX4 fX4
   go_loopw [35] (fun s35 wr=>s35=.int .i64 0∧w6=wr) (fun _ _=>0)
   case atStart=>exact ⟨rfl,rfl⟩
   case round =>
    obtain ⟨rfl,rfl⟩:=hrel
    go_wp2
    go_end0
    exact HG.out
 ·have hst:stuckM rows m=false:=by unfold stuckM;simp [hE]
  rw [hst] at kUx
  have hln0:((ln:Int) == 0)=false:=by simp;intro e;exact hE (List.eq_nil_of_length_eq_zero (by omega))
  clear kU
  go_wp2_with fail
  refine kUx.mono ?_
  rintro e w3 ⟨rfl,hb⟩
  have hmu:((enabM rows m 3).length - 0)*roomT f≤3*roomT f:=Nat.mul_le_mul_right _ (by omega)
  have st0:On7 rows wb w w3 X V g bL f cs m (.slice ba bn bc) (.slice za zn zc) (.slice ba bn bc) (.slice za zn zc) (la,ln,lc) R 0 Z (bs,rn,nd+1):=by
   refine ⟨?_,hZ,by omega,by simp only;omega,by simp only;omega,by simp only;omega,?_,owns_below qB1 hb,pV1.below hb,pY1.below hb,OwnI.below hL hb,owns_below hz9 hb,HLS.out,kp.belowR hb,MovedS.refl _ _,MovedS.refl _ _,bel_trans bl hb⟩
   ·rw [HR2.out]
    unfold inSt deadM
    rw [hst,if_neg hE]
    simp
   ·simpa using pX1.below hb
  clear HR2 hb kUx pX1 pY1 pV1 qB1 hz9 kp bl HLS hL hst hmu hZ hT hB4 hR9 hZl
  go_wp2_with fail
  go_loopw [1,35] (fun s1 s35 wr=>∃ (i:Nat) (Zi:List Int) (sti:St7) (bvi:Value),s35=.int .i64 i∧i≤ln∧On7 rows wb w wr X V g bL f cs m (.slice ba bn bc) (.slice za zn zc) bvi s1 (la,ln,lc) R i Zi sti) (fun _ s35 _=>ln - (intOf s35).toNat)
  case atStart=>exact ⟨0,Z,_,_,rfl,Nat.zero_le _,st0⟩
  case round =>
   clear st0
   obtain ⟨i,Zi,sti,bvi,rfl,hin,hO⟩:=hrel
   obtain ⟨ya,yn,yc,rfl⟩:=own_slice6 hO.zr
   obtain ⟨va,vn,vc,rfl⟩:=own_slice6 hO.br
   by_cases hlt:i<ln
   ·have hkj:(enabM rows m 3)[i]?=some ((enabM rows m 3).getD i 0):=by rw [List.getD,List.getElem?_eq_getElem (by omega)];rfl
    have hdr9:(enabM rows m 3).drop i=(enabM rows m 3).getD i 0::(enabM rows m 3).drop (i+1):=by rw [List.drop_eq_getElem_cons (by omega)];simp [List.getD,show i<(enabM rows m 3).length by omega]
    have hz:=enab_halt (List.mem_of_getElem? hkj)
    obtain ⟨h0k,h2k,hd,_⟩:=halt_can hz
    obtain ⟨k,hk⟩:∃ k:Nat,(enabM rows m 3).getD i 0=(k:Int):=⟨_,(Int.toNat_of_nonneg h0k).symm⟩
    obtain ⟨lb,lo,rfl,hc,hlb⟩:=ints_cellS hO.ls.ints (show i<ln from hlt)
    rw [hk] at hkj hz hd h0k h2k hc hdr9
    rw [Int.toNat_natCast] at hd
    have hk3:k<3:=by omega
    clear hk hlb hkj
    obtain rfl:yn=Zi.length:=own_len7 hO.zr
    have hzi:Ints .i64 wr ya Zi.length yc Zi:=OwnI.ints (s:=(ya,Zi.length,yc)) hO.zr
    have hzl:=hO.zl
    have kC:=containsInt_is ya Zi.length yc Zi (k:Int) wr hzi (by omega)
    have hlt3:(i:Int)<(ln:Int):=by omega
    have hi0:(0:Int)≤(i:Int):=by omega
    have HDR:Hid ((enabM rows m 3).drop i=(k:Int)::(enabM rows m 3).drop (i+1)):=hdr9
    clear hdr9 hzi
    by_cases hmem:(k:Int) ∈ Zi
    ·have st9:=hO.skip HDR.out hmem (by omega)
     rw [show decide ((k:Int) ∈ Zi)=true by simp [hmem]] at kC
     clear hO hmem HDR hz hd
     go_wp2_with fail
     refine kC.mono ?_
     rintro e w9 ⟨rfl,rfl⟩
     clear kC hc
     go_wp2
     go_roundw
     case rel=>exact ⟨i+1,Zi,sti,_,by go_num,by omega,st9⟩
     case measure=>simp [intOf];omega
    ·rw [show decide ((k:Int) ∈ Zi)=false by simp [hmem]] at kC
     have hx:=goM_shape hp hs hz
     have hlf:=left_step hp hs hz
     have kT:=fun (W:World) (q:Nat) (h:MachAt W q cs rows m)=>take_is h hp hs hk3 hd
     rw [← goM_nat] at kT
     have kA:=fun (W:World) (b:Below wb.heap.size wb W) (h:Blk W g 89 (machCells cs.1.val cs.2.1.val cs.2.2.val m)) (hL:Ints .i64 W ya Zi.length yc Zi)=>stillAsleep_is ⟨h,fun q hq=>(hI q hq).below b⟩ hp hs hk3 hd ya Zi.length yc Zi hL (by omega) hO.ok
     have hown:ownM rows m (k:Int)=if (goM rows m (k:Int)).2=0 then [] else [((goM rows m (k:Int)).2,(k:Int),m.1.getD k 0)]:=by unfold ownM;rw [Int.toNat_natCast]
     have hzs:=still_ok (rows:=rows) (m:=m) (k:=k) hO.ok
     have hzl2:=still_len rows m Zi (k:Int)
     have HEQ:Hid (slpL rows m (visI rows f) ((enabM rows m 3).drop (i+1)) (Zi++[(k:Int)]) (visI rows f (goM rows m (k:Int)).1 (stillM rows m Zi (k:Int)) (sti.1++ownM rows m (k:Int),sti.2))=R):=by
      have h9:=hO.eq
      rw [HDR.out,slpL_go hmem] at h9
      exact h9
     have hok2:=slp_snoc hO.ok hk3 hd
     have hrm:=hO.rm
     have hb4:=hO.bl4
     have hrl:=hO.rl
     have hmu:((enabM rows m 3).length - i)*roomT f=((enabM rows m 3).length - (i+1))*roomT f+roomT f:=by rw [show (enabM rows m 3).length - i=((enabM rows m 3).length - (i+1))+1 by omega,Nat.succ_mul]
     have hol:=own_le1 rows m (k:Int)
     have hcan:Can7 rows f (goM rows m (k:Int)).1 (stillM rows m Zi (k:Int)) (sti.1++ownM rows m (k:Int),sti.2):=⟨hx,by omega,hzs,by omega,by simp only;omega,by simp only [List.length_append];omega,hrl⟩
     have hsr:=visI_room rows f (goM rows m (k:Int)).1 (stillM rows m Zi (k:Int)) (sti.1++ownM rows m (k:Int),sti.2)
     have hss:=visI_size rows f (goM rows m (k:Int)).1 (stillM rows m Zi (k:Int)) (sti.1++ownM rows m (k:Int),sti.2) ((enabM rows m 3).length - (i+1)) (by simp only [List.length_append];omega) hrl
     have kV:=ih _ _ _ hcan
     simp only at hsr
     have HST:Hid (st9ok rows f m (i+1) (enabM rows m 3).length (visI rows f (goM rows m (k:Int)).1 (stillM rows m Zi (k:Int)) (sti.1++ownM rows m (k:Int),sti.2)) (Zi++[(k:Int)])):=⟨hok2,by rw [List.length_append];simp only [List.length_cons,List.length_nil];omega,by omega,by omega,hss.2⟩
     have hnb:sti.1.length≤4000000000:=by omega
     clear hcan hsr hss hok2 hzs hrm hmu hol hx hlf hmem HDR
     generalize visI rows f (goM rows m (k:Int)).1 (stillM rows m Zi (k:Int)) (sti.1++ownM rows m (k:Int),sti.2)=st2 at *
     generalize stillM rows m Zi (k:Int)=Zs at *
     generalize ownM rows m (k:Int)=ow at *
     generalize goM rows m (k:Int)=zf at *
     obtain ⟨z,f9⟩:=zf
     simp only at kT kV hown
     have HOW:Hid (ow=if f9=0 then [] else [(f9,(k:Int),m.1.getD k 0)]):=hown
     clear hown
     generalize m.1.getD k 0=pc at *
     clear hz hd
     go_wp2_with fail
     refine kC.mono ?_
     rintro e w9 ⟨rfl,rfl⟩
     clear kC hc
     have pM:=hO.mc
     have pN:=Blk.new wr 89 [.slice none 0 0,.int .i64 0,.int .i64 0,.int .i64 0,.slice none 0 0,.int .i64 0,.int .i64 0,.int .i64 0,.slice none 0 0,.int .i64 0,.int .i64 0,.int .i64 0,.int .i64 0,.int .i64 0,.int .i64 0,.int .i64 0,.int .i64 0,.int .i64 0]
     have hbN:Below wr.heap.size wr (wr.alloc (.cells #[.slice none 0 0,.int .i64 0,.int .i64 0,.int .i64 0,.slice none 0 0,.int .i64 0,.int .i64 0,.int .i64 0,.slice none 0 0,.int .i64 0,.int .i64 0,.int .i64 0,.int .i64 0,.int .i64 0,.int .i64 0,.int .i64 0,.int .i64 0,.int .i64 0] 89)):=by go_grown
     replace pM:=pM.below hbN
     go_wp2_with (first | refine wpList_load_blk rfl 89 _ rfl g rfl hO.mc _ Tryz.underlying89 rfl (by kernel_rfl) ?_ | refine wpList_load_blk rfl 89 _ rfl g rfl pM _ Tryz.underlying89 rfl (by kernel_rfl) ?_ | refine wpList_store_blk rfl 89 _ _ rfl wr.heap.size (machCells cs.1.val cs.2.1.val cs.2.2.val m) rfl rfl pN (by kernel_rfl) rfl rfl ?_)
     intro u1 p1 g1
     have pZ:=p1.out
     have bz:Below wr.heap.size wr u1:=hbN.grown g1 hbN.size (fun q e=>by cases e;exact Nat.le_refl _)
     clear p1 g1 hbN pN pM
     obtain ⟨N,hN⟩:∃ N,N=wr.heap.size:=⟨_,rfl⟩
     rw [← hN] at pZ ⊢
     have hZw:wr.heap.size≤N:=by omega
     clear hN
     have kTx:=kT u1 N ⟨pZ,fun q hq=>(hI q hq).below (bel_trans hO.bl bz)⟩
     clear kT
     go_wp2_with fail
     refine kTx.mono ?_
     rintro e u2 ⟨rfl,pZ2,g2⟩
     have b2:Below wr.heap.size wr u2:=bz.grown g2 bz.size (fun q e=>by cases e;exact hZw)
     clear kTx pZ bz g2
     have pN:=Blk.new u2 64 [.int .i64 0,.int .i64 0,.int .i64 0]
     have hbN:Below u2.heap.size u2 (u2.alloc (.cells #[.int .i64 0,.int .i64 0,.int .i64 0] 64)):=by go_grown
     go_wp2_with (refine wpList_store_blk rfl 64 _ _ rfl u2.heap.size [.int .i64 f9,.int .i64 (k:Int),.int .i64 pc] rfl rfl pN (by kernel_rfl) rfl rfl ?_)
     intro u3 p3 g3
     have pG:=p3.out
     have b3:Below u2.heap.size u2 u3:=hbN.grown g3 hbN.size (fun q e=>by cases e;exact Nat.le_refl _)
     replace pZ2:=pZ2.below b3
     have bz:=bel_trans b2 b3
     clear p3 g3 hbN pN b2 b3
     generalize u2.heap.size=G at *
     have bx:=hO.bx.below bz
     have br:=owns_below hO.br bz
     have vx:=hO.vx.below bz
     have mc:=hO.mc.below bz
     have ls:=hO.ls.below bz
     have zr:=owns_below hO.zr bz
     have az:=hO.az
     have kp:=hO.kp.belowR bz
     have mb:=hO.mb
     have ms:=hO.ms
     have bl:=bel_trans hO.bl bz
     clear hO bz
     have cG:u3.cell? ⟨G,0,none⟩=some (.int .i64 f9):=by simpa using pG.cell 0
     have hbsz:=bl.size
     by_cases hf0:f9=0
     ·have HOW2:Hid (ow=[]):=by rw [Hid,HOW.out,if_pos hf0]
      have hfn:(f9 != 0)=false:=by simp [hf0]
      clear hf0 HOW pG
      have br2:u3.ownsRow wb.heap.size 64 3 (.slice va vn vc) (sti.1++ow).length (flat (sti.1++ow)):=by rw [HOW2.out,List.append_nil];exact br
      clear br HOW2
      go_wp2_with fail
      clear cG hfn
      have hdr:Below u3.heap.size u3 u3.drew:=by go_grown
      refine wp_region_held_drew (S:=(fun w'=>w'.cell? ⟨V,0,none⟩=some (.func (.func 90) #[] #[.pointer (some ⟨X,0,none⟩),.pointer (some ⟨V,0,none⟩)])∧w'.rangeAt N 0 (machCells cs.1.val cs.2.1.val cs.2.2.val z))) (by kernel_rfl) ⟨by simpa using vx.cell 0,blk_range pZ2⟩ (fun hS0=>?_)
      refine tkm 0 54 (.func (.func 90) #[] #[.pointer (some ⟨X,0,none⟩),.pointer (some ⟨V,0,none⟩)]) ?_
      refine wpAnyH_take (i:=1) (oi:=⟨some 55,_,_,_,_,_⟩) (v:=.agg (machCells cs.1.val cs.2.1.val cs.2.2.val z).toArray) rfl (by kernel_rfl) (by kernel_rfl) (by kernel_rfl) (fun _ _ _ h=>h) (yieldsIf_load_mid (by rfl) 89 _ rfl N 0 rfl (machCells cs.1.val cs.2.1.val cs.2.2.val z) _ (fun _ h=>h.2) Tryz.underlying89 rfl (by kernel_rfl)) (by assumption) ?_
      simp only [Act.put,tka,tkb,tkc]
      refine tkm 2 56 (.slice ya (Zi.length) yc) ?_
      refine tkm 3 57 (.int .i64 (k:Int)) ?_
      replace bx:=bx.below hdr
      replace br2:=owns_below br2 hdr
      replace vx:=vx.below hdr
      replace mc:=mc.below hdr
      replace ls:=ls.below hdr
      replace zr:=owns_below zr hdr
      replace kp:=kp.belowR hdr
      replace bl:=bel_trans bl hdr
      replace pZ2:=pZ2.below hdr
      clear hdr
      generalize u3.drew=D0 at *
      have kAx:=kA D0 bl mc (OwnI.ints (s:=(ya,Zi.length,yc)) zr)
      clear kA
      refine tkr 4 58 (fun K hK=>?_)
      go_simp
      refine kAx.mono ?_
      rintro e D1 ⟨⟨uv,rfl,qU⟩,hb1⟩
      have apZ:=Ap3.fresh zr qU (Nat.le_refl _)
      have apL:=Ap3.fresh ls qU (Nat.le_refl _)
      have huv:∀ q,uv.ownBlock=some q→w.heap.size≤q:=fun q hq=>Nat.le_trans kp.size (own_lt3 qU hq).1
      have qU2:=own_lowerB (B':=wb.heap.size) qU bl.size
      replace bx:=bx.below hb1
      replace br2:=owns_below br2 hb1
      replace vx:=vx.below hb1
      replace mc:=mc.below hb1
      replace ls:=ls.below hb1
      replace zr:=owns_below zr hb1
      replace kp:=kp.belowR hb1
      replace bl:=bel_trans bl hb1
      replace pZ2:=pZ2.below hb1
      clear kAx hb1 qU
      obtain ⟨ua,un,uc,rfl⟩:=own_slice6 qU2
      go_wp2_with fail
      refine hK.out _ _ ⟨by simpa using vx.cell 0,blk_range pZ2⟩ (fun hS1=>?_)
      clear hK
      try simp only [Act.put,tka,tkb,tkc]
      have kVx:=kV D1 (.slice va vn vc) (.slice ua un uc) bl ⟨bx,br2,vx⟩ qU2
      clear kV
      refine tkr 5 59 (fun K hK=>?_)
      go_simp
      refine kVx.mono ?_
      rintro e D2 ⟨rfl,bv2,⟨bx2,br3,vx2⟩,mb2,kp2⟩
      have mc2:=kp2.blk br2 qU2 bx mc (by decide) (by decide) (by decide)
      have pZ3:=kp2.blk br2 qU2 bx pZ2 (by decide) (by decide) (by decide)
      have ls2:OwnI D2 bL (some ⟨lb,lo,none⟩,ln,lc) (enabM rows m 3):=kp2.row br2 bx ls apL
      have zr2:=kp2.row br2 bx zr apZ
      have bl2:Below wb.heap.size wb D2:=bl.trans (kp2.below hBX (fun q hq=>(own_lt3 br2 hq).1) (fun q hq=>(own_lt3 qU2 hq).1) bl.size)
      have kp3:=kp.call mb kp2 huv
      have mb3:=mb.trans kp.size mb2
      clear kVx bx br2 vx mc ls zr kp bl pZ2 qU2 apZ apL huv mb2 kp2 mb
      go_wp2_with fail
      refine hK.out _ _ ⟨by simpa using vx2.cell 0,blk_range pZ3⟩ (fun hS2=>?_)
      clear hK
      try simp only [Act.put,tka,tkb,tkc]
      refine wpAnyH_done (by kernel_rfl) ?_ _
      clear hS0 hS1 hS2 pZ3
      have hzb:=bl2.size
      go_wp2_with (at_builtin;refine wpList_append_own_at _ rfl _ _ 27 rfl wb.heap.size 3 i1 (.int .i64 0) 1 8 Tryz.underlying27 hi1 hy0 hy1 hy2 rfl (by decide) _ _ _ rfl (zr2.alloc _) ⟨D2.heap.size,0,none⟩ 1 1 [.int .i64 (k:Int)] rfl rfl (cell_one_new _ _ _) (by simp [Value.oneCell']) ?c3 ?c4 ?c5 ?_)
      case c3=>unfold maxLen;omega
      case c4=>omega
      case c5=>first | (simp;omega) | omega
      intro sv7 D3 q7 gr7 _ at7
      have ha7:Below D2.heap.size D2 (D2.alloc (.cells #[.int .i64 (k:Int)] 3)):=by go_grown
      have zr7:=owns_below zr2 ha7
      have bx7:=bx2.below ha7
      have vx7:=vx2.below ha7
      have mc7:=mc2.below ha7
      have br7:=owns_below br3 ha7
      have st9:On7 rows wb w D3 X V g bL f cs m (.slice ba bn bc) (.slice za zn zc) bv2 sv7 (some ⟨lb,lo,none⟩,ln,lc) R (i+1) (Zi++[(k:Int)]) st2:=by
       obtain ⟨s1,s2,s3,s4,s5⟩:=HST.out
       refine ⟨HEQ.out,s1,s2,s3,s4,s5,bx7.kept gr7 (own_ne_blk9 zr7 bx7 (by decide)),br7.kept gr7 (Ap3.types br7 zr7 (by decide)).or,vx7.kept gr7 (own_ne_blk9 zr7 vx7 (by decide)),mc7.kept gr7 (own_ne_blk9 zr7 mc7 (by decide)),World.ownsRow.kept (OwnI.below ls2 ha7) gr7 az.or,?_,?_,(kp3.belowR ha7).grS ms gr7,mb3,?_,(bel_trans bl2 ha7).grown gr7 (bel_trans bl2 ha7).size (fun q hq=>(own_lt3 zr7 hq).1)⟩
       ·rw [List.length_append,List.map_append]
        exact q7
       ·exact Ap3.moved (OwnI.below ls2 ha7) az (by rw [World.size_alloc];exact at7)
       ·exact moved_app ms (Nat.le_trans kp3.size ha7.size) (by rw [World.size_alloc];exact at7)
      obtain ⟨sa7,sn7,sc7,rfl⟩:=own_slice6 q7
      clear HST HEQ q7 gr7 at7 ha7 zr7 bx7 vx7 mc7 br7 bx2 br3 vx2 mc2 ls2 zr2 az kp3 mb3 ms bl2
      go_wp2
      go_roundw
      case rel=>exact ⟨i+1,_,st2,_,by go_num,by omega,st9⟩
      case measure=>simp [intOf];omega
     ·have HOW2:Hid (ow=[(f9,(k:Int),pc)]):=by rw [Hid,HOW.out,if_neg hf0]
      have hfn:(f9 != 0)=true:=by simp [hf0]
      clear hf0 HOW
      have cX0:u3.cell? ⟨X,0,none⟩=some (.slice va vn vc):=by simpa using bx.cell 0
      go_wp2_with (first | refine wpList_load_blk rfl 64 _ rfl G rfl pG _ Tryz.underlying64 rfl (by kernel_rfl) ?_ | (at_builtin;refine wpList_append_own_at _ rfl _ _ 34 rfl wb.heap.size 64 i0 (.agg #[.int .i64 0,.int .i64 0,.int .i64 0]) 3 24 Tryz.underlying34 hi9 hz0 hz1 hz2 rfl (by decide) _ _ _ rfl (br.alloc _) ⟨u3.heap.size,0,none⟩ 1 1 [.int .i64 f9,.int .i64 (k:Int),.int .i64 pc] rfl rfl (three_new6 (blkAt _ _ _ rfl)) (three_one _ _ _) ?c3 ?c4 ?c5 ?_))
      case c3=>unfold maxLen;omega
      case c4=>omega
      case c5=>first | (simp;omega) | omega
      intro v6 u5 q6 gr _ at6
      have ha:Below u3.heap.size u3 (u3.alloc (.cells #[.int .i64 f9,.int .i64 (k:Int),.int .i64 pc] 64)):=by go_grown
      have br0:=owns_below br ha
      have bx0:=bx.below ha
      have vx0:=vx.below ha
      have mc0:=mc.below ha
      have zr0:=owns_below zr ha
      have pZ0:=pZ2.below ha
      have bx1:=bx0.kept gr (own_ne_blk9 br0 bx0 (by decide))
      have vx1:=vx0.kept gr (own_ne_blk9 br0 vx0 (by decide))
      have mc1:=mc0.kept gr (own_ne_blk9 br0 mc0 (by decide))
      have pZ1:=pZ0.kept gr (own_ne_blk9 br0 pZ0 (by decide))
      have ls0:OwnI (u3.alloc (.cells #[.int .i64 f9,.int .i64 (k:Int),.int .i64 pc] 64)) bL (some ⟨lb,lo,none⟩,ln,lc) (enabM rows m 3):=OwnI.below ls ha
      have ls1:OwnI u5 bL (some ⟨lb,lo,none⟩,ln,lc) (enabM rows m 3):=World.ownsRow.kept ls0 gr (Ap3.types ls0 br0 (by decide)).or
      have zr1:=zr0.kept gr (Ap3.types zr0 br0 (by decide)).or
      have kp1:=(kp.belowR ha).grB mb gr
      have mb1:=moved_app mb (Nat.le_trans kp.size ha.size) (by rw [World.size_alloc];exact at6)
      have bl1:=(bel_trans bl ha).grown gr (bel_trans bl ha).size (fun q hq=>(own_lt3 br0 hq).1)
      have cX4:u5.cell? ⟨X,0,none⟩=some (.slice va vn vc):=by simpa using bx1.cell 0
      have fX4:=bx1.frozen 0
      have gX4:=grown_cell u5 X 0 v6
      have bx4:Blk (u5.setCell ⟨X,0,none⟩ v6) X 70 [v6,.int .i64 (sti.2.1:Int),.int .i64 (sti.2.2:Int)]:=bx1.set 0 v6
      have vx4:=vx1.kept gX4 (by simp;exact blk_ne bx1 vx1 (by decide))
      have mc4:=mc1.kept gX4 (by simp;exact blk_ne bx1 mc1 (by decide))
      have pZ4:=pZ1.kept gX4 (by simp;exact blk_ne bx1 pZ1 (by decide))
      have q7:=q6.kept gX4 (.inr (own_ne_blk9 q6 bx1 (by decide)))
      have ls4:OwnI (u5.setCell ⟨X,0,none⟩ v6) bL (some ⟨lb,lo,none⟩,ln,lc) (enabM rows m 3):=World.ownsRow.kept ls1 gX4 (.inr (own_ne_blk9 ls1 bx1 (by decide)))
      have zr4:=zr1.kept gX4 (.inr (own_ne_blk9 zr1 bx1 (by decide)))
      have kp4:=kp1.grX gX4
      have bl4:=bl1.grown gX4 bl1.size (fun q e=>by cases e;exact hBX)
      have br2:(u5.setCell ⟨X,0,none⟩ v6).ownsRow wb.heap.size 64 3 v6 (sti.1++ow).length (flat (sti.1++ow)):=by rw [HOW2.out,flat_snoc6,List.length_append];exact q7
      obtain ⟨vb6,vn6,vc6,rfl⟩:=own_slice6 q6
      clear bx br vx mc ls zr kp mb bl pZ2 br0 bx0 vx0 mc0 zr0 pZ0 bx1 vx1 mc1 pZ1 ls0 ls1 zr1 kp1 bl1 q6 q7 gr at6 ha gX4 HOW2 cX0 pG
      go_wp2_with fail
      generalize (u5.setCell ⟨X,0,none⟩ (.slice vb6 vn6 vc6))=u6 at *
      clear cX4 fX4 cG hfn
      have bx:=bx4
      have vx:=vx4
      have mc:=mc4
      have pZ2:=pZ4
      have ls:=ls4
      have zr:=zr4
      have kp:=kp4
      have mb:=mb1
      have bl:=bl4
      clear bx4 vx4 mc4 pZ4 ls4 zr4 kp4 mb1 bl4
      have hdr:Below u6.heap.size u6 u6.drew:=by go_grown
      refine wp_region_held_drew (S:=(fun w'=>w'.cell? ⟨V,0,none⟩=some (.func (.func 90) #[] #[.pointer (some ⟨X,0,none⟩),.pointer (some ⟨V,0,none⟩)])∧w'.rangeAt N 0 (machCells cs.1.val cs.2.1.val cs.2.2.val z))) (by kernel_rfl) ⟨by simpa using vx.cell 0,blk_range pZ2⟩ (fun hS0=>?_)
      refine tkm 0 54 (.func (.func 90) #[] #[.pointer (some ⟨X,0,none⟩),.pointer (some ⟨V,0,none⟩)]) ?_
      refine wpAnyH_take (i:=1) (oi:=⟨some 55,_,_,_,_,_⟩) (v:=.agg (machCells cs.1.val cs.2.1.val cs.2.2.val z).toArray) rfl (by kernel_rfl) (by kernel_rfl) (by kernel_rfl) (fun _ _ _ h=>h) (yieldsIf_load_mid (by rfl) 89 _ rfl N 0 rfl (machCells cs.1.val cs.2.1.val cs.2.2.val z) _ (fun _ h=>h.2) Tryz.underlying89 rfl (by kernel_rfl)) (by assumption) ?_
      simp only [Act.put,tka,tkb,tkc]
      refine tkm 2 56 (.slice ya (Zi.length) yc) ?_
      refine tkm 3 57 (.int .i64 (k:Int)) ?_
      replace bx:=bx.below hdr
      replace br2:=owns_below br2 hdr
      replace vx:=vx.below hdr
      replace mc:=mc.below hdr
      replace ls:=ls.below hdr
      replace zr:=owns_below zr hdr
      replace kp:=kp.belowR hdr
      replace bl:=bel_trans bl hdr
      replace pZ2:=pZ2.below hdr
      clear hdr
      generalize u6.drew=D0 at *
      have kAx:=kA D0 bl mc (OwnI.ints (s:=(ya,Zi.length,yc)) zr)
      clear kA
      refine tkr 4 58 (fun K hK=>?_)
      go_simp
      refine kAx.mono ?_
      rintro e D1 ⟨⟨uv,rfl,qU⟩,hb1⟩
      have apZ:=Ap3.fresh zr qU (Nat.le_refl _)
      have apL:=Ap3.fresh ls qU (Nat.le_refl _)
      have huv:∀ q,uv.ownBlock=some q→w.heap.size≤q:=fun q hq=>Nat.le_trans kp.size (own_lt3 qU hq).1
      have qU2:=own_lowerB (B':=wb.heap.size) qU bl.size
      replace bx:=bx.below hb1
      replace br2:=owns_below br2 hb1
      replace vx:=vx.below hb1
      replace mc:=mc.below hb1
      replace ls:=ls.below hb1
      replace zr:=owns_below zr hb1
      replace kp:=kp.belowR hb1
      replace bl:=bel_trans bl hb1
      replace pZ2:=pZ2.below hb1
      clear kAx hb1 qU
      obtain ⟨ua,un,uc,rfl⟩:=own_slice6 qU2
      go_wp2_with fail
      refine hK.out _ _ ⟨by simpa using vx.cell 0,blk_range pZ2⟩ (fun hS1=>?_)
      clear hK
      try simp only [Act.put,tka,tkb,tkc]
      have kVx:=kV D1 (.slice vb6 vn6 vc6) (.slice ua un uc) bl ⟨bx,br2,vx⟩ qU2
      clear kV
      refine tkr 5 59 (fun K hK=>?_)
      go_simp
      refine kVx.mono ?_
      rintro e D2 ⟨rfl,bv2,⟨bx2,br3,vx2⟩,mb2,kp2⟩
      have mc2:=kp2.blk br2 qU2 bx mc (by decide) (by decide) (by decide)
      have pZ3:=kp2.blk br2 qU2 bx pZ2 (by decide) (by decide) (by decide)
      have ls2:OwnI D2 bL (some ⟨lb,lo,none⟩,ln,lc) (enabM rows m 3):=kp2.row br2 bx ls apL
      have zr2:=kp2.row br2 bx zr apZ
      have bl2:Below wb.heap.size wb D2:=bl.trans (kp2.below hBX (fun q hq=>(own_lt3 br2 hq).1) (fun q hq=>(own_lt3 qU2 hq).1) bl.size)
      have kp3:=kp.call mb kp2 huv
      have mb3:=mb.trans kp.size mb2
      clear kVx bx br2 vx mc ls zr kp bl pZ2 qU2 apZ apL huv mb2 kp2 mb
      go_wp2_with fail
      refine hK.out _ _ ⟨by simpa using vx2.cell 0,blk_range pZ3⟩ (fun hS2=>?_)
      clear hK
      try simp only [Act.put,tka,tkb,tkc]
      refine wpAnyH_done (by kernel_rfl) ?_ _
      clear hS0 hS1 hS2 pZ3
      have hzb:=bl2.size
      go_wp2_with (at_builtin;refine wpList_append_own_at _ rfl _ _ 27 rfl wb.heap.size 3 i1 (.int .i64 0) 1 8 Tryz.underlying27 hi1 hy0 hy1 hy2 rfl (by decide) _ _ _ rfl (zr2.alloc _) ⟨D2.heap.size,0,none⟩ 1 1 [.int .i64 (k:Int)] rfl rfl (cell_one_new _ _ _) (by simp [Value.oneCell']) ?c3 ?c4 ?c5 ?_)
      case c3=>unfold maxLen;omega
      case c4=>omega
      case c5=>first | (simp;omega) | omega
      intro sv7 D3 q7 gr7 _ at7
      have ha7:Below D2.heap.size D2 (D2.alloc (.cells #[.int .i64 (k:Int)] 3)):=by go_grown
      have zr7:=owns_below zr2 ha7
      have bx7:=bx2.below ha7
      have vx7:=vx2.below ha7
      have mc7:=mc2.below ha7
      have br7:=owns_below br3 ha7
      have st9:On7 rows wb w D3 X V g bL f cs m (.slice ba bn bc) (.slice za zn zc) bv2 sv7 (some ⟨lb,lo,none⟩,ln,lc) R (i+1) (Zi++[(k:Int)]) st2:=by
       obtain ⟨s1,s2,s3,s4,s5⟩:=HST.out
       refine ⟨HEQ.out,s1,s2,s3,s4,s5,bx7.kept gr7 (own_ne_blk9 zr7 bx7 (by decide)),br7.kept gr7 (Ap3.types br7 zr7 (by decide)).or,vx7.kept gr7 (own_ne_blk9 zr7 vx7 (by decide)),mc7.kept gr7 (own_ne_blk9 zr7 mc7 (by decide)),World.ownsRow.kept (OwnI.below ls2 ha7) gr7 az.or,?_,?_,(kp3.belowR ha7).grS ms gr7,mb3,?_,(bel_trans bl2 ha7).grown gr7 (bel_trans bl2 ha7).size (fun q hq=>(own_lt3 zr7 hq).1)⟩
       ·rw [List.length_append,List.map_append]
        exact q7
       ·exact Ap3.moved (OwnI.below ls2 ha7) az (by rw [World.size_alloc];exact at7)
       ·exact moved_app ms (Nat.le_trans kp3.size ha7.size) (by rw [World.size_alloc];exact at7)
      obtain ⟨sa7,sn7,sc7,rfl⟩:=own_slice6 q7
      clear HST HEQ q7 gr7 at7 ha7 zr7 bx7 vx7 mc7 br7 bx2 br3 vx2 mc2 ls2 zr2 az kp3 mb3 ms bl2
      go_wp2
      go_roundw
      case rel=>exact ⟨i+1,_,st2,_,by go_num,by omega,st9⟩
      case measure=>simp [intOf];omega
   ·obtain rfl:i=ln:=by omega
    have hnl:¬ ((i:Int)<(i:Int)):=by omega
    have HG:Hid (VisGot (.returned (.tuple #[])) w wr wb.heap.size X V (.slice ba bn bc) (.slice za zn zc) R):=by
     have h9:=hO.eq
     rw [List.drop_of_length_le (by omega)] at h9
     unfold slpL at h9
     rw [← h9]
     exact ⟨rfl,_,⟨hO.bx,hO.br,hO.vx⟩,hO.mb,hO.kp⟩
    clear hO
    go_wp2
    go_end0
    exact HG.out
theorem visit_is {rows:List (List I3)} {wb:World} {X V:Nat} {cs:Sl × Sl × Sl} (hp:progOk rows=true) (hI:∀ k,k<3→Instrs wb (slK cs k).1 (slK cs k).2.1 (slK cs k).2.2 (codeM rows k)) (hBX:wb.heap.size≤X):∀ f,VisC rows wb X V cs f
 | 0=>fun m Z st h=>absurd h.2.1 (Nat.not_lt_zero _)
 | f+1=>visit_step hp hI hBX (visit_is hp hI hBX f)


theorem bugsI_fit6 {rows:List (List I3)} {m:V4} (hp:progOk rows=true) (hs:shapeOk m=true):∀ x ∈ bugsI rows m,I3.fits x:=fun x hx=>by
 unfold bugsI at hx
 split at hx
 ·simp at hx;subst hx;exact okB_fitsQ rfl
 ·obtain ⟨k,hk,hx⟩:=List.mem_flatMap.1 hx
  exact okB_fitsQ (ownM_ok hp hs (enab_halt hk) x hx)
theorem bugsI_len6 (rows:List (List I3)) (m:V4):(bugsI rows m).length≤3:=by
 unfold bugsI
 split
 ·simp
 ·have h:=fndO_len rows m (enabM rows m 3).length
  unfold fndO at h
  rw [List.take_length] at h
  have:=enabM_len rows m 3
  omega
def fndA (rows:List (List I3)) (L:List (Rec6 V4 × Value)) (j:Nat):List I3:=(L.take j).flatMap fun x=>bugsI rows x.1.1
theorem fndA_succ {rows:List (List I3)} {L:List (Rec6 V4 × Value)} {j:Nat} {r:Rec6 V4} {mv:Value} (h:L[j]?=some (r,mv)):fndA rows L (j+1)=fndA rows L j++bugsI rows r.1:=by
 unfold fndA
 rw [List.take_add_one,h]
 simp
theorem fndA_len (rows:List (List I3)) (L:List (Rec6 V4 × Value)):∀ j,(fndA rows L j).length≤3*j
 | 0=>by simp [fndA]
 | j+1=>by
  have ih:=fndA_len rows L j
  cases h:L[j]? with
  | none =>
   have e:fndA rows L (j+1)=fndA rows L j:=by unfold fndA;rw [List.take_add_one,h];simp
   rw [e]
   omega
  | some x =>
   obtain ⟨r,mv⟩:=x
   rw [fndA_succ h,List.length_append]
   have:=bugsI_len6 rows r.1
   omega
theorem fndA_all (rows:List (List I3)) (L:List (Rec6 V4 × Value)):fndA rows L L.length=(L.map (·.1)).flatMap fun r=>bugsI rows r.1:=by
 unfold fndA
 rw [List.take_length,List.flatMap_map]
theorem fndA_fits {rows:List (List I3)} {L:List (Rec6 V4 × Value)} (hp:progOk rows=true) (hsh:Shaped (L.map (·.1))) (j:Nat):∀ x ∈ fndA rows L j,I3.fits x:=fun x hx=>by
 unfold fndA at hx
 obtain ⟨y,hy,hx⟩:=List.mem_flatMap.1 hx
 exact bugsI_fit6 hp (hsh y.1 (List.mem_map.2 ⟨y,List.mem_of_mem_take hy,rfl⟩)) x hx
theorem flat_app6 (xs ys:List I3):flat (xs++ys)=flat xs++flat ys:=by simp [flat]
theorem news_flat6 {w:World} {B g n c:Nat} {xs:List I3} (h:w.ownsRow B 64 3 (.slice (some ⟨g,0,none⟩) n c) n (flat xs)):∀ j u,(flat xs)[j]?=some u→w.cell? ((⟨g,0,none⟩:Addr).add j)=some u:=by
 intro j u hj
 have hl:j<(flat xs).length:=(List.getElem?_eq_some_iff.1 hj).1
 have h1:=h.1
 rw [Addr.add_mid,Nat.zero_add,h.cellAt j (by omega)]
 exact hj
theorem flat_one6 (xs:List I3):∀ u ∈ flat xs,u.oneCell'=true:=fun u hu=>by
 unfold flat at hu
 obtain ⟨x,_,hx⟩:=List.mem_flatMap.1 hu
 simp [I3.cells] at hx
 rcases hx with rfl | rfl | rfl<;>rfl

theorem sbug_is {w:World} {B X nb vc:Nat} {va:Option Addr} {cs:Sl × Sl × Sl} {rows:List (List I3)} {F:List (Rec6 V4)} {L:List (Rec6 V4 × Value)} (sp:SpcD w B nb (.slice va L.length vc) cs (mvsOf rows F) L L.length) (bx:Blk w X 106 [.slice va L.length vc,.map (some nb)]) (hp:progOk rows=true) (hsh:Shaped (L.map (·.1))) (hI:∀ k,k<3→Instrs w (slK cs k).1 (slK cs k).2.1 (slK cs k).2.2 (codeM rows k)) (hl:L.length≤2000) :
  Calls Tryz.prog 77 #[.pointer (some ⟨X,0,none⟩)] w fun e w'=>BugsOne e w' w.heap.size (allI rows (L.map (·.1)))∧Below w.heap.size w w':=by
 obtain ⟨i0,hi9,hz0,hz1,hz2⟩:=info_parts info_bug
 have cX0:w.cell? ⟨X,0,none⟩=some (.slice va L.length vc):=by simpa using bx.cell 0
 have HAll:Hid (allI rows (L.map (·.1))=mergeB (fndA rows L L.length) []):=by rw [Hid,fndA_all];rfl
 have st:w.ownsRow w.heap.size 64 3 (.slice none 0 0) (fndA rows L 0).length (flat (fndA rows L 0)):=World.ownsRow_nil _ _ _ _
 go_enter Tryz.func77,Tryz.ntmps77
 go_wp2_with fail
 go_loopw [3,11] (fun s3 s11 wr=>∃ j:Nat,s11=.int .i64 j∧j≤L.length∧wr.ownsRow w.heap.size 64 3 s3 (fndA rows L j).length (flat (fndA rows L j))∧Below w.heap.size w wr) (fun _ s11 _=>L.length - (intOf s11).toNat)
 case atStart=>exact ⟨0,rfl,Nat.zero_le _,st,Below.refl _ _⟩
 case round =>
  clear st cX0
  obtain ⟨j,rfl,hjn,q,bw⟩:=hrel
  obtain ⟨ka,kn,kc,rfl⟩:=own_slice6 q
  have hfl:=fndA_len rows L j
  by_cases hlt:j<L.length
  ·obtain ⟨r,mv,hr⟩:∃ r mv,L[j]?=some (r,mv):=⟨L[j].1,L[j].2,by rw [List.getElem?_eq_getElem hlt]⟩
   have hs:shapeOk r.1=true:=hsh r (List.mem_map.2 ⟨_,List.mem_of_getElem? hr,rfl⟩)
   have sp1:=sp.below bw
   have mvr:=sp1.mvs j r mv hlt hr
   obtain ⟨g,c9,e9,hg,hrg⟩:=sp1.at9 hr
   cases e9
   have hmv:=sp1.mvone hr
   have HS:Hid (fndA rows L (j+1)=fndA rows L j++bugsI rows r.1):=fndA_succ hr
   have hbl:=bugsI_len6 rows r.1
   have hlt3:(j:Int)<(L.length:Int):=by omega
   have hj0:(0:Int)≤(j:Int):=by omega
   have pN:=Blk.new wr 111 [.string ⟨#[]⟩,.slice none 0 0,.int .i64 0,.int .i64 0,.int .i64 0,.slice none 0 0,.int .i64 0,.int .i64 0,.int .i64 0,.slice none 0 0,.int .i64 0,.int .i64 0,.int .i64 0,.int .i64 0,.int .i64 0,.int .i64 0,.int .i64 0,.int .i64 0,.int .i64 0,.int .i64 0,.int .i64 0,.slice none 0 0]
   have hbN:Below wr.heap.size wr (wr.alloc (.cells #[.string ⟨#[]⟩,.slice none 0 0,.int .i64 0,.int .i64 0,.int .i64 0,.slice none 0 0,.int .i64 0,.int .i64 0,.int .i64 0,.slice none 0 0,.int .i64 0,.int .i64 0,.int .i64 0,.int .i64 0,.int .i64 0,.int .i64 0,.int .i64 0,.int .i64 0,.int .i64 0,.int .i64 0,.int .i64 0,.slice none 0 0] 111)):=by go_grown
   clear sp1 hr
   go_wp2_with (first | refine wpList_load_mid rfl 111 _ rfl g (j*22) rfl (rcC cs r mv) _ hrg Tryz.underlying111 rfl (by kernel_rfl) ?_ | refine wpList_store_blk rfl 111 _ _ rfl wr.heap.size (rcC cs r mv) rfl rfl pN (by kernel_rfl) rfl (rcC_one cs r hmv) ?_)
   intro w3 p3 g3
   have pE:=p3.out
   have b3:Below wr.heap.size wr w3:=hbN.grown g3 hbN.size (fun k e=>by cases e;exact Nat.le_refl _)
   replace bw:=bel_trans bw b3
   replace q:=owns_below q b3
   replace mvr:=owns_below mvr b3
   clear p3 g3 hbN pN b3 hrg hmv
   generalize wr.heap.size=E at *
   have kR:=rbug_is pE mvr hp hs (fun k hk=>(hI k hk).below bw)
   go_wp2_with fail
   refine kR.mono ?_
   rintro e w4 ⟨⟨v9,rfl,q9⟩,hb⟩
   have hw3:=bw.size
   replace bw:=bel_trans bw hb
   replace q:=owns_below q hb
   clear hb kR pE mvr
   rcases q9.2 with ⟨hv9,h09⟩ | ⟨gq,cq,cur,hv9,_⟩
   ·subst hv9
    have hn0:bugsI rows r.1=[]:=List.eq_nil_of_length_eq_zero h09
    have st9:w4.ownsRow w.heap.size 64 3 (.slice ka kn kc) (fndA rows L (j+1)).length (flat (fndA rows L (j+1))):=by
     rw [HS.out,hn0,List.append_nil]
     exact q
    go_wp2_with (at_builtin;refine wpList_append_own_none rfl _ _ 34 rfl w.heap.size 64 i0 3 Tryz.underlying34 hi9 (.slice ka kn kc) _ _ rfl q rfl ?_)
    clear q q9 h09 hn0 HS
    go_wp2
    go_roundw
    case rel=>exact ⟨j+1,by go_num,by omega,st9,bw⟩
    case measure=>simp [intOf];omega
   ·subst hv9
    have hw4:w.heap.size≤w4.heap.size:=bw.size
    have q9':w4.ownsRow w3.heap.size 64 3 (.slice (some ⟨gq,0,none⟩) (bugsI rows r.1).length cq) (bugsI rows r.1).length (flat (bugsI rows r.1)):=q9
    generalize bugsI rows r.1=bs at *
    go_wp2_with (at_builtin;refine wpList_append_own_at _ rfl _ _ 34 rfl w.heap.size 64 i0 (.agg #[.int .i64 0,.int .i64 0,.int .i64 0]) 3 24 Tryz.underlying34 hi9 hz0 hz1 hz2 rfl (by decide) (.slice ka kn kc) _ _ rfl q ⟨gq,0,none⟩ bs.length cq (flat bs) rfl (flat_length _) (news_flat6 q9') (flat_one6 _) (by unfold maxLen;omega) (by omega) hw4 ?_)
    intro v6 w5 q6 gr _ at6
    have bw5:=bw.grown gr bw.size (fun k e=>(own_lt3 q e).1)
    have st9:w5.ownsRow w.heap.size 64 3 v6 (fndA rows L (j+1)).length (flat (fndA rows L (j+1))):=by
     rw [HS.out,List.length_append,flat_app6]
     exact q6
    clear q q6 q9 q9' gr at6 bw HS
    go_wp2
    go_roundw
    case rel=>exact ⟨j+1,by go_num,by omega,st9,bw5⟩
    case measure=>simp [intOf];omega
  ·have hge:¬ (j:Int)<(L.length:Int):=by omega
   obtain rfl:j=L.length:=by omega
   obtain ⟨fa,fc,e9,hIn,hGd⟩:=bugs_sliceR q (fndA_fits hp hsh _)
   cases e9
   have kM:=mergedBugs_is ka (fndA rows L L.length).length kc (fndA rows L L.length) none 0 0 [] wr hIn ⟨rfl,Nat.le_refl _,by unfold maxLen;omega,by simp,.inl rfl⟩ (by omega) (by omega) hGd ⟨fun _=>rfl,fun x hx=>by cases hx⟩
   clear q hIn hGd
   go_wp2_with fail
   refine kM.mono ?_
   rintro e w5 ⟨⟨v5,rfl,q5⟩,hb⟩
   have hwr:=bw.size
   replace bw:=bel_trans bw hb
   have HG:Hid (BugsOne (.returned v5) w5 w.heap.size (allI rows (L.map (·.1)))):=by rw [HAll.out];exact ⟨_,rfl,own_lower q5 hwr⟩
   clear kM hb q5 HAll
   go_wp2
   go_ret
   exact ⟨HG.out,bw⟩

def bugsO (rows:List (List I3)):List I3:=if codeF rows=0 then allI rows (fullS rows) else []
def AbgGot (e:Ending) (w:World) (B:Nat) (xs:List I3) (c:Int):Prop:=∃ v,e=.returned (.tuple #[v,.int .i64 c])∧w.ownsRow B 64 3 v xs.length (flat xs)
theorem implAllBugs_not (a:Option Addr) (len cap:Nat) (rows:List (List I3)) (w:World) (hC:Codes w a len cap rows) (hV:VmShape w) (hc:codeF rows≠0) :
  Calls Tryz.prog 32 #[.agg #[.slice a len cap]] w fun e w'=>AbgGot e w' w.heap.size [] (codeF rows)∧Below w.heap.size w w':=by
 have kS:=fun (W:World) (b:Below w.heap.size w W) (t:S4) (h:Vmem W t zeroV)=>spaceOf_not a len cap rows t W (hC.below b) h (hV.below b) hc
 generalize codeF rows=c at *
 have hcn:(c != 0)=true:=by simpa using hc
 have fz:=(shape_fits9 zero_shape).1
 have kN:=implNewVm_is
 have bw:Below w.heap.size w (w.alloc (.cells #[.slice a len cap] 25)):=by go_grown
 have pP:Blk (w.alloc (.cells #[.slice a len cap] 25)) w.heap.size 25 [.slice a len cap]:=blkAt _ _ _ rfl
 go_enter Tryz.func32,Tryz.ntmps32
 go_wp2_with fail
 generalize (w.alloc (.cells #[.slice a len cap] 25))=U at *
 go_cut [4,5] from 6 (fun s4 s5 W=>CutF w W c s4 s5)
 case first =>
  have hdr:Below U.heap.size U U.drew:=by go_grown
  refine wp_region_held_drew (S:=(fun w'=>w'.cell? ⟨w.heap.size,0,none⟩=some (.slice a len cap))) (by kernel_rfl) (by simpa using pP.cell 0) (fun hS0=>?_)
  refine tkm 0 7 (.agg #[.slice a len cap]) ?_
  have pP9:=pP.below hdr
  replace bw:=bel_trans bw hdr
  clear hdr
  generalize U.drew=V at *
  have bt:Below V.heap.size V V:=Below.refl _ _
  refine wpAnyH_ready (rs:=[1,6]) (by kernel_rfl) (by simp) ?_
  refine AllReadyH.cons (o:=⟨some 8,_,_,_,_,_⟩) rfl (fun K hK=>?_) (AllReadyH.cons (o:=⟨some 4,_,_,_,_,_⟩) rfl (fun K hK=>?_) AllReadyH.nil)
  ·go_simp
   refine (kN V).mono ?_
   rintro e V1 ⟨⟨⟨⟨t0a,t0n,t0c⟩,⟨t1a,t1n,t1c⟩,⟨t2a,t2n,t2c⟩,⟨t3a,t3n,t3c⟩⟩,rfl,hO⟩,hb1⟩
   have ut:S4.val ((t0a,t0n,t0c),(t1a,t1n,t1c),(t2a,t2n,t2c),(t3a,t3n,t3c))=.agg #[.slice t0a t0n t0c,.slice t1a t1n t1c,.slice t2a t2n t2c,.slice t3a t3n t3c]:=rfl
   rw [ut]
   have bt:=bel_trans bt hb1
   go_wp2_with fail
   refine hK.out _ _ (cells_kept bt _ _ hS0) (fun hS1=>?_)
   clear hK
   try simp only [Act.put,tka,tkb,tkc]
   refine wpAnyH_ready (rs:=[2,6]) (by kernel_rfl) (by simp) ?_
   refine AllReadyH.cons (o:=⟨some 9,_,_,_,_,_⟩) rfl (fun K hK=>?_) (AllReadyH.cons (o:=⟨some 4,_,_,_,_,_⟩) rfl (fun K hK=>?_) AllReadyH.nil)
   ·have kx:=kS V1 (bel_trans bw bt) ((t0a,t0n,t0c),(t1a,t1n,t1c),(t2a,t2n,t2c),(t3a,t3n,t3c)) (hO.mem fz)
    rw [ut] at kx
    go_simp
    refine kx.mono ?_
    rintro e V2 ⟨rfl,hb2⟩
    have bt:=bel_trans bt hb2
    go_wp2_with fail
    refine hK.out _ _ (cells_kept bt _ _ hS0) (fun hS2=>?_)
    clear hK kx
    try simp only [Act.put,tka,tkb,tkc]
    refine tkm 3 6 (.tuple #[.agg #[.slice none 0 0,.map none],.int .i64 c]) ?_
    refine tkm 4 10 (.agg #[.slice none 0 0,.map none]) ?_
    refine tkm 5 11 (.int .i64 c) ?_
    refine tkr 6 4 (fun K hK=>?_)
    have hb3:Below V2.heap.size V2 (V2.alloc (.cells #[.slice none 0 0,.map none] 106)):=by go_grown
    have pX:Blk (V2.alloc (.cells #[.slice none 0 0,.map none] 106)) V2.heap.size 106 [.slice none 0 0,.map none]:=blkAt _ _ _ rfl
    have hXB:w.heap.size≤V2.heap.size:=Nat.le_trans bw.size bt.size
    have bt:=bel_trans bt hb3
    go_simp
    refine hK.out _ _ (cells_kept bt _ _ hS0) (fun hS3=>?_)
    clear hK
    generalize (V2.alloc (.cells #[.slice none 0 0,.map none] 106))=V3 at *
    obtain ⟨X,hX⟩:∃ X,X=V2.heap.size:=⟨_,rfl⟩
    rw [← hX] at pX hXB ⊢
    clear hX
    try simp only [Act.put,tka,tkb,tkc]
    refine tkz 7 (fun K hK=>?_)
    refine step_store_blkD rfl 106 _ _ rfl X [.slice none 0 0,.map none] rfl rfl pX (by kernel_rfl) rfl rfl ?_
    intro V9 pX9 g9
    have bz:=(bel_trans bw bt).grown g9 (bel_trans bw bt).size (fun q e=>by cases e;exact hXB)
    have hXP:X≠w.heap.size:=blk_ne pX (pP9.below bt) (by decide)
    have c9:=cells_kept bt _ _ hS0
    refine hK.out _ _ (cell_grownB g9 c9 (by simp;omega)) (fun hS4=>?_)
    clear hK
    try simp only [Act.put,tka,tkb,tkc]
    refine tkm 8 5 (.int .i64 c) ?_
    refine wpAnyH_done (by kernel_rfl) ?_ _
    go_wp2_with fail
    go_meet
    case rel=>exact ⟨X,rfl,rfl,bz⟩
   ·have hb3:Below V1.heap.size V1 (V1.alloc (.cells #[.slice none 0 0,.map none] 106)):=by go_grown
    have pX:Blk (V1.alloc (.cells #[.slice none 0 0,.map none] 106)) V1.heap.size 106 [.slice none 0 0,.map none]:=blkAt _ _ _ rfl
    have hXB:w.heap.size≤V1.heap.size:=Nat.le_trans bw.size bt.size
    replace hO:=hO.below hb3
    have bt:=bel_trans bt hb3
    go_simp
    refine hK.out _ _ (cells_kept bt _ _ hS0) (fun hS3=>?_)
    clear hK
    generalize (V1.alloc (.cells #[.slice none 0 0,.map none] 106))=V2 at *
    obtain ⟨X,hX⟩:∃ X,X=V1.heap.size:=⟨_,rfl⟩
    rw [← hX] at pX hXB ⊢
    clear hX
    try simp only [Act.put,tka,tkb,tkc]
    refine tkr 2 9 (fun K hK=>?_)
    have kx:=kS V2 (bel_trans bw bt) ((t0a,t0n,t0c),(t1a,t1n,t1c),(t2a,t2n,t2c),(t3a,t3n,t3c)) (hO.mem fz)
    rw [ut] at kx
    go_simp
    refine kx.mono ?_
    rintro e V3 ⟨rfl,hb2⟩
    replace pX:=pX.below hb2
    have bt:=bel_trans bt hb2
    go_wp2_with fail
    refine hK.out _ _ (cells_kept bt _ _ hS0) (fun hS2=>?_)
    clear hK kx
    try simp only [Act.put,tka,tkb,tkc]
    refine tkm 3 6 (.tuple #[.agg #[.slice none 0 0,.map none],.int .i64 c]) ?_
    refine tkm 4 10 (.agg #[.slice none 0 0,.map none]) ?_
    refine tkm 5 11 (.int .i64 c) ?_
    refine tkz 7 (fun K hK=>?_)
    refine step_store_blkD rfl 106 _ _ rfl X [.slice none 0 0,.map none] rfl rfl pX (by kernel_rfl) rfl rfl ?_
    intro V9 pX9 g9
    have bz:=(bel_trans bw bt).grown g9 (bel_trans bw bt).size (fun q e=>by cases e;exact hXB)
    have hXP:X≠w.heap.size:=blk_ne pX (pP9.below bt) (by decide)
    have c9:=cells_kept bt _ _ hS0
    refine hK.out _ _ (cell_grownB g9 c9 (by simp;omega)) (fun hS4=>?_)
    clear hK
    try simp only [Act.put,tka,tkb,tkc]
    refine tkm 8 5 (.int .i64 c) ?_
    refine wpAnyH_done (by kernel_rfl) ?_ _
    go_wp2_with fail
    go_meet
    case rel=>exact ⟨X,rfl,rfl,bz⟩
  ·have hb3:Below V.heap.size V (V.alloc (.cells #[.slice none 0 0,.map none] 106)):=by go_grown
   have pX:Blk (V.alloc (.cells #[.slice none 0 0,.map none] 106)) V.heap.size 106 [.slice none 0 0,.map none]:=blkAt _ _ _ rfl
   have hXB:w.heap.size≤V.heap.size:=Nat.le_trans bw.size bt.size
   have bt:=bel_trans bt hb3
   go_simp
   refine hK.out _ _ (cells_kept bt _ _ hS0) (fun hS3=>?_)
   clear hK
   generalize (V.alloc (.cells #[.slice none 0 0,.map none] 106))=V1 at *
   obtain ⟨X,hX⟩:∃ X,X=V.heap.size:=⟨_,rfl⟩
   rw [← hX] at pX hXB ⊢
   clear hX
   try simp only [Act.put,tka,tkb,tkc]
   refine tkr 1 8 (fun K hK=>?_)
   go_simp
   refine (kN V1).mono ?_
   rintro e V2 ⟨⟨⟨⟨t0a,t0n,t0c⟩,⟨t1a,t1n,t1c⟩,⟨t2a,t2n,t2c⟩,⟨t3a,t3n,t3c⟩⟩,rfl,hO⟩,hb1⟩
   have ut:S4.val ((t0a,t0n,t0c),(t1a,t1n,t1c),(t2a,t2n,t2c),(t3a,t3n,t3c))=.agg #[.slice t0a t0n t0c,.slice t1a t1n t1c,.slice t2a t2n t2c,.slice t3a t3n t3c]:=rfl
   rw [ut]
   have bt:=bel_trans bt hb1
   go_wp2_with fail
   refine hK.out _ _ (cells_kept bt _ _ hS0) (fun hS1=>?_)
   clear hK
   try simp only [Act.put,tka,tkb,tkc]
   replace pX:=pX.below hb1
   refine tkr 2 9 (fun K hK=>?_)
   have kx:=kS V2 (bel_trans bw bt) ((t0a,t0n,t0c),(t1a,t1n,t1c),(t2a,t2n,t2c),(t3a,t3n,t3c)) (hO.mem fz)
   rw [ut] at kx
   go_simp
   refine kx.mono ?_
   rintro e V3 ⟨rfl,hb2⟩
   replace pX:=pX.below hb2
   have bt:=bel_trans bt hb2
   go_wp2_with fail
   refine hK.out _ _ (cells_kept bt _ _ hS0) (fun hS2=>?_)
   clear hK kx
   try simp only [Act.put,tka,tkb,tkc]
   refine tkm 3 6 (.tuple #[.agg #[.slice none 0 0,.map none],.int .i64 c]) ?_
   refine tkm 4 10 (.agg #[.slice none 0 0,.map none]) ?_
   refine tkm 5 11 (.int .i64 c) ?_
   refine tkz 7 (fun K hK=>?_)
   refine step_store_blkD rfl 106 _ _ rfl X [.slice none 0 0,.map none] rfl rfl pX (by kernel_rfl) rfl rfl ?_
   intro V9 pX9 g9
   have bz:=(bel_trans bw bt).grown g9 (bel_trans bw bt).size (fun q e=>by cases e;exact hXB)
   have hXP:X≠w.heap.size:=blk_ne pX (pP9.below bt) (by decide)
   have c9:=cells_kept bt _ _ hS0
   refine hK.out _ _ (cell_grownB g9 c9 (by simp;omega)) (fun hS4=>?_)
   clear hK
   try simp only [Act.put,tka,tkb,tkc]
   refine tkm 8 5 (.int .i64 c) ?_
   refine wpAnyH_done (by kernel_rfl) ?_ _
   go_wp2_with fail
   go_meet
   case rel=>exact ⟨X,rfl,rfl,bz⟩
 obtain ⟨X,rfl,rfl,bz⟩:=hcut
 clear kS kN bw pP fz
 have HG:Hid (∀ W,AbgGot (.returned (.tuple #[.slice none 0 0,.int .i64 c])) W w.heap.size [] c):=fun W=>⟨_,rfl,World.ownsRow_nil _ _ _ _⟩
 go_wp2
 refine bodyPost_ret (by simp [results,Tryz.results32,go_sem];try rfl) rfl ?_
 exact ⟨HG.out _,bz⟩

theorem implAllBugs_ok (a:Option Addr) (len cap:Nat) (rows:List (List I3)) (w:World) (hC:Codes w a len cap rows) (hV:VmShape w) (hc:codeF rows=0) :
  Calls Tryz.prog 32 #[.agg #[.slice a len cap]] w fun e w'=>AbgGot e w' w.heap.size (allI rows (fullS rows)) 0∧Below w.heap.size w w':=by
 obtain ⟨hp,hf⟩:=code_parts hc
 obtain ⟨cs,hR⟩:=rows_of_codes6 hC hp
 have kS:=fun (W:World) (b:Below w.heap.size w W) (t:S4) (h:Vmem W t zeroV)=>spaceOf_yes a len cap rows t W (hC.below b) h (hV.below b) hp hf
 have hI:∀ k,k<3→Instrs w (slK cs k).1 (slK cs k).2.1 (slK cs k).2.2 (codeM rows k):=by
  obtain ⟨b,off,_,_,hk⟩:=hR
  exact fun k h3=>(hk k h3).2
 clear hc
 have fz:=(shape_fits9 zero_shape).1
 have kN:=implNewVm_is
 have bw:Below w.heap.size w (w.alloc (.cells #[.slice a len cap] 25)):=by go_grown
 have pP:Blk (w.alloc (.cells #[.slice a len cap] 25)) w.heap.size 25 [.slice a len cap]:=blkAt _ _ _ rfl
 go_enter Tryz.func32,Tryz.ntmps32
 go_wp2_with fail
 generalize (w.alloc (.cells #[.slice a len cap] 25))=U at *
 go_cut [4,5] from 6 (fun s4 s5 W=>CutK w W cs rows (fullS rows) s4 s5)
 case first =>
  have hdr:Below U.heap.size U U.drew:=by go_grown
  refine wp_region_held_drew (S:=(fun w'=>w'.cell? ⟨w.heap.size,0,none⟩=some (.slice a len cap))) (by kernel_rfl) (by simpa using pP.cell 0) (fun hS0=>?_)
  refine tkm 0 7 (.agg #[.slice a len cap]) ?_
  have pP9:=pP.below hdr
  replace bw:=bel_trans bw hdr
  clear hdr
  generalize U.drew=V at *
  have bt:Below V.heap.size V V:=Below.refl _ _
  refine wpAnyH_ready (rs:=[1,6]) (by kernel_rfl) (by simp) ?_
  refine AllReadyH.cons (o:=⟨some 8,_,_,_,_,_⟩) rfl (fun K hK=>?_) (AllReadyH.cons (o:=⟨some 4,_,_,_,_,_⟩) rfl (fun K hK=>?_) AllReadyH.nil)
  ·go_simp
   refine (kN V).mono ?_
   rintro e V1 ⟨⟨⟨⟨t0a,t0n,t0c⟩,⟨t1a,t1n,t1c⟩,⟨t2a,t2n,t2c⟩,⟨t3a,t3n,t3c⟩⟩,rfl,hO⟩,hb1⟩
   have ut:S4.val ((t0a,t0n,t0c),(t1a,t1n,t1c),(t2a,t2n,t2c),(t3a,t3n,t3c))=.agg #[.slice t0a t0n t0c,.slice t1a t1n t1c,.slice t2a t2n t2c,.slice t3a t3n t3c]:=rfl
   rw [ut]
   have bt:=bel_trans bt hb1
   go_wp2_with fail
   refine hK.out _ _ (cells_kept bt _ _ hS0) (fun hS1=>?_)
   clear hK
   try simp only [Act.put,tka,tkb,tkc]
   refine wpAnyH_ready (rs:=[2,6]) (by kernel_rfl) (by simp) ?_
   refine AllReadyH.cons (o:=⟨some 9,_,_,_,_,_⟩) rfl (fun K hK=>?_) (AllReadyH.cons (o:=⟨some 4,_,_,_,_,_⟩) rfl (fun K hK=>?_) AllReadyH.nil)
   ·have kx:=kS V1 (bel_trans bw bt) ((t0a,t0n,t0c),(t1a,t1n,t1c),(t2a,t2n,t2c),(t3a,t3n,t3c)) (hO.mem fz)
    rw [ut] at kx
    go_simp
    refine kx.mono ?_
    rintro e V2 ⟨va9,nb,cs',L,rfl,sp,hLF,hR',hb2⟩
    obtain rfl:=(hR.below (bel_trans bw bt)).uniq hR'
    have hBv:w.heap.size≤V1.heap.size:=Nat.le_trans bw.size bt.size
    obtain ⟨va8,vn8,vc8,hva⟩:=own_slice6 sp.row
    have bt:=bel_trans bt hb2
    go_wp2_with fail
    refine hK.out _ _ (cells_kept bt _ _ hS0) (fun hS2=>?_)
    clear hK kx
    try simp only [Act.put,tka,tkb,tkc]
    refine tkm 3 6 (.tuple #[.agg #[va9,.map (some nb)],.int .i64 0]) ?_
    refine tkm 4 10 (.agg #[va9,.map (some nb)]) ?_
    refine tkm 5 11 (.int .i64 0) ?_
    refine tkr 6 4 (fun K hK=>?_)
    have hb3:Below V2.heap.size V2 (V2.alloc (.cells #[.slice none 0 0,.map none] 106)):=by go_grown
    have pX:Blk (V2.alloc (.cells #[.slice none 0 0,.map none] 106)) V2.heap.size 106 [.slice none 0 0,.map none]:=blkAt _ _ _ rfl
    have hXB:w.heap.size≤V2.heap.size:=Nat.le_trans bw.size bt.size
    replace sp:=sp.below hb3
    have bt:=bel_trans bt hb3
    go_simp
    refine hK.out _ _ (cells_kept bt _ _ hS0) (fun hS3=>?_)
    clear hK
    generalize (V2.alloc (.cells #[.slice none 0 0,.map none] 106))=V3 at *
    obtain ⟨X,hX⟩:∃ X,X=V2.heap.size:=⟨_,rfl⟩
    rw [← hX] at pX hXB ⊢
    clear hX
    try simp only [Act.put,tka,tkb,tkc]
    subst hva
    refine tkz 7 (fun K hK=>?_)
    refine step_store_blkD rfl 106 _ _ rfl X [.slice va8 vn8 vc8,.map (some nb)] rfl rfl pX (by kernel_rfl) rfl rfl ?_
    intro V9 pX9 g9
    have bz:=(bel_trans bw bt).grown g9 (bel_trans bw bt).size (fun q e=>by cases e;exact hXB)
    replace sp:=sp.grown g9 pX (by decide) (by decide)
    have hXP:X≠w.heap.size:=blk_ne pX (pP9.below bt) (by decide)
    have c9:=cells_kept bt _ _ hS0
    refine hK.out _ _ (cell_grownB g9 c9 (by simp;omega)) (fun hS4=>?_)
    clear hK
    try simp only [Act.put,tka,tkb,tkc]
    refine tkm 8 5 (.int .i64 0) ?_
    refine wpAnyH_done (by kernel_rfl) ?_ _
    go_wp2_with fail
    go_meet
    case rel=>exact CutK.mk9 (va:=.slice none 0 0) rfl rfl pX9.out sp hLF hXB hBv bz
   ·have hb3:Below V1.heap.size V1 (V1.alloc (.cells #[.slice none 0 0,.map none] 106)):=by go_grown
    have pX:Blk (V1.alloc (.cells #[.slice none 0 0,.map none] 106)) V1.heap.size 106 [.slice none 0 0,.map none]:=blkAt _ _ _ rfl
    have hXB:w.heap.size≤V1.heap.size:=Nat.le_trans bw.size bt.size
    replace hO:=hO.below hb3
    have bt:=bel_trans bt hb3
    go_simp
    refine hK.out _ _ (cells_kept bt _ _ hS0) (fun hS3=>?_)
    clear hK
    generalize (V1.alloc (.cells #[.slice none 0 0,.map none] 106))=V2 at *
    obtain ⟨X,hX⟩:∃ X,X=V1.heap.size:=⟨_,rfl⟩
    rw [← hX] at pX hXB ⊢
    clear hX
    try simp only [Act.put,tka,tkb,tkc]
    refine tkr 2 9 (fun K hK=>?_)
    have kx:=kS V2 (bel_trans bw bt) ((t0a,t0n,t0c),(t1a,t1n,t1c),(t2a,t2n,t2c),(t3a,t3n,t3c)) (hO.mem fz)
    rw [ut] at kx
    go_simp
    refine kx.mono ?_
    rintro e V3 ⟨va9,nb,cs',L,rfl,sp,hLF,hR',hb2⟩
    obtain rfl:=(hR.below (bel_trans bw bt)).uniq hR'
    have hBv:w.heap.size≤V2.heap.size:=Nat.le_trans bw.size bt.size
    obtain ⟨va8,vn8,vc8,hva⟩:=own_slice6 sp.row
    replace pX:=pX.below hb2
    have bt:=bel_trans bt hb2
    go_wp2_with fail
    refine hK.out _ _ (cells_kept bt _ _ hS0) (fun hS2=>?_)
    clear hK kx
    try simp only [Act.put,tka,tkb,tkc]
    refine tkm 3 6 (.tuple #[.agg #[va9,.map (some nb)],.int .i64 0]) ?_
    refine tkm 4 10 (.agg #[va9,.map (some nb)]) ?_
    refine tkm 5 11 (.int .i64 0) ?_
    subst hva
    refine tkz 7 (fun K hK=>?_)
    refine step_store_blkD rfl 106 _ _ rfl X [.slice va8 vn8 vc8,.map (some nb)] rfl rfl pX (by kernel_rfl) rfl rfl ?_
    intro V9 pX9 g9
    have bz:=(bel_trans bw bt).grown g9 (bel_trans bw bt).size (fun q e=>by cases e;exact hXB)
    replace sp:=sp.grown g9 pX (by decide) (by decide)
    have hXP:X≠w.heap.size:=blk_ne pX (pP9.below bt) (by decide)
    have c9:=cells_kept bt _ _ hS0
    refine hK.out _ _ (cell_grownB g9 c9 (by simp;omega)) (fun hS4=>?_)
    clear hK
    try simp only [Act.put,tka,tkb,tkc]
    refine tkm 8 5 (.int .i64 0) ?_
    refine wpAnyH_done (by kernel_rfl) ?_ _
    go_wp2_with fail
    go_meet
    case rel=>exact CutK.mk9 (va:=.slice none 0 0) rfl rfl pX9.out sp hLF hXB hBv bz
  ·have hb3:Below V.heap.size V (V.alloc (.cells #[.slice none 0 0,.map none] 106)):=by go_grown
   have pX:Blk (V.alloc (.cells #[.slice none 0 0,.map none] 106)) V.heap.size 106 [.slice none 0 0,.map none]:=blkAt _ _ _ rfl
   have hXB:w.heap.size≤V.heap.size:=Nat.le_trans bw.size bt.size
   have bt:=bel_trans bt hb3
   go_simp
   refine hK.out _ _ (cells_kept bt _ _ hS0) (fun hS3=>?_)
   clear hK
   generalize (V.alloc (.cells #[.slice none 0 0,.map none] 106))=V1 at *
   obtain ⟨X,hX⟩:∃ X,X=V.heap.size:=⟨_,rfl⟩
   rw [← hX] at pX hXB ⊢
   clear hX
   try simp only [Act.put,tka,tkb,tkc]
   refine tkr 1 8 (fun K hK=>?_)
   go_simp
   refine (kN V1).mono ?_
   rintro e V2 ⟨⟨⟨⟨t0a,t0n,t0c⟩,⟨t1a,t1n,t1c⟩,⟨t2a,t2n,t2c⟩,⟨t3a,t3n,t3c⟩⟩,rfl,hO⟩,hb1⟩
   have ut:S4.val ((t0a,t0n,t0c),(t1a,t1n,t1c),(t2a,t2n,t2c),(t3a,t3n,t3c))=.agg #[.slice t0a t0n t0c,.slice t1a t1n t1c,.slice t2a t2n t2c,.slice t3a t3n t3c]:=rfl
   rw [ut]
   have bt:=bel_trans bt hb1
   go_wp2_with fail
   refine hK.out _ _ (cells_kept bt _ _ hS0) (fun hS1=>?_)
   clear hK
   try simp only [Act.put,tka,tkb,tkc]
   replace pX:=pX.below hb1
   refine tkr 2 9 (fun K hK=>?_)
   have kx:=kS V2 (bel_trans bw bt) ((t0a,t0n,t0c),(t1a,t1n,t1c),(t2a,t2n,t2c),(t3a,t3n,t3c)) (hO.mem fz)
   rw [ut] at kx
   go_simp
   refine kx.mono ?_
   rintro e V3 ⟨va9,nb,cs',L,rfl,sp,hLF,hR',hb2⟩
   obtain rfl:=(hR.below (bel_trans bw bt)).uniq hR'
   have hBv:w.heap.size≤V2.heap.size:=Nat.le_trans bw.size bt.size
   obtain ⟨va8,vn8,vc8,hva⟩:=own_slice6 sp.row
   replace pX:=pX.below hb2
   have bt:=bel_trans bt hb2
   go_wp2_with fail
   refine hK.out _ _ (cells_kept bt _ _ hS0) (fun hS2=>?_)
   clear hK kx
   try simp only [Act.put,tka,tkb,tkc]
   refine tkm 3 6 (.tuple #[.agg #[va9,.map (some nb)],.int .i64 0]) ?_
   refine tkm 4 10 (.agg #[va9,.map (some nb)]) ?_
   refine tkm 5 11 (.int .i64 0) ?_
   subst hva
   refine tkz 7 (fun K hK=>?_)
   refine step_store_blkD rfl 106 _ _ rfl X [.slice va8 vn8 vc8,.map (some nb)] rfl rfl pX (by kernel_rfl) rfl rfl ?_
   intro V9 pX9 g9
   have bz:=(bel_trans bw bt).grown g9 (bel_trans bw bt).size (fun q e=>by cases e;exact hXB)
   replace sp:=sp.grown g9 pX (by decide) (by decide)
   have hXP:X≠w.heap.size:=blk_ne pX (pP9.below bt) (by decide)
   have c9:=cells_kept bt _ _ hS0
   refine hK.out _ _ (cell_grownB g9 c9 (by simp;omega)) (fun hS4=>?_)
   clear hK
   try simp only [Act.put,tka,tkb,tkc]
   refine tkm 8 5 (.int .i64 0) ?_
   refine wpAnyH_done (by kernel_rfl) ?_ _
   go_wp2_with fail
   go_meet
   case rel=>exact CutK.mk9 (va:=.slice none 0 0) rfl rfl pX9.out sp hLF hXB hBv bz
 obtain ⟨X,va,vc,nb,L,rfl,rfl,pX,sp,hLF,hXB,bz⟩:=hcut
 clear kS kN bw pP fz
 have hl2:L.length≤2000:=by
  have e:(L.map (·.1)).length=L.length:=by simp
  rw [hLF] at e
  omega
 have kB:=sbug_is sp pX hp (by rw [hLF];exact fullS_shaped hp) (fun k hk=>(hI k hk).below bz) hl2
 rw [hLF] at kB
 clear sp pX hLF hXB
 go_wp2_with fail
 refine kB.mono ?_
 rintro e w7 ⟨⟨v7,rfl,q7⟩,hb⟩
 have hwc:=bz.size
 replace bz:=bel_trans bz hb
 have HG:Hid (AbgGot (.returned (.tuple #[v7,.int .i64 0])) w7 w.heap.size (allI rows (fullS rows)) 0):=⟨_,rfl,own_lower q7 hwc⟩
 clear q7 hb kB
 go_wp2
 refine bodyPost_ret (by simp [results,Tryz.results32,go_sem];try rfl) rfl ?_
 exact ⟨HG.out,bz⟩
theorem implAllBugs_is (a:Option Addr) (len cap:Nat) (rows:List (List I3)) (w:World) (hC:Codes w a len cap rows) (hV:VmShape w) :
  Calls Tryz.prog 32 #[.agg #[.slice a len cap]] w fun e w'=>AbgGot e w' w.heap.size (bugsO rows) (codeF rows)∧Below w.heap.size w w':=by
 unfold bugsO
 by_cases h:codeF rows=0
 ·rw [if_pos h,h]
  exact implAllBugs_ok a len cap rows w hC hV h
 ·rw [if_neg h]
  exact implAllBugs_not a len cap rows w hC hV h
end Go.Proofs.YtifoggpohlegmaaGreatDoor
