/-
  Joined: ItmI, LokI.
-/
import Derived.Deep.MidRow
import Derived.Test.YtifoggpohlegmaaGreatDoorF12
import Derived.Test.YtifoggpohlegmaaGreatDoorF15
import Derived.Test.YtifoggpohlegmaaGreatDoorF27

namespace Go.Proofs.YtifoggpohlegmaaGreatDoor
set_option maxRecDepth 100000
set_option maxHeartbeats 16000000
open Go.RowKit
set_option linter.unusedVariables false

def inB8 (n a b:Int):Bool:=decide (a≤n∧n≤b)
theorem inB8_true {n a b:Int}:inB8 n a b=true↔a≤n∧n≤b:=by simp [inB8]
theorem inB8_false {n a b:Int}:inB8 n a b=false↔¬ (a≤n∧n≤b):=by simp only [inB8,decide_eq_false_iff_not]
theorem isThread8 (n:Int) (w:World):Calls Tryz.prog 133 #[.int .i64 n] w fun e w'=>e=.returned (.bool (inB8 n 0 2))∧w=w':=by
 cases h:inB8 n 0 2
 ·rw [inB8_false] at h
  by_cases h1:0≤n
  ·have h2:decide (n<3)=false:=by simp;omega
   clear h
   go_enter Tryz.func133,Tryz.ntmps133
   go_wp2
   go_ret
   exact ⟨rfl,rfl⟩
  ·clear h
   go_enter Tryz.func133,Tryz.ntmps133
   go_wp2
   go_ret
   exact ⟨rfl,rfl⟩
 ·rw [inB8_true] at h
  obtain ⟨h1,h3⟩:=h
  have h2:decide (n<3)=true:=by simp;omega
  clear h3
  go_enter Tryz.func133,Tryz.ntmps133
  go_wp2
  go_ret
  exact ⟨by simp_all,rfl⟩

theorem isPlace8 (n:Int) (w:World):Calls Tryz.prog 185 #[.int .i64 n] w fun e w'=>e=.returned (.bool (inB8 n 0 6))∧w=w':=by
 cases h:inB8 n 0 6
 ·rw [inB8_false] at h
  by_cases h1:0≤n
  ·have h2:decide (n≤6)=false:=by simp;omega
   clear h
   go_enter Tryz.func185,Tryz.ntmps185
   go_wp2
   go_ret
   exact ⟨rfl,rfl⟩
  ·clear h
   go_enter Tryz.func185,Tryz.ntmps185
   go_wp2
   go_ret
   exact ⟨rfl,rfl⟩
 ·rw [inB8_true] at h
  obtain ⟨h1,h3⟩:=h
  have h2:decide (n≤6)=true:=by simp;omega
  clear h3
  go_enter Tryz.func185,Tryz.ntmps185
  go_wp2
  go_ret
  exact ⟨by simp_all,rfl⟩

def itemV (k pc:Int):Value:=if inB8 k 0 2=true∧inB8 pc 0 6=true then .tuple #[.int .i64 (8*k+pc),.int .i64 0] else .tuple #[.int .i64 0,.int .i64 4]
theorem itemV_yes {k pc:Int} (h1:inB8 k 0 2=true) (h2:inB8 pc 0 6=true):itemV k pc=.tuple #[.int .i64 (8*k+pc),.int .i64 0]:=if_pos ⟨h1,h2⟩
theorem itemV_no1 {k pc:Int} (h1:inB8 k 0 2=false):itemV k pc=.tuple #[.int .i64 0,.int .i64 4]:=if_neg (by rw [h1];simp)
theorem itemV_no2 {k pc:Int} (h2:inB8 pc 0 6=false):itemV k pc=.tuple #[.int .i64 0,.int .i64 4]:=if_neg (by rw [h2];simp)

theorem implItemOf_is (k pc:Int) (w:World):Calls Tryz.prog 161 #[.int .i64 k,.int .i64 pc] w fun e w'=>e=.returned (itemV k pc)∧w=w':=by
 have kT:=isThread8 k
 have kP:=isPlace8 pc
 cases hA:inB8 k 0 2
 ·rw [itemV_no1 hA]
  rw [hA] at kT
  clear hA
  go_enter Tryz.func161,Tryz.ntmps161
  go_wp2_with fail
  refine (kT _).mono ?_
  rintro e w1 ⟨rfl,rfl⟩
  go_wp2
  go_ret2
  exact ⟨rfl,rfl⟩
 ·cases hB:inB8 pc 0 6
  ·rw [itemV_no2 hB]
   rw [hA] at kT
   rw [hB] at kP
   clear hA hB
   go_enter Tryz.func161,Tryz.ntmps161
   go_wp2_with fail
   refine (kT _).mono ?_
   rintro e w1 ⟨rfl,rfl⟩
   go_wp2_with fail
   refine (kP _).mono ?_
   rintro e w1 ⟨rfl,rfl⟩
   go_wp2
   go_ret2
   exact ⟨rfl,rfl⟩
  ·rw [itemV_yes hA hB]
   rw [hA] at kT
   rw [hB] at kP
   obtain ⟨a1,a2⟩:=inB8_true.1 hA
   obtain ⟨b1,b2⟩:=inB8_true.1 hB
   clear hA hB
   have q1:IntKind.i64.wrap (8*k)=8*k:=by rw [IntKind.wrap_i64];omega
   have q2:IntKind.i64.wrap (8*k+pc)=8*k+pc:=by rw [IntKind.wrap_i64];omega
   go_enter Tryz.func161,Tryz.ntmps161
   go_wp2_with fail
   refine (kT _).mono ?_
   rintro e w1 ⟨rfl,rfl⟩
   go_wp2_with fail
   refine (kP _).mono ?_
   rintro e w1 ⟨rfl,rfl⟩
   go_wp2
   go_ret2
   exact ⟨rfl,rfl⟩

theorem l08Item_is (k pc:Int) (w:World) (h1:inB8 k 0 2=true) (h2:inB8 pc 0 6=true):Calls Tryz.prog 184 #[.int .i64 k,.int .i64 pc] w fun e w'=>e=.returned (.int .i64 (8*k+pc))∧w=w':=by
 obtain ⟨a1,a2⟩:=inB8_true.1 h1
 obtain ⟨b1,b2⟩:=inB8_true.1 h2
 clear h1 h2
 have q1:IntKind.i64.wrap (8*k)=8*k:=by rw [IntKind.wrap_i64];omega
 have q2:IntKind.i64.wrap (8*k+pc)=8*k+pc:=by rw [IntKind.wrap_i64];omega
 go_enter Tryz.func184,Tryz.ntmps184
 go_wp2
 go_ret
 exact ⟨rfl,rfl⟩

def itOk (n:Int):Bool:=decide (0≤n∧n≤22∧n % 8≤6)
def atV (n:Int):Value:=if itOk n=true then .tuple #[.int .i64 (n / 8),.int .i64 (n % 8),.int .i64 0] else .tuple #[.int .i64 0,.int .i64 0,.int .i64 4]
theorem atV_yes {n:Int} (h:itOk n=true):atV n=.tuple #[.int .i64 (n / 8),.int .i64 (n % 8),.int .i64 0]:=if_pos h
theorem atV_no {n:Int} (h:itOk n=false):atV n=.tuple #[.int .i64 0,.int .i64 0,.int .i64 4]:=if_neg (by rw [h];simp)

theorem quo8 (n:Int) (h:-9223372036854775808≤n∧n≤9223372036854775807):∃ q r:Int,n.tdiv 8=q∧n.tmod 8=r∧IntKind.i64.wrap q=q∧IntKind.i64.wrap r=r∧itOk n=(inB8 q 0 2 && inB8 r 0 6)∧(itOk n=true→q=n / 8∧r=n % 8)∧(0≤n→q=n / 8∧r=n % 8):=by
 rcases Int.lt_or_le n 0 with hn | hn
 ·have e1:n.tdiv 8=- ((-n) / 8):=by
   have:n=- (- n):=by omega
   rw [this,Int.neg_tdiv,Int.tdiv_eq_ediv_of_nonneg (by omega)];omega
  have e2:n.tmod 8=- ((-n) % 8):=by
   have:n=- (- n):=by omega
   rw [this,Int.neg_tmod,Int.tmod_eq_emod_of_nonneg (by omega)];omega
  refine ⟨_,_,e1,e2,by rw [IntKind.wrap_i64];omega,by rw [IntKind.wrap_i64];omega,?_,?_,by omega⟩
  ·have hz:itOk n=false:=by simp only [itOk,decide_eq_false_iff_not];omega
   rw [hz]
   symm
   rw [Bool.and_eq_false_iff]
   rcases Int.lt_or_le ((-n) / 8) 1 with h1 | h1
   ·right;rw [inB8_false];omega
   ·left;rw [inB8_false];omega
  ·intro hz
   simp only [itOk,decide_eq_true_eq] at hz
   omega
 ·have e1:n.tdiv 8=n / 8:=Int.tdiv_eq_ediv_of_nonneg hn
  have e2:n.tmod 8=n % 8:=Int.tmod_eq_emod_of_nonneg hn
  refine ⟨_,_,e1,e2,by rw [IntKind.wrap_i64];omega,by rw [IntKind.wrap_i64];omega,?_,fun _=>⟨rfl,rfl⟩,fun _=>⟨rfl,rfl⟩⟩
  rw [Bool.eq_iff_iff,Bool.and_eq_true,inB8_true,inB8_true]
  simp only [itOk,decide_eq_true_eq]
  omega

theorem implItemAt_is (n:Int) (hn:-9223372036854775808≤n∧n≤9223372036854775807) (w:World):Calls Tryz.prog 186 #[.int .i64 n] w fun e w'=>e=.returned (atV n)∧w=w':=by
 obtain ⟨q,r,e1,e2,u1,u2,hOk,hYes,_⟩:=quo8 n hn
 clear hn
 have kT:=isThread8 q
 have kP:=isPlace8 r
 cases hA:inB8 q 0 2
 ·rw [atV_no (by rw [hOk,hA];rfl)]
  rw [hA] at kT
  clear hA hOk hYes
  go_enter Tryz.func186,Tryz.ntmps186
  go_wp2_with fail
  refine (kT _).mono ?_
  rintro e w1 ⟨rfl,rfl⟩
  go_wp2
  go_ret3
  exact ⟨rfl,rfl⟩
 ·cases hB:inB8 r 0 6
  ·rw [atV_no (by rw [hOk,hA,hB];rfl)]
   rw [hA] at kT
   rw [hB] at kP
   clear hA hB hOk hYes
   go_enter Tryz.func186,Tryz.ntmps186
   go_wp2_with fail
   refine (kT _).mono ?_
   rintro e w1 ⟨rfl,rfl⟩
   go_wp2_with fail
   refine (kP _).mono ?_
   rintro e w1 ⟨rfl,rfl⟩
   go_wp2
   go_ret3
   exact ⟨rfl,rfl⟩
  ·have hz:itOk n=true:=by rw [hOk,hA,hB];rfl
   rw [atV_yes hz]
   obtain ⟨f1,f2⟩:=hYes hz
   rw [hA] at kT
   rw [hB] at kP
   rw [← f1,← f2]
   clear hA hB hOk hYes hz f1 f2
   go_enter Tryz.func186,Tryz.ntmps186
   go_wp2_with fail
   refine (kT _).mono ?_
   rintro e w1 ⟨rfl,rfl⟩
   go_wp2_with fail
   refine (kP _).mono ?_
   rintro e w1 ⟨rfl,rfl⟩
   go_wp2
   go_ret3
   exact ⟨rfl,rfl⟩

theorem isItem_is (n:Int) (hn:-9223372036854775808≤n∧n≤9223372036854775807) (w:World):Calls Tryz.prog 162 #[.int .i64 n] w fun e w'=>e=.returned (.bool (itOk n))∧w=w':=by
 have kO:=implItemAt_is n hn
 clear hn
 cases hA:itOk n
 ·rw [atV_no hA] at kO
  clear hA
  go_enter Tryz.func162,Tryz.ntmps162
  go_wp2_with fail
  refine (kO _).mono ?_
  rintro e w1 ⟨rfl,rfl⟩
  go_wp2
  go_ret
  exact ⟨rfl,rfl⟩
 ·rw [atV_yes hA] at kO
  clear hA
  go_enter Tryz.func162,Tryz.ntmps162
  go_wp2_with fail
  refine (kO _).mono ?_
  rintro e w1 ⟨rfl,rfl⟩
  go_wp2
  go_ret
  exact ⟨rfl,rfl⟩

theorem in_wf8 {n:Int} (h:(Lit.int .i64 n).wf=true):-9223372036854775808≤n∧n≤9223372036854775807:=by
 have h1:IntKind.i64.min=-9223372036854775808:=by decide
 have h2:IntKind.i64.max=9223372036854775807:=by decide
 simp [Lit.wf,h1,h2] at h
 omega

set_option linter.unusedSimpArgs false

def lookM (m:V4):List Int:=[m.1.getD 0 0,8+m.1.getD 1 0,16+m.1.getD 2 0]
theorem look_ok {m:V4} (hs:shapeOk m=true):∀ z ∈ lookM m,itOk z=true:=by
 obtain ⟨h,_⟩:=shape_bounds hs
 obtain ⟨hl,_⟩:=shape_parts hs
 have hp:∀ k,k<3→0≤m.1.getD k 0∧m.1.getD k 0≤6:=fun k hk=>h _ (by simp [List.getD,List.getElem?_eq_getElem (show k<m.1.length by omega)])
 have p0:=hp 0 (by omega)
 have p1:=hp 1 (by omega)
 have p2:=hp 2 (by omega)
 intro z hz
 simp only [lookM,List.mem_cons,List.not_mem_nil,or_false] at hz
 simp only [itOk,decide_eq_true_eq]
 rcases hz with rfl | rfl | rfl<;>omega
theorem pcs_ok {m:V4} (hs:shapeOk m=true) {k:Nat} (hk:k<3):inB8 (m.1.getD k 0) 0 6=true:=by
 obtain ⟨h,_⟩:=shape_bounds hs
 obtain ⟨hl,_⟩:=shape_parts hs
 exact inB8_true.2 (h _ (by simp [List.getD,List.getElem?_eq_getElem (show k<m.1.length by omega)]))
def lookR (p0 p1 p2:Int) (k:Nat):List Int:=[p0,8+p1,16+p2].take k
theorem looks_raw (g o:Nat) (a0 a1 a2:Option Addr) (n0 d0 n1 d1 n2 d2:Nat) (p0 x0 y0 p1 x1 y1 p2 x2 y2:Int) (w:World) (h:w.rangeAt g o [.slice a0 n0 d0,.int .i64 p0,.int .i64 x0,.int .i64 y0,.slice a1 n1 d1,.int .i64 p1,.int .i64 x1,.int .i64 y1,.slice a2 n2 d2,.int .i64 p2,.int .i64 x2,.int .i64 y2]) (f0:inB8 p0 0 6=true) (f1:inB8 p1 0 6=true) (f2:inB8 p2 0 6=true) :
  Calls Tryz.prog 111 #[.pointer (some ⟨g,o,none⟩)] w fun e w'=>RowGot e w' w.heap.size [p0,8+p1,16+p2]∧Below w.heap.size w w':=by
 obtain ⟨i0,hi,hz0,hz1,hz2⟩:=info_parts info_int
 have k0:=@idxT_0
 have k1:=@idxT_1
 have k2:=@idxT_2
 go_enter Tryz.func111,Tryz.ntmps111
 go_wp2_with (refine wpList_load_mid rfl 86 _ rfl g o rfl [.slice a0 n0 d0,.int .i64 p0,.int .i64 x0,.int .i64 y0,.slice a1 n1 d1,.int .i64 p1,.int .i64 x1,.int .i64 y1,.slice a2 n2 d2,.int .i64 p2,.int .i64 x2,.int .i64 y2] _ h Tryz.underlying86 rfl (by kernel_rfl) ?_)
 clear h
 go_loopw [3,12] (fun so si wr=>∃ (k:Nat) (v:Value),v=so∧k≤3∧si=.int .i64 k∧wr.ownsRow w.heap.size 3 1 v k ((lookR p0 p1 p2 k).map (Value.int .i64))∧Below w.heap.size w wr) (fun _ si _=>3 - (Go.RowKit.intOf si).toNat)
 case atStart=>exact ⟨0,_,rfl,by omega,rfl,World.ownsRow_nil _ _ _ _,Below.refl _ _⟩
 case round =>
  obtain ⟨k,so,rfl,hk,rfl,q,bw⟩:=hrel
  have hk4:k=0∨k=1∨k=2∨k=3:=by omega
  rcases hk4 with rfl | rfl | rfl | rfl
  ·clear k1 k2
   have pN:=Blk.new wr 85 [.slice none 0 0,.int .i64 0,.int .i64 0,.int .i64 0]
   have bN:Below wr.heap.size wr (wr.alloc (.cells #[.slice none 0 0,.int .i64 0,.int .i64 0,.int .i64 0] 85)):=by go_grown
   have kI:=implItemOf_is 0 p0
   rw [itemV_yes (by decide) f0,show 8*(0:Int)+p0=p0 by omega] at kI
   go_wp2_with (refine wpList_store_blk rfl 85 _ _ rfl wr.heap.size [.slice a0 n0 d0,.int .i64 p0,.int .i64 x0,.int .i64 y0] rfl rfl pN (by kernel_rfl) rfl rfl ?_)
   intro w2 p2x g2
   have pM:=p2x.out
   have b2:Below wr.heap.size wr w2:=bN.grown g2 bN.size (fun k e=>by cases e;exact Nat.le_refl _)
   have q2:=owns8 q b2
   have bw2:=bel8 bw b2
   have hc1:w2.cell? ⟨wr.heap.size,1,none⟩=some (.int .i64 p0):=by simpa using pM.cell 1
   have hsz:=bw2.size
   clear p2x g2 bN pN b2 q pM bw
   generalize wr.heap.size=G at *
   go_wp2_with fail
   refine (kI _).mono ?_
   rintro e w3 ⟨rfl,rfl⟩
   clear kI
   go_wp2_with (at_builtin;refine wpList_append_own _ rfl _ _ 27 rfl w.heap.size 3 i0 (.int .i64 0) 1 8 Tryz.underlying27 hi hz0 hz1 hz2 rfl (by decide) _ _ _ rfl (q2.alloc _) ⟨w2.heap.size,0,none⟩ 1 1 [.int .i64 p0] rfl rfl (cell_one_new _ _ _) (by simp [Value.oneCell']) ?c3 ?c4 ?c5 ?_)
   case c3=>unfold maxLen;omega
   case c4=>omega
   case c5=>simp;omega
   intro v' wn hown' hgrow _
   have bn:Below w.heap.size w wn:=(bw2.alloc hsz _).grown hgrow (by simp;omega) (fun k hk=>(q2.lt k hk).1)
   clear hgrow q2 bw2 hc1
   go_wp2
   go_roundw
   case rel =>
    have R9:wn.ownsRow w.heap.size 3 1 v' 1 ((lookR p0 p1 p2 1).map (Value.int .i64)):=by exact hown'
    first | exact ⟨1,_,rfl,by omega,by go_num,R9,bn⟩ | exact ⟨_,_,_,_,_,_,_,_,_,_,_,_,_,_,_,_,_,_,_,_,_,⟨1,_,rfl,by omega,by go_num,R9,bn⟩,rfl⟩
   case measure=>first | (simp [Go.RowKit.intOf];done) | decide
  ·clear k0 k2
   have pN:=Blk.new wr 85 [.slice none 0 0,.int .i64 0,.int .i64 0,.int .i64 0]
   have bN:Below wr.heap.size wr (wr.alloc (.cells #[.slice none 0 0,.int .i64 0,.int .i64 0,.int .i64 0] 85)):=by go_grown
   have kI:=implItemOf_is 1 p1
   rw [itemV_yes (by decide) f1,show 8*(1:Int)+p1=8+p1 by omega] at kI
   go_wp2_with (refine wpList_store_blk rfl 85 _ _ rfl wr.heap.size [.slice a1 n1 d1,.int .i64 p1,.int .i64 x1,.int .i64 y1] rfl rfl pN (by kernel_rfl) rfl rfl ?_)
   intro w2 p2x g2
   have pM:=p2x.out
   have b2:Below wr.heap.size wr w2:=bN.grown g2 bN.size (fun k e=>by cases e;exact Nat.le_refl _)
   have q2:=owns8 q b2
   have bw2:=bel8 bw b2
   have hc1:w2.cell? ⟨wr.heap.size,1,none⟩=some (.int .i64 p1):=by simpa using pM.cell 1
   have hsz:=bw2.size
   clear p2x g2 bN pN b2 q pM bw
   generalize wr.heap.size=G at *
   go_wp2_with fail
   refine (kI _).mono ?_
   rintro e w3 ⟨rfl,rfl⟩
   clear kI
   generalize hzz:8+p1=zz at *
   go_wp2_with (at_builtin;refine wpList_append_own _ rfl _ _ 27 rfl w.heap.size 3 i0 (.int .i64 0) 1 8 Tryz.underlying27 hi hz0 hz1 hz2 rfl (by decide) _ _ _ rfl (q2.alloc _) ⟨w2.heap.size,0,none⟩ 1 1 [.int .i64 zz] rfl rfl (cell_one_new _ _ _) (by simp [Value.oneCell']) ?c3 ?c4 ?c5 ?_)
   case c3=>unfold maxLen;omega
   case c4=>omega
   case c5=>simp;omega
   intro v' wn hown' hgrow _
   have bn:Below w.heap.size w wn:=(bw2.alloc hsz _).grown hgrow (by simp;omega) (fun k hk=>(q2.lt k hk).1)
   clear hgrow q2 bw2 hc1
   go_wp2
   go_roundw
   case rel =>
    have R9:wn.ownsRow w.heap.size 3 1 v' 2 ((lookR p0 p1 p2 2).map (Value.int .i64)):=by subst hzz;exact hown'
    first | exact ⟨2,_,rfl,by omega,by go_num,R9,bn⟩ | exact ⟨_,_,_,_,_,_,_,_,_,_,_,_,_,_,_,_,_,_,_,_,_,⟨2,_,rfl,by omega,by go_num,R9,bn⟩,rfl⟩
   case measure=>first | (simp [Go.RowKit.intOf];done) | decide
  ·clear k0 k1
   have pN:=Blk.new wr 85 [.slice none 0 0,.int .i64 0,.int .i64 0,.int .i64 0]
   have bN:Below wr.heap.size wr (wr.alloc (.cells #[.slice none 0 0,.int .i64 0,.int .i64 0,.int .i64 0] 85)):=by go_grown
   have kI:=implItemOf_is 2 p2
   rw [itemV_yes (by decide) f2,show 8*(2:Int)+p2=16+p2 by omega] at kI
   go_wp2_with (refine wpList_store_blk rfl 85 _ _ rfl wr.heap.size [.slice a2 n2 d2,.int .i64 p2,.int .i64 x2,.int .i64 y2] rfl rfl pN (by kernel_rfl) rfl rfl ?_)
   intro w2 p2x g2
   have pM:=p2x.out
   have b2:Below wr.heap.size wr w2:=bN.grown g2 bN.size (fun k e=>by cases e;exact Nat.le_refl _)
   have q2:=owns8 q b2
   have bw2:=bel8 bw b2
   have hc1:w2.cell? ⟨wr.heap.size,1,none⟩=some (.int .i64 p2):=by simpa using pM.cell 1
   have hsz:=bw2.size
   clear p2x g2 bN pN b2 q pM bw
   generalize wr.heap.size=G at *
   go_wp2_with fail
   refine (kI _).mono ?_
   rintro e w3 ⟨rfl,rfl⟩
   clear kI
   generalize hzz:16+p2=zz at *
   go_wp2_with (at_builtin;refine wpList_append_own _ rfl _ _ 27 rfl w.heap.size 3 i0 (.int .i64 0) 1 8 Tryz.underlying27 hi hz0 hz1 hz2 rfl (by decide) _ _ _ rfl (q2.alloc _) ⟨w2.heap.size,0,none⟩ 1 1 [.int .i64 zz] rfl rfl (cell_one_new _ _ _) (by simp [Value.oneCell']) ?c3 ?c4 ?c5 ?_)
   case c3=>unfold maxLen;omega
   case c4=>omega
   case c5=>simp;omega
   intro v' wn hown' hgrow _
   have bn:Below w.heap.size w wn:=(bw2.alloc hsz _).grown hgrow (by simp;omega) (fun k hk=>(q2.lt k hk).1)
   clear hgrow q2 bw2 hc1
   go_wp2
   go_roundw
   case rel =>
    have R9:wn.ownsRow w.heap.size 3 1 v' 3 ((lookR p0 p1 p2 3).map (Value.int .i64)):=by subst hzz;exact hown'
    first | exact ⟨3,_,rfl,by omega,by go_num,R9,bn⟩ | exact ⟨_,_,_,_,_,_,_,_,_,_,_,_,_,_,_,_,_,_,_,_,_,⟨3,_,rfl,by omega,by go_num,R9,bn⟩,rfl⟩
   case measure=>first | (simp [Go.RowKit.intOf];done) | decide
  ·obtain ⟨ga,gc,rfl⟩:=some8 q (by omega)
   clear k0 k1 k2
   go_wp2
   go_ret
   exact ⟨⟨_,rfl,q⟩,bw⟩
theorem looks_is (g o:Nat) (cs:Sl × Sl × Sl) (m:V4) (w:World) (h:w.rangeAt g o (machCells cs.1.val cs.2.1.val cs.2.2.val m)) (hs:shapeOk m=true) :
  Calls Tryz.prog 111 #[.pointer (some ⟨g,o,none⟩)] w fun e w'=>RowGot e w' w.heap.size (lookM m)∧Below w.heap.size w w':=by
 obtain ⟨⟨a0,n0,d0⟩,⟨a1,n1,d1⟩,⟨a2,n2,d2⟩⟩:=cs
 refine looks_raw g o a0 a1 a2 n0 d0 n1 d1 n2 d2 (m.1.getD 0 0) (m.2.2.2.getD 0 0) (m.2.2.2.getD 1 0) (m.1.getD 1 0) (m.2.2.2.getD 2 0) (m.2.2.2.getD 3 0) (m.1.getD 2 0) (m.2.2.2.getD 4 0) (m.2.2.2.getD 5 0) w (fun j v hj=>?_) (pcs_ok hs (by omega)) (pcs_ok hs (by omega)) (pcs_ok hs (by omega))
 refine h j v ?_
 have hl:=(List.getElem?_eq_some_iff.1 hj).1
 simp only [List.length_cons,List.length_nil] at hl
 match j,hl with
 | 0,_=>exact hj
 | 1,_=>exact hj
 | 2,_=>exact hj
 | 3,_=>exact hj
 | 4,_=>exact hj
 | 5,_=>exact hj
 | 6,_=>exact hj
 | 7,_=>exact hj
 | 8,_=>exact hj
 | 9,_=>exact hj
 | 10,_=>exact hj
 | 11,_=>exact hj
end Go.Proofs.YtifoggpohlegmaaGreatDoor
