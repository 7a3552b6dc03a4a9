/-
  Joined: RisI, EokI, MokI.
-/
import Derived.Shelf.Small.Strs
import Derived.Test.YtbdfbdbpjijcdaaGreatDoorM35
import Derived.Test.YtbdfbdbpjijcdaaGreatDoorM36

namespace Go.Proofs.YtbdfbdbpjijcdaaGreatDoor
set_option maxRecDepth 100000
set_option maxHeartbeats 16000000
open Go.RowKit Go.Sort
set_option linter.unusedVariables false
set_option linter.unusedSimpArgs false

def cmpS (a b:ByteArray):Int:=Lib.compareBytes a.data.toList b.data.toList
theorem cmpL_lt:∀ a b:List UInt8,Lib.compareBytes a b<0↔Go.Op.bytesLess a b=true
 | [],[]=>by simp [Lib.compareBytes,Go.Op.bytesLess]
 | [],_::_=>by simp [Lib.compareBytes,Go.Op.bytesLess]
 | _::_,[]=>by simp [Lib.compareBytes,Go.Op.bytesLess]
 | x::a,y::b=>by
  rw [bL_cons,Lib.compareBytes]
  by_cases h1:x<y
  ·simp [h1]
  ·rw [if_neg h1]
   by_cases h2:y<x
   ·rw [if_pos h2]
    constructor
    ·intro h;omega
    ·rintro (h | ⟨h,_⟩)
     ·exact absurd h h1
     ·subst h;exact absurd h2 h1
   ·rw [if_neg h2,cmpL_lt a b]
    have e:x=y:=UInt8.le_antisymm (UInt8.not_lt.1 h2) (UInt8.not_lt.1 h1)
    subst e
    simp
theorem cmpL_zero:∀ a b:List UInt8,Lib.compareBytes a b=0↔a=b
 | [],[]=>by simp [Lib.compareBytes]
 | [],_::_=>by simp [Lib.compareBytes]
 | _::_,[]=>by simp [Lib.compareBytes]
 | x::a,y::b=>by
  rw [Lib.compareBytes]
  by_cases h1:x<y
  ·rw [if_pos h1]
   constructor
   ·intro h;omega
   ·intro h;cases h;exact absurd h1 (UInt8.lt_irrefl _)
  ·rw [if_neg h1]
   by_cases h2:y<x
   ·rw [if_pos h2]
    constructor
    ·intro h;omega
    ·intro h;cases h;exact absurd h2 (UInt8.lt_irrefl _)
   ·rw [if_neg h2,cmpL_zero a b]
    have e:x=y:=UInt8.le_antisymm (UInt8.not_lt.1 h2) (UInt8.not_lt.1 h1)
    subst e
    simp
theorem cmpS_lt (a b:ByteArray):cmpS a b<0↔ltS a b=true:=by
 unfold cmpS ltS
 rw [cmpL_lt,Go.ByteArray.toList_eq,Go.ByteArray.toList_eq]
theorem cmpS_zero (a b:ByteArray):cmpS a b=0↔a=b:=by
 unfold cmpS
 rw [cmpL_zero]
 constructor
 ·intro h
  cases a
  cases b
  simp at h
  rw [h]
 ·intro h
  rw [h]

theorem compareString_is (a b:ByteArray) (w:World):Calls Tryz.prog 211 #[.string a,.string b] w fun e w'=>e=.returned (.int .i64 (cmpS a b))∧w=w':=by
 go_enter Tryz.func211,Tryz.ntmps211
 go_wp2
 rw [run_callFunc_extern Tryz.func242 (by kernel_rfl) (by kernel_rfl) (by kernel_rfl) (e:=Extern.BytealgCompare.compare) (by kernel_rfl),Lib.run_compareString]
 simp only [Result.andThen]
 rw [Oper.upon_value]
 go_wp2
 go_ret
 exact ⟨rfl,rfl⟩
theorem stringsCompare_is (a b:ByteArray) (w:World):Calls Tryz.prog 147 #[.string a,.string b] w fun e w'=>e=.returned (.int .i64 (cmpS a b))∧w=w':=by
 have k:=compareString_is a b w
 go_enter Tryz.func147,Tryz.ntmps147
 go_wp2_with fail
 refine k.mono ?_
 rintro e w1 ⟨rfl,rfl⟩
 go_wp2
 go_ret
 exact ⟨rfl,rfl⟩
theorem entryKey_is (k:ByteArray) (s:Sl2) (w:World):Calls Tryz.prog 328 #[entV k s] w fun e w'=>e=.returned (.string k)∧Below w.heap.size w w':=by
 obtain ⟨⟨a1,n1,c1⟩,⟨a2,n2,c2⟩⟩:=s
 unfold entV
 have bu:Below w.heap.size w (w.alloc (.cells #[.string k,.slice a1 n1 c1,.slice a2 n2 c2] 45)):=by go_grown
 go_enter Tryz.func328,Tryz.ntmps328
 go_wp2
 go_ret
 exact ⟨rfl,bu⟩
theorem methKey (v:Value) (w:World):(Go.method 515 45 v "loop.example/g00632/impl.key").run Tryz.prog w=.ok (328,v) w:=by kernel_rfl
theorem compareKeys_is (k k2:ByteArray) (s s2:Sl2) (w:World):Calls Tryz.prog 162 #[entV k s,entV k2 s2] w fun e w'=>e=.returned (.int .i64 (cmpS k k2))∧Below w.heap.size w w':=by
 have kX:=fun W=>entryKey_is k s W
 have kY:=fun W=>entryKey_is k2 s2 W
 have kC:=fun W=>stringsCompare_is k k2 W
 have mK:=fun v W=>methKey v W
 have eK:∀ args w,(callFunc 328 args).run Tryz.prog w=.ok (.enter 328 args) w:=Go.Proofs.enters_of Tryz.func328 (by kernel_rfl) rfl
 obtain ⟨⟨a1,n1,c1⟩,⟨a2,n2,c2⟩⟩:=s
 obtain ⟨⟨b1,m1,d1⟩,⟨b2,m2,d2⟩⟩:=s2
 unfold entV at *
 simp only at *
 have bw:Below w.heap.size w ((w.alloc (.cells #[.string k,.slice a1 n1 c1,.slice a2 n2 c2] 45)).alloc (.cells #[.string k2,.slice b1 m1 d1,.slice b2 m2 d2] 45)):=by go_grown
 have pX:Blk ((w.alloc (.cells #[.string k,.slice a1 n1 c1,.slice a2 n2 c2] 45)).alloc (.cells #[.string k2,.slice b1 m1 d1,.slice b2 m2 d2] 45)) w.heap.size 45 [.string k,.slice a1 n1 c1,.slice a2 n2 c2]:=blkOld _ (blkAt _ _ _ rfl)
 have pY:Blk ((w.alloc (.cells #[.string k,.slice a1 n1 c1,.slice a2 n2 c2] 45)).alloc (.cells #[.string k2,.slice b1 m1 d1,.slice b2 m2 d2] 45)) (w.heap.size+1) 45 [.string k2,.slice b1 m1 d1,.slice b2 m2 d2]:=blkAt _ _ _ (by simp)
 have x0:=pX.cell 0
 have x1:=pX.cell 1
 have x2:=pX.cell 2
 have y0:=pY.cell 0
 have y1:=pY.cell 1
 have y2:=pY.cell 2
 simp only [List.getElem?_cons_zero,List.getElem?_cons_succ] at x0 x1 x2 y0 y1 y2
 clear pX pY
 go_enter Tryz.func162,Tryz.ntmps162
 go_wp2_with fail
 generalize ((w.alloc (.cells #[.string k,.slice a1 n1 c1,.slice a2 n2 c2] 45)).alloc (.cells #[.string k2,.slice b1 m1 d1,.slice b2 m2 d2] 45))=W at *
 have bd:Below w.heap.size w W.drew:=bel8 bw (by go_grown)
 refine wp_region_held_drew (S:=(fun w'=>w'.cell? ⟨w.heap.size,0,none⟩=some (.string k)∧w'.cell? ⟨w.heap.size,1,none⟩=some (.slice a1 n1 c1)∧w'.cell? ⟨w.heap.size,2,none⟩=some (.slice a2 n2 c2)∧w'.cell? ⟨w.heap.size+1,0,none⟩=some (.string k2)∧w'.cell? ⟨w.heap.size+1,1,none⟩=some (.slice b1 m1 d1)∧w'.cell? ⟨w.heap.size+1,2,none⟩=some (.slice b2 m2 d2))) (by kernel_rfl) ⟨x0,x1,x2,y0,y1,y2⟩ (fun hS0=>?_)
 refine tkx 0 5 (.agg #[.string k,.slice a1 n1 c1,.slice a2 n2 c2]) ?_ ?_
 ·(intro w' hSw;(try dsimp only at hSw);go_simp;first | done | rfl | omega | (intro h9;omega) | (rw [IntKind.wrap_i64];omega))
 simp only [Act.put,tka,tkb,tkc]
 refine tkx 1 6 (.iface 45 (.agg #[.string k,.slice a1 n1 c1,.slice a2 n2 c2])) ?_ ?_
 ·(intro w' hSw;(try dsimp only at hSw);go_simp;first | done | rfl | omega | (intro h9;omega) | (rw [IntKind.wrap_i64];omega))
 simp only [Act.put,tka,tkb,tkc]
 refine tkx 3 8 (.agg #[.string k2,.slice b1 m1 d1,.slice b2 m2 d2]) ?_ ?_
 ·(intro w' hSw;(try dsimp only at hSw);go_simp;first | done | rfl | omega | (intro h9;omega) | (rw [IntKind.wrap_i64];omega))
 simp only [Act.put,tka,tkb,tkc]
 refine tkx 4 9 (.iface 45 (.agg #[.string k2,.slice b1 m1 d1,.slice b2 m2 d2])) ?_ ?_
 ·(intro w' hSw;(try dsimp only at hSw);go_simp;first | done | rfl | omega | (intro h9;omega) | (rw [IntKind.wrap_i64];omega))
 simp only [Act.put,tka,tkb,tkc]
 refine tkr 2 7 (fun K hK=>?_)
 go_simp
 refine (kX _).mono ?_
 rintro e w3 ⟨rfl,hb3⟩
 go_wp2_with fail
 refine hK.out _ _ ?_ (fun hS3=>?_)
 ·exact ⟨cells_kept hb3 _ _ hS0.1,cells_kept hb3 _ _ hS0.2.1,cells_kept hb3 _ _ hS0.2.2.1,cells_kept hb3 _ _ hS0.2.2.2.1,cells_kept hb3 _ _ hS0.2.2.2.2.1,cells_kept hb3 _ _ hS0.2.2.2.2.2⟩
 clear hK
 refine tkr 5 10 (fun K hK=>?_)
 go_simp
 refine (kY _).mono ?_
 rintro e w4 ⟨rfl,hb4⟩
 go_wp2_with fail
 refine hK.out _ _ ?_ (fun hS4=>?_)
 ·exact ⟨cells_kept hb4 _ _ hS3.1,cells_kept hb4 _ _ hS3.2.1,cells_kept hb4 _ _ hS3.2.2.1,cells_kept hb4 _ _ hS3.2.2.2.1,cells_kept hb4 _ _ hS3.2.2.2.2.1,cells_kept hb4 _ _ hS3.2.2.2.2.2⟩
 clear hK
 refine tkr 6 11 (fun K hK=>?_)
 go_simp
 refine (kC _).mono ?_
 rintro e w5 ⟨rfl,rfl⟩
 go_wp2_with fail
 refine hK.out _ _ ?_ (fun hS5=>?_)
 ·exact hS4
 clear hK
 refine tkx 7 4 (.int .i64 (cmpS k k2)) ?_ ?_
 ·(intro w' hSw;(try dsimp only at hSw);go_simp;first | done | rfl | omega | (intro h9;omega) | (rw [IntKind.wrap_i64];omega))
 simp only [Act.put,tka,tkb,tkc]
 refine wpAnyH_done (by kernel_rfl) ?_ _
 replace bw:=bel8 (bel8 bd hb3) hb4
 clear hS0 hS3 hS4 hS5 hb3 hb4 bd x0 x1 x2 y0 y1 y2
 go_wp2
 go_ret
 exact ⟨rfl,bw⟩
theorem cmpCompare9 (x y:Int) (w:World):Calls Tryz.prog 88 #[.int .i64 x,.int .i64 y] w fun e w'=>e=.returned (.int .i64 (cmpI x y))∧Below w.heap.size w w':=by
 refine (cmpCompare_is x y w).mono ?_
 rintro e w' ⟨rfl,rfl⟩
 exact ⟨rfl,Below.refl _ _⟩
theorem compareBugs9 (x y:I3) (w:World):Calls Tryz.prog 159 #[.agg #[.int .i64 x.1,.int .i64 x.2.1,.int .i64 x.2.2],.agg #[.int .i64 y.1,.int .i64 y.2.1,.int .i64 y.2.2]] w fun e w'=>e=.returned (.int .i64 (cmpB x y))∧Below w.heap.size w w':=by
 refine (compareBugs_is x y w).mono ?_
 rintro e w' ⟨rfl,q,os,rfl⟩
 refine ⟨rfl,rfl,rfl,rfl,?_,fun k hk=>?_⟩
 ·simp [grow,World.drewN]
 ·simp only [grow,World.drewN]
  rw [Array.getElem?_append_left hk]
theorem cmpI_lt (x y:Int):cmpI x y<0↔decide (x<y)=true:=by
 unfold cmpI
 by_cases h1:x<y
 ·simp [h1]
 ·by_cases h2:y<x
  ·simp [h1,h2]
  ·simp [h1,h2]
theorem cmpB_lt9 (x y:I3):cmpB x y<0↔ltB x y=true:=by
 rw [← cmpB_lt x y]
 unfold ltOf
 simp
def stI (xs:List Int) (i:Nat):Bool:=decide (i=0) || (decide ((xs.getD (i - 1) 0)<(xs.getD i 0)))
def upI (xs:List Int):Bool:=(List.range xs.length).all (stI xs)
theorem risesI_is (a:Option Addr) (n cap:Nat) (xs:List Int) (w:World) (h:Ints .i64 w a n cap xs) :
  Calls Tryz.prog 87 #[.slice a n cap,.func (.func 88) #[] #[]] w fun e w'=>e=.returned (.bool (upI xs))∧Below w.heap.size w w':=by
 obtain ⟨r,hr⟩:∃ r,r=upI xs:=⟨_,rfl⟩
 rw [← hr]
 have HR:Hid (r=upI xs):=hr
 clear hr
 have hl:=h.1
 have hnm:n≤maxLen:=Nat.le_trans h.2.1 h.2.2.1
 unfold maxLen at hnm
 go_enter Tryz.func87,Tryz.ntmps87
 go_wp2_with fail
 go_loopw [5] (fun si wr=>∃ k:Nat,1≤k∧(k≤n∨k=1)∧si=.int .i64 k∧Hid (∀ i,i<k→stI xs i=true)∧Below w.heap.size w wr) (fun si _=>n - (intOf si).toNat)
 case atStart => exact ⟨1, by omega, .inr rfl, rfl, (fun i hi => by obtain rfl : i = 0 := by omega
                                                                    rfl),Below.refl _ _⟩
 case round =>
  obtain ⟨k,hk1,hk,rfl,HK,bw⟩:=hrel
  by_cases hlt:k<n
  ·obtain ⟨m,rfl⟩:∃ m,k=m+1:=⟨k - 1,by omega⟩
   have bd:Below w.heap.size w wr.drew:=bel8 bw (by go_grown)
   obtain ⟨_,_,_,hcase⟩:=h.below bd
   rcases hcase with e0 | ⟨b,off,rfl,hb,hc⟩
   ·omega
   have x0:=hc m (by omega)
   have y0:=hc (m+1) hlt
   have hst:stI xs (m+1)=decide (xs.getD m 0<xs.getD (m+1) 0):=by unfold stI;simp
   have kC:=fun W=>cmpCompare9 (xs.getD m 0) (xs.getD (m+1) 0) W
   have hcl:=cmpI_lt (xs.getD m 0) (xs.getD (m+1) 0)
   generalize cmpI (xs.getD m 0) (xs.getD (m+1) 0)=c at *
   generalize xs.getD m 0=x at *
   generalize xs.getD (m+1) 0=y at *
   have hlt2:((m+1:Nat):Int)<(n:Int):=by omega
   have hm0:(0:Int)≤(m:Int):=by omega
   have HC:Hid (c<0↔decide (x<y)=true):=hcl
   have HT:Hid (stI xs (m+1)=decide (x<y)):=hst
   clear hcl hst hc hb
   generalize decide (x<y)=lt at *
   by_cases hneg:c<0
   ·have HK2:Hid (∀ i,i<m+1+1→stI xs i=true):=fun i hi=>by
     by_cases e:i=m+1
     ·rw [e,HT.out];exact HC.out.1 hneg
     ·exact HK.out i (by omega)
    clear HK HC HT
    have hng:¬ (0:Int)≤c:=by omega
    have hge:decide ((0:Int)≤c)=false:=by simp;omega
    clear hneg
    go_wp2_with fail
    refine wp_region_held_drew (S:=(fun w'=>w'.cell? ⟨b,off+m,none⟩=some (.int .i64 x)∧w'.cell? ⟨b,off+(m+1),none⟩=some (.int .i64 y))) (by kernel_rfl) ⟨x0,y0⟩ (fun hS0=>?_)
    refine tkx 0 12 (.func (.func 88) #[] #[]) ?_ ?_
    ·(intro w' hSw;(try dsimp only at hSw);go_simp;first | done | rfl | omega | (intro h9;omega) | (rw [IntKind.wrap_i64];omega))
    simp only [Act.put,tka,tkb,tkc]
    refine tkx 1 13 (.slice (some ⟨b,off,none⟩) n cap) ?_ ?_
    ·(intro w' hSw;(try dsimp only at hSw);go_simp;first | done | rfl | omega | (intro h9;omega) | (rw [IntKind.wrap_i64];omega))
    simp only [Act.put,tka,tkb,tkc]
    refine tkx 2 14 (.int .i64 ((m+1:Nat):Int)) ?_ ?_
    ·(intro w' hSw;(try dsimp only at hSw);go_simp;first | done | rfl | omega | (intro h9;omega) | (rw [IntKind.wrap_i64];omega))
    simp only [Act.put,tka,tkb,tkc]
    refine tkx 3 15 (.int .i64 (m:Int)) ?_ ?_
    ·(intro w' hSw;(try dsimp only at hSw);go_simp;first | done | rfl | omega | (intro h9;omega) | (rw [IntKind.wrap_i64];omega))
    simp only [Act.put,tka,tkb,tkc]
    refine tkx 4 16 (.pointer (some ⟨b,off+m,none⟩)) ?_ ?_
    ·(intro w' hSw;(try dsimp only at hSw);go_simp;first | done | rfl | omega | (intro h9;omega) | (rw [IntKind.wrap_i64];omega))
    simp only [Act.put,tka,tkb,tkc]
    refine tkx 5 17 (.int .i64 x) ?_ ?_
    ·(intro w' hSw;(try dsimp only at hSw);go_simp;first | done | rfl | omega | (intro h9;omega) | (rw [IntKind.wrap_i64];omega))
    simp only [Act.put,tka,tkb,tkc]
    refine tkx 6 18 (.slice (some ⟨b,off,none⟩) n cap) ?_ ?_
    ·(intro w' hSw;(try dsimp only at hSw);go_simp;first | done | rfl | omega | (intro h9;omega) | (rw [IntKind.wrap_i64];omega))
    simp only [Act.put,tka,tkb,tkc]
    refine tkx 7 19 (.int .i64 ((m+1:Nat):Int)) ?_ ?_
    ·(intro w' hSw;(try dsimp only at hSw);go_simp;first | done | rfl | omega | (intro h9;omega) | (rw [IntKind.wrap_i64];omega))
    simp only [Act.put,tka,tkb,tkc]
    refine tkx 8 20 (.pointer (some ⟨b,off+(m+1),none⟩)) ?_ ?_
    ·(intro w' hSw;(try dsimp only at hSw);go_simp;first | done | rfl | omega | (intro h9;omega) | (rw [IntKind.wrap_i64];omega))
    simp only [Act.put,tka,tkb,tkc]
    refine tkx 9 21 (.int .i64 y) ?_ ?_
    ·(intro w' hSw;(try dsimp only at hSw);go_simp;first | done | rfl | omega | (intro h9;omega) | (rw [IntKind.wrap_i64];omega))
    simp only [Act.put,tka,tkb,tkc]
    refine tkr 10 22 (fun K hK=>?_)
    go_simp
    refine (kC _).mono ?_
    rintro e w5 ⟨rfl,hb5⟩
    go_wp2_with fail
    refine hK.out _ _ ?_ (fun hS5=>?_)
    ·exact ⟨cells_kept hb5 _ _ hS0.1,cells_kept hb5 _ _ hS0.2⟩
    clear hK
    refine tkx 11 23 (.bool false) ?_ ?_
    ·(intro w' hSw;(try dsimp only at hSw);go_simp;first | done | rfl | omega | (intro h9;omega) | (rw [IntKind.wrap_i64];omega))
    simp only [Act.put,tka,tkb,tkc]
    refine wpAnyH_done (by kernel_rfl) ?_ _
    replace bw:=bel8 bd hb5
    clear hS0 hS5 hb5 bd x0 y0
    go_wp2
    go_roundw
    case rel=>exact ⟨m+1+1,by omega,.inl (by omega),by go_num,HK2,bw⟩
    case measure=>simp [intOf];omega
   ·have HF:Hid (r=false):=by
     rw [Hid,HR.out]
     refine allR_false (k:=m+1) (by omega) ?_
     rw [HT.out]
     cases hq:lt
     ·rfl
     ·exact absurd (HC.out.2 hq) hneg
    clear HK HC HT
    have hpo:(0:Int)≤c:=by omega
    have hge:decide ((0:Int)≤c)=true:=by simp;omega
    clear hneg
    go_wp2_with fail
    refine wp_region_held_drew (S:=(fun w'=>w'.cell? ⟨b,off+m,none⟩=some (.int .i64 x)∧w'.cell? ⟨b,off+(m+1),none⟩=some (.int .i64 y))) (by kernel_rfl) ⟨x0,y0⟩ (fun hS0=>?_)
    refine tkx 0 12 (.func (.func 88) #[] #[]) ?_ ?_
    ·(intro w' hSw;(try dsimp only at hSw);go_simp;first | done | rfl | omega | (intro h9;omega) | (rw [IntKind.wrap_i64];omega))
    simp only [Act.put,tka,tkb,tkc]
    refine tkx 1 13 (.slice (some ⟨b,off,none⟩) n cap) ?_ ?_
    ·(intro w' hSw;(try dsimp only at hSw);go_simp;first | done | rfl | omega | (intro h9;omega) | (rw [IntKind.wrap_i64];omega))
    simp only [Act.put,tka,tkb,tkc]
    refine tkx 2 14 (.int .i64 ((m+1:Nat):Int)) ?_ ?_
    ·(intro w' hSw;(try dsimp only at hSw);go_simp;first | done | rfl | omega | (intro h9;omega) | (rw [IntKind.wrap_i64];omega))
    simp only [Act.put,tka,tkb,tkc]
    refine tkx 3 15 (.int .i64 (m:Int)) ?_ ?_
    ·(intro w' hSw;(try dsimp only at hSw);go_simp;first | done | rfl | omega | (intro h9;omega) | (rw [IntKind.wrap_i64];omega))
    simp only [Act.put,tka,tkb,tkc]
    refine tkx 4 16 (.pointer (some ⟨b,off+m,none⟩)) ?_ ?_
    ·(intro w' hSw;(try dsimp only at hSw);go_simp;first | done | rfl | omega | (intro h9;omega) | (rw [IntKind.wrap_i64];omega))
    simp only [Act.put,tka,tkb,tkc]
    refine tkx 5 17 (.int .i64 x) ?_ ?_
    ·(intro w' hSw;(try dsimp only at hSw);go_simp;first | done | rfl | omega | (intro h9;omega) | (rw [IntKind.wrap_i64];omega))
    simp only [Act.put,tka,tkb,tkc]
    refine tkx 6 18 (.slice (some ⟨b,off,none⟩) n cap) ?_ ?_
    ·(intro w' hSw;(try dsimp only at hSw);go_simp;first | done | rfl | omega | (intro h9;omega) | (rw [IntKind.wrap_i64];omega))
    simp only [Act.put,tka,tkb,tkc]
    refine tkx 7 19 (.int .i64 ((m+1:Nat):Int)) ?_ ?_
    ·(intro w' hSw;(try dsimp only at hSw);go_simp;first | done | rfl | omega | (intro h9;omega) | (rw [IntKind.wrap_i64];omega))
    simp only [Act.put,tka,tkb,tkc]
    refine tkx 8 20 (.pointer (some ⟨b,off+(m+1),none⟩)) ?_ ?_
    ·(intro w' hSw;(try dsimp only at hSw);go_simp;first | done | rfl | omega | (intro h9;omega) | (rw [IntKind.wrap_i64];omega))
    simp only [Act.put,tka,tkb,tkc]
    refine tkx 9 21 (.int .i64 y) ?_ ?_
    ·(intro w' hSw;(try dsimp only at hSw);go_simp;first | done | rfl | omega | (intro h9;omega) | (rw [IntKind.wrap_i64];omega))
    simp only [Act.put,tka,tkb,tkc]
    refine tkr 10 22 (fun K hK=>?_)
    go_simp
    refine (kC _).mono ?_
    rintro e w5 ⟨rfl,hb5⟩
    go_wp2_with fail
    refine hK.out _ _ ?_ (fun hS5=>?_)
    ·exact ⟨cells_kept hb5 _ _ hS0.1,cells_kept hb5 _ _ hS0.2⟩
    clear hK
    refine tkx 11 23 (.bool true) ?_ ?_
    ·(intro w' hSw;(try dsimp only at hSw);go_simp;first | done | rfl | omega | (intro h9;omega) | (rw [IntKind.wrap_i64];omega))
    simp only [Act.put,tka,tkb,tkc]
    refine wpAnyH_done (by kernel_rfl) ?_ _
    replace bw:=bel8 bd hb5
    clear hS0 hS5 hb5 bd x0 y0
    go_wp2
    go_ret
    exact ⟨by rw [HF.out];rfl,bw⟩
  ·have HF:Hid (r=true):=by
    rw [Hid,HR.out]
    exact allR_true fun i hi=>HK.out i (by omega)
   have hlt2:¬ (k:Int)<(n:Int):=by omega
   clear HK
   go_wp2
   go_ret
   exact ⟨by rw [HF.out];rfl,bw⟩
def stB (xs:List I3) (i:Nat):Bool:=decide (i=0) || (ltB (xs.getD (i - 1) (0,0,0)) (xs.getD i (0,0,0)))
def upB (xs:List I3):Bool:=(List.range xs.length).all (stB xs)
theorem risesB_is (a:Option Addr) (n cap:Nat) (xs:List I3) (w:World) (h:Instrs w a n cap xs) :
  Calls Tryz.prog 158 #[.slice a n cap,.func (.func 159) #[] #[]] w fun e w'=>e=.returned (.bool (upB xs))∧Below w.heap.size w w':=by
 obtain ⟨r,hr⟩:∃ r,r=upB xs:=⟨_,rfl⟩
 rw [← hr]
 have HR:Hid (r=upB xs):=hr
 clear hr
 have hl:=h.1
 have hnm:n≤maxLen:=Nat.le_trans h.2.1 h.2.2.1
 unfold maxLen at hnm
 go_enter Tryz.func158,Tryz.ntmps158
 go_wp2_with fail
 go_loopw [5] (fun si wr=>∃ k:Nat,1≤k∧(k≤n∨k=1)∧si=.int .i64 k∧Hid (∀ i,i<k→stB xs i=true)∧Below w.heap.size w wr) (fun si _=>n - (intOf si).toNat)
 case atStart => exact ⟨1, by omega, .inr rfl, rfl, (fun i hi => by obtain rfl : i = 0 := by omega
                                                                    rfl),Below.refl _ _⟩
 case round =>
  obtain ⟨k,hk1,hk,rfl,HK,bw⟩:=hrel
  by_cases hlt:k<n
  ·obtain ⟨m,rfl⟩:∃ m,k=m+1:=⟨k - 1,by omega⟩
   have bd:Below w.heap.size w wr.drew:=bel8 bw (by go_grown)
   obtain ⟨_,_,_,_,hcase⟩:=h.below bd
   rcases hcase with e0 | ⟨b,off,rfl,hb,hc⟩
   ·omega
   obtain ⟨x0,x1,x2⟩:=hc m (by omega)
   obtain ⟨y0,y1,y2⟩:=hc (m+1) hlt
   have hst:stB xs (m+1)=ltB (xs.getD m (0,0,0)) (xs.getD (m+1) (0,0,0)):=by unfold stB;simp
   have kC:=fun W=>compareBugs9 (xs.getD m (0,0,0)) (xs.getD (m+1) (0,0,0)) W
   have hcl:=cmpB_lt9 (xs.getD m (0,0,0)) (xs.getD (m+1) (0,0,0))
   generalize cmpB (xs.getD m (0,0,0)) (xs.getD (m+1) (0,0,0))=c at *
   generalize xs.getD m (0,0,0)=x at *
   generalize xs.getD (m+1) (0,0,0)=y at *
   generalize ltB x y=lt at *
   obtain ⟨p0,p1,p2⟩:=x
   obtain ⟨q0,q1,q2⟩:=y
   simp only at x0 x1 x2 y0 y1 y2 kC
   have hlt2:((m+1:Nat):Int)<(n:Int):=by omega
   have hm0:(0:Int)≤(m:Int):=by omega
   have HC:Hid (c<0↔lt=true):=hcl
   have HT:Hid (stB xs (m+1)=lt):=hst
   clear hcl hst hc hb
   skip
   by_cases hneg:c<0
   ·have HK2:Hid (∀ i,i<m+1+1→stB xs i=true):=fun i hi=>by
     by_cases e:i=m+1
     ·rw [e,HT.out];exact HC.out.1 hneg
     ·exact HK.out i (by omega)
    clear HK HC HT
    have hng:¬ (0:Int)≤c:=by omega
    have hge:decide ((0:Int)≤c)=false:=by simp;omega
    clear hneg
    go_wp2_with fail
    refine wp_region_held_drew (S:=(fun w'=>w'.cell? ⟨b,off+m*3,none⟩=some (.int .i64 p0)∧w'.cell? ⟨b,off+m*3+1,none⟩=some (.int .i64 p1)∧w'.cell? ⟨b,off+m*3+2,none⟩=some (.int .i64 p2)∧w'.cell? ⟨b,off+(m+1)*3,none⟩=some (.int .i64 q0)∧w'.cell? ⟨b,off+(m+1)*3+1,none⟩=some (.int .i64 q1)∧w'.cell? ⟨b,off+(m+1)*3+2,none⟩=some (.int .i64 q2))) (by kernel_rfl) ⟨x0,x1,x2,y0,y1,y2⟩ (fun hS0=>?_)
    refine tkx 0 12 (.func (.func 159) #[] #[]) ?_ ?_
    ·(intro w' hSw;(try dsimp only at hSw);go_simp;first | done | rfl | omega | (intro h9;omega) | (rw [IntKind.wrap_i64];omega))
    simp only [Act.put,tka,tkb,tkc]
    refine tkx 1 13 (.slice (some ⟨b,off,none⟩) n cap) ?_ ?_
    ·(intro w' hSw;(try dsimp only at hSw);go_simp;first | done | rfl | omega | (intro h9;omega) | (rw [IntKind.wrap_i64];omega))
    simp only [Act.put,tka,tkb,tkc]
    refine tkx 2 14 (.int .i64 ((m+1:Nat):Int)) ?_ ?_
    ·(intro w' hSw;(try dsimp only at hSw);go_simp;first | done | rfl | omega | (intro h9;omega) | (rw [IntKind.wrap_i64];omega))
    simp only [Act.put,tka,tkb,tkc]
    refine tkx 3 15 (.int .i64 (m:Int)) ?_ ?_
    ·(intro w' hSw;(try dsimp only at hSw);go_simp;first | done | rfl | omega | (intro h9;omega) | (rw [IntKind.wrap_i64];omega))
    simp only [Act.put,tka,tkb,tkc]
    refine tkx 4 16 (.pointer (some ⟨b,off+m*3,none⟩)) ?_ ?_
    ·(intro w' hSw;(try dsimp only at hSw);go_simp;first | done | rfl | omega | (intro h9;omega) | (rw [IntKind.wrap_i64];omega))
    simp only [Act.put,tka,tkb,tkc]
    refine tkx 5 17 (.agg #[.int .i64 p0,.int .i64 p1,.int .i64 p2]) ?_ ?_
    ·(intro w' hSw;(try dsimp only at hSw);go_simp;first | done | rfl | omega | (intro h9;omega) | (rw [IntKind.wrap_i64];omega))
    simp only [Act.put,tka,tkb,tkc]
    refine tkx 6 18 (.slice (some ⟨b,off,none⟩) n cap) ?_ ?_
    ·(intro w' hSw;(try dsimp only at hSw);go_simp;first | done | rfl | omega | (intro h9;omega) | (rw [IntKind.wrap_i64];omega))
    simp only [Act.put,tka,tkb,tkc]
    refine tkx 7 19 (.int .i64 ((m+1:Nat):Int)) ?_ ?_
    ·(intro w' hSw;(try dsimp only at hSw);go_simp;first | done | rfl | omega | (intro h9;omega) | (rw [IntKind.wrap_i64];omega))
    simp only [Act.put,tka,tkb,tkc]
    refine tkx 8 20 (.pointer (some ⟨b,off+(m+1)*3,none⟩)) ?_ ?_
    ·(intro w' hSw;(try dsimp only at hSw);go_simp;first | done | rfl | omega | (intro h9;omega) | (rw [IntKind.wrap_i64];omega))
    simp only [Act.put,tka,tkb,tkc]
    refine tkx 9 21 (.agg #[.int .i64 q0,.int .i64 q1,.int .i64 q2]) ?_ ?_
    ·(intro w' hSw;(try dsimp only at hSw);go_simp;first | done | rfl | omega | (intro h9;omega) | (rw [IntKind.wrap_i64];omega))
    simp only [Act.put,tka,tkb,tkc]
    refine tkr 10 22 (fun K hK=>?_)
    go_simp
    refine (kC _).mono ?_
    rintro e w5 ⟨rfl,hb5⟩
    go_wp2_with fail
    refine hK.out _ _ ?_ (fun hS5=>?_)
    ·exact ⟨cells_kept hb5 _ _ hS0.1,cells_kept hb5 _ _ hS0.2.1,cells_kept hb5 _ _ hS0.2.2.1,cells_kept hb5 _ _ hS0.2.2.2.1,cells_kept hb5 _ _ hS0.2.2.2.2.1,cells_kept hb5 _ _ hS0.2.2.2.2.2⟩
    clear hK
    refine tkx 11 23 (.bool false) ?_ ?_
    ·(intro w' hSw;(try dsimp only at hSw);go_simp;first | done | rfl | omega | (intro h9;omega) | (rw [IntKind.wrap_i64];omega))
    simp only [Act.put,tka,tkb,tkc]
    refine wpAnyH_done (by kernel_rfl) ?_ _
    replace bw:=bel8 bd hb5
    clear hS0 hS5 hb5 bd x0 x1 x2 y0 y1 y2
    go_wp2
    go_roundw
    case rel=>exact ⟨m+1+1,by omega,.inl (by omega),by go_num,HK2,bw⟩
    case measure=>simp [intOf];omega
   ·have HF:Hid (r=false):=by
     rw [Hid,HR.out]
     refine allR_false (k:=m+1) (by omega) ?_
     rw [HT.out]
     cases hq:lt
     ·rfl
     ·exact absurd (HC.out.2 hq) hneg
    clear HK HC HT
    have hpo:(0:Int)≤c:=by omega
    have hge:decide ((0:Int)≤c)=true:=by simp;omega
    clear hneg
    go_wp2_with fail
    refine wp_region_held_drew (S:=(fun w'=>w'.cell? ⟨b,off+m*3,none⟩=some (.int .i64 p0)∧w'.cell? ⟨b,off+m*3+1,none⟩=some (.int .i64 p1)∧w'.cell? ⟨b,off+m*3+2,none⟩=some (.int .i64 p2)∧w'.cell? ⟨b,off+(m+1)*3,none⟩=some (.int .i64 q0)∧w'.cell? ⟨b,off+(m+1)*3+1,none⟩=some (.int .i64 q1)∧w'.cell? ⟨b,off+(m+1)*3+2,none⟩=some (.int .i64 q2))) (by kernel_rfl) ⟨x0,x1,x2,y0,y1,y2⟩ (fun hS0=>?_)
    refine tkx 0 12 (.func (.func 159) #[] #[]) ?_ ?_
    ·(intro w' hSw;(try dsimp only at hSw);go_simp;first | done | rfl | omega | (intro h9;omega) | (rw [IntKind.wrap_i64];omega))
    simp only [Act.put,tka,tkb,tkc]
    refine tkx 1 13 (.slice (some ⟨b,off,none⟩) n cap) ?_ ?_
    ·(intro w' hSw;(try dsimp only at hSw);go_simp;first | done | rfl | omega | (intro h9;omega) | (rw [IntKind.wrap_i64];omega))
    simp only [Act.put,tka,tkb,tkc]
    refine tkx 2 14 (.int .i64 ((m+1:Nat):Int)) ?_ ?_
    ·(intro w' hSw;(try dsimp only at hSw);go_simp;first | done | rfl | omega | (intro h9;omega) | (rw [IntKind.wrap_i64];omega))
    simp only [Act.put,tka,tkb,tkc]
    refine tkx 3 15 (.int .i64 (m:Int)) ?_ ?_
    ·(intro w' hSw;(try dsimp only at hSw);go_simp;first | done | rfl | omega | (intro h9;omega) | (rw [IntKind.wrap_i64];omega))
    simp only [Act.put,tka,tkb,tkc]
    refine tkx 4 16 (.pointer (some ⟨b,off+m*3,none⟩)) ?_ ?_
    ·(intro w' hSw;(try dsimp only at hSw);go_simp;first | done | rfl | omega | (intro h9;omega) | (rw [IntKind.wrap_i64];omega))
    simp only [Act.put,tka,tkb,tkc]
    refine tkx 5 17 (.agg #[.int .i64 p0,.int .i64 p1,.int .i64 p2]) ?_ ?_
    ·(intro w' hSw;(try dsimp only at hSw);go_simp;first | done | rfl | omega | (intro h9;omega) | (rw [IntKind.wrap_i64];omega))
    simp only [Act.put,tka,tkb,tkc]
    refine tkx 6 18 (.slice (some ⟨b,off,none⟩) n cap) ?_ ?_
    ·(intro w' hSw;(try dsimp only at hSw);go_simp;first | done | rfl | omega | (intro h9;omega) | (rw [IntKind.wrap_i64];omega))
    simp only [Act.put,tka,tkb,tkc]
    refine tkx 7 19 (.int .i64 ((m+1:Nat):Int)) ?_ ?_
    ·(intro w' hSw;(try dsimp only at hSw);go_simp;first | done | rfl | omega | (intro h9;omega) | (rw [IntKind.wrap_i64];omega))
    simp only [Act.put,tka,tkb,tkc]
    refine tkx 8 20 (.pointer (some ⟨b,off+(m+1)*3,none⟩)) ?_ ?_
    ·(intro w' hSw;(try dsimp only at hSw);go_simp;first | done | rfl | omega | (intro h9;omega) | (rw [IntKind.wrap_i64];omega))
    simp only [Act.put,tka,tkb,tkc]
    refine tkx 9 21 (.agg #[.int .i64 q0,.int .i64 q1,.int .i64 q2]) ?_ ?_
    ·(intro w' hSw;(try dsimp only at hSw);go_simp;first | done | rfl | omega | (intro h9;omega) | (rw [IntKind.wrap_i64];omega))
    simp only [Act.put,tka,tkb,tkc]
    refine tkr 10 22 (fun K hK=>?_)
    go_simp
    refine (kC _).mono ?_
    rintro e w5 ⟨rfl,hb5⟩
    go_wp2_with fail
    refine hK.out _ _ ?_ (fun hS5=>?_)
    ·exact ⟨cells_kept hb5 _ _ hS0.1,cells_kept hb5 _ _ hS0.2.1,cells_kept hb5 _ _ hS0.2.2.1,cells_kept hb5 _ _ hS0.2.2.2.1,cells_kept hb5 _ _ hS0.2.2.2.2.1,cells_kept hb5 _ _ hS0.2.2.2.2.2⟩
    clear hK
    refine tkx 11 23 (.bool true) ?_ ?_
    ·(intro w' hSw;(try dsimp only at hSw);go_simp;first | done | rfl | omega | (intro h9;omega) | (rw [IntKind.wrap_i64];omega))
    simp only [Act.put,tka,tkb,tkc]
    refine wpAnyH_done (by kernel_rfl) ?_ _
    replace bw:=bel8 bd hb5
    clear hS0 hS5 hb5 bd x0 x1 x2 y0 y1 y2
    go_wp2
    go_ret
    exact ⟨by rw [HF.out];rfl,bw⟩
  ·have HF:Hid (r=true):=by
    rw [Hid,HR.out]
    exact allR_true fun i hi=>HK.out i (by omega)
   have hlt2:¬ (k:Int)<(n:Int):=by omega
   clear HK
   go_wp2
   go_ret
   exact ⟨by rw [HF.out];rfl,bw⟩
def stE (xs:List E3) (i:Nat):Bool:=decide (i=0) || (ltS (xs.getD (i - 1) e3d).1 (xs.getD i e3d).1)
def upE (xs:List E3):Bool:=(List.range xs.length).all (stE xs)
theorem risesE_is (a:Option Addr) (n cap:Nat) (xs:List E3) (w:World) (h:Ents w a n cap xs) :
  Calls Tryz.prog 161 #[.slice a n cap,.func (.func 162) #[] #[]] w fun e w'=>e=.returned (.bool (upE xs))∧Below w.heap.size w w':=by
 obtain ⟨r,hr⟩:∃ r,r=upE xs:=⟨_,rfl⟩
 rw [← hr]
 have HR:Hid (r=upE xs):=hr
 clear hr
 have hl:=h.1
 have hnm:n≤maxLen:=Nat.le_trans h.2.1 h.2.2.1
 unfold maxLen at hnm
 go_enter Tryz.func161,Tryz.ntmps161
 go_wp2_with fail
 go_loopw [5] (fun si wr=>∃ k:Nat,1≤k∧(k≤n∨k=1)∧si=.int .i64 k∧Hid (∀ i,i<k→stE xs i=true)∧Below w.heap.size w wr) (fun si _=>n - (intOf si).toNat)
 case atStart => exact ⟨1, by omega, .inr rfl, rfl, (fun i hi => by obtain rfl : i = 0 := by omega
                                                                    rfl),Below.refl _ _⟩
 case round =>
  obtain ⟨k,hk1,hk,rfl,HK,bw⟩:=hrel
  by_cases hlt:k<n
  ·obtain ⟨m,rfl⟩:∃ m,k=m+1:=⟨k - 1,by omega⟩
   have bd:Below w.heap.size w wr.drew:=bel8 bw (by go_grown)
   obtain ⟨_,_,_,hcase⟩:=h.below bd
   rcases hcase with e0 | ⟨b,off,rfl,hb,hc⟩
   ·omega
   obtain ⟨s1,x0,x1,x2,_⟩:=hc m (by omega)
   obtain ⟨s2,y0,y1,y2,_⟩:=hc (m+1) hlt
   have hst:stE xs (m+1)=ltS (xs.getD m e3d).1 (xs.getD (m+1) e3d).1:=by unfold stE;simp
   have kC:=fun W=>compareKeys_is (xs.getD m e3d).1 (xs.getD (m+1) e3d).1 s1 s2 W
   have hcl:=cmpS_lt (xs.getD m e3d).1 (xs.getD (m+1) e3d).1
   generalize cmpS (xs.getD m e3d).1 (xs.getD (m+1) e3d).1=c at *
   generalize (xs.getD m e3d).1=x at *
   generalize (xs.getD (m+1) e3d).1=y at *
   generalize ltS x y=lt at *
   obtain ⟨⟨a1,n1,c1⟩,⟨a2,n2,c2⟩⟩:=s1
   obtain ⟨⟨b1,m1,d1⟩,⟨b2,m2,d2⟩⟩:=s2
   unfold entV at kC
   simp only at x0 x1 x2 y0 y1 y2 kC
   have hlt2:((m+1:Nat):Int)<(n:Int):=by omega
   have hm0:(0:Int)≤(m:Int):=by omega
   have HC:Hid (c<0↔lt=true):=hcl
   have HT:Hid (stE xs (m+1)=lt):=hst
   clear hcl hst hc hb
   skip
   by_cases hneg:c<0
   ·have HK2:Hid (∀ i,i<m+1+1→stE xs i=true):=fun i hi=>by
     by_cases e:i=m+1
     ·rw [e,HT.out];exact HC.out.1 hneg
     ·exact HK.out i (by omega)
    clear HK HC HT
    have hng:¬ (0:Int)≤c:=by omega
    have hge:decide ((0:Int)≤c)=false:=by simp;omega
    clear hneg
    go_wp2_with fail
    refine wp_region_held_drew (S:=(fun w'=>w'.cell? ⟨b,off+m*3,none⟩=some (.string x)∧w'.cell? ⟨b,off+m*3+1,none⟩=some (.slice a1 n1 c1)∧w'.cell? ⟨b,off+m*3+2,none⟩=some (.slice a2 n2 c2)∧w'.cell? ⟨b,off+(m+1)*3,none⟩=some (.string y)∧w'.cell? ⟨b,off+(m+1)*3+1,none⟩=some (.slice b1 m1 d1)∧w'.cell? ⟨b,off+(m+1)*3+2,none⟩=some (.slice b2 m2 d2))) (by kernel_rfl) ⟨x0,x1,x2,y0,y1,y2⟩ (fun hS0=>?_)
    refine tkx 0 12 (.func (.func 162) #[] #[]) ?_ ?_
    ·(intro w' hSw;(try dsimp only at hSw);go_simp;first | done | rfl | omega | (intro h9;omega) | (rw [IntKind.wrap_i64];omega))
    simp only [Act.put,tka,tkb,tkc]
    refine tkx 1 13 (.slice (some ⟨b,off,none⟩) n cap) ?_ ?_
    ·(intro w' hSw;(try dsimp only at hSw);go_simp;first | done | rfl | omega | (intro h9;omega) | (rw [IntKind.wrap_i64];omega))
    simp only [Act.put,tka,tkb,tkc]
    refine tkx 2 14 (.int .i64 ((m+1:Nat):Int)) ?_ ?_
    ·(intro w' hSw;(try dsimp only at hSw);go_simp;first | done | rfl | omega | (intro h9;omega) | (rw [IntKind.wrap_i64];omega))
    simp only [Act.put,tka,tkb,tkc]
    refine tkx 3 15 (.int .i64 (m:Int)) ?_ ?_
    ·(intro w' hSw;(try dsimp only at hSw);go_simp;first | done | rfl | omega | (intro h9;omega) | (rw [IntKind.wrap_i64];omega))
    simp only [Act.put,tka,tkb,tkc]
    refine tkx 4 16 (.pointer (some ⟨b,off+m*3,none⟩)) ?_ ?_
    ·(intro w' hSw;(try dsimp only at hSw);go_simp;first | done | rfl | omega | (intro h9;omega) | (rw [IntKind.wrap_i64];omega))
    simp only [Act.put,tka,tkb,tkc]
    refine tkx 5 17 (.agg #[.string x,.slice a1 n1 c1,.slice a2 n2 c2]) ?_ ?_
    ·(intro w' hSw;(try dsimp only at hSw);go_simp;first | done | rfl | omega | (intro h9;omega) | (rw [IntKind.wrap_i64];omega))
    simp only [Act.put,tka,tkb,tkc]
    refine tkx 6 18 (.slice (some ⟨b,off,none⟩) n cap) ?_ ?_
    ·(intro w' hSw;(try dsimp only at hSw);go_simp;first | done | rfl | omega | (intro h9;omega) | (rw [IntKind.wrap_i64];omega))
    simp only [Act.put,tka,tkb,tkc]
    refine tkx 7 19 (.int .i64 ((m+1:Nat):Int)) ?_ ?_
    ·(intro w' hSw;(try dsimp only at hSw);go_simp;first | done | rfl | omega | (intro h9;omega) | (rw [IntKind.wrap_i64];omega))
    simp only [Act.put,tka,tkb,tkc]
    refine tkx 8 20 (.pointer (some ⟨b,off+(m+1)*3,none⟩)) ?_ ?_
    ·(intro w' hSw;(try dsimp only at hSw);go_simp;first | done | rfl | omega | (intro h9;omega) | (rw [IntKind.wrap_i64];omega))
    simp only [Act.put,tka,tkb,tkc]
    refine tkx 9 21 (.agg #[.string y,.slice b1 m1 d1,.slice b2 m2 d2]) ?_ ?_
    ·(intro w' hSw;(try dsimp only at hSw);go_simp;first | done | rfl | omega | (intro h9;omega) | (rw [IntKind.wrap_i64];omega))
    simp only [Act.put,tka,tkb,tkc]
    refine tkr 10 22 (fun K hK=>?_)
    go_simp
    refine (kC _).mono ?_
    rintro e w5 ⟨rfl,hb5⟩
    go_wp2_with fail
    refine hK.out _ _ ?_ (fun hS5=>?_)
    ·exact ⟨cells_kept hb5 _ _ hS0.1,cells_kept hb5 _ _ hS0.2.1,cells_kept hb5 _ _ hS0.2.2.1,cells_kept hb5 _ _ hS0.2.2.2.1,cells_kept hb5 _ _ hS0.2.2.2.2.1,cells_kept hb5 _ _ hS0.2.2.2.2.2⟩
    clear hK
    refine tkx 11 23 (.bool false) ?_ ?_
    ·(intro w' hSw;(try dsimp only at hSw);go_simp;first | done | rfl | omega | (intro h9;omega) | (rw [IntKind.wrap_i64];omega))
    simp only [Act.put,tka,tkb,tkc]
    refine wpAnyH_done (by kernel_rfl) ?_ _
    replace bw:=bel8 bd hb5
    clear hS0 hS5 hb5 bd x0 x1 x2 y0 y1 y2
    go_wp2
    go_roundw
    case rel=>exact ⟨m+1+1,by omega,.inl (by omega),by go_num,HK2,bw⟩
    case measure=>simp [intOf];omega
   ·have HF:Hid (r=false):=by
     rw [Hid,HR.out]
     refine allR_false (k:=m+1) (by omega) ?_
     rw [HT.out]
     cases hq:lt
     ·rfl
     ·exact absurd (HC.out.2 hq) hneg
    clear HK HC HT
    have hpo:(0:Int)≤c:=by omega
    have hge:decide ((0:Int)≤c)=true:=by simp;omega
    clear hneg
    go_wp2_with fail
    refine wp_region_held_drew (S:=(fun w'=>w'.cell? ⟨b,off+m*3,none⟩=some (.string x)∧w'.cell? ⟨b,off+m*3+1,none⟩=some (.slice a1 n1 c1)∧w'.cell? ⟨b,off+m*3+2,none⟩=some (.slice a2 n2 c2)∧w'.cell? ⟨b,off+(m+1)*3,none⟩=some (.string y)∧w'.cell? ⟨b,off+(m+1)*3+1,none⟩=some (.slice b1 m1 d1)∧w'.cell? ⟨b,off+(m+1)*3+2,none⟩=some (.slice b2 m2 d2))) (by kernel_rfl) ⟨x0,x1,x2,y0,y1,y2⟩ (fun hS0=>?_)
    refine tkx 0 12 (.func (.func 162) #[] #[]) ?_ ?_
    ·(intro w' hSw;(try dsimp only at hSw);go_simp;first | done | rfl | omega | (intro h9;omega) | (rw [IntKind.wrap_i64];omega))
    simp only [Act.put,tka,tkb,tkc]
    refine tkx 1 13 (.slice (some ⟨b,off,none⟩) n cap) ?_ ?_
    ·(intro w' hSw;(try dsimp only at hSw);go_simp;first | done | rfl | omega | (intro h9;omega) | (rw [IntKind.wrap_i64];omega))
    simp only [Act.put,tka,tkb,tkc]
    refine tkx 2 14 (.int .i64 ((m+1:Nat):Int)) ?_ ?_
    ·(intro w' hSw;(try dsimp only at hSw);go_simp;first | done | rfl | omega | (intro h9;omega) | (rw [IntKind.wrap_i64];omega))
    simp only [Act.put,tka,tkb,tkc]
    refine tkx 3 15 (.int .i64 (m:Int)) ?_ ?_
    ·(intro w' hSw;(try dsimp only at hSw);go_simp;first | done | rfl | omega | (intro h9;omega) | (rw [IntKind.wrap_i64];omega))
    simp only [Act.put,tka,tkb,tkc]
    refine tkx 4 16 (.pointer (some ⟨b,off+m*3,none⟩)) ?_ ?_
    ·(intro w' hSw;(try dsimp only at hSw);go_simp;first | done | rfl | omega | (intro h9;omega) | (rw [IntKind.wrap_i64];omega))
    simp only [Act.put,tka,tkb,tkc]
    refine tkx 5 17 (.agg #[.string x,.slice a1 n1 c1,.slice a2 n2 c2]) ?_ ?_
    ·(intro w' hSw;(try dsimp only at hSw);go_simp;first | done | rfl | omega | (intro h9;omega) | (rw [IntKind.wrap_i64];omega))
    simp only [Act.put,tka,tkb,tkc]
    refine tkx 6 18 (.slice (some ⟨b,off,none⟩) n cap) ?_ ?_
    ·(intro w' hSw;(try dsimp only at hSw);go_simp;first | done | rfl | omega | (intro h9;omega) | (rw [IntKind.wrap_i64];omega))
    simp only [Act.put,tka,tkb,tkc]
    refine tkx 7 19 (.int .i64 ((m+1:Nat):Int)) ?_ ?_
    ·(intro w' hSw;(try dsimp only at hSw);go_simp;first | done | rfl | omega | (intro h9;omega) | (rw [IntKind.wrap_i64];omega))
    simp only [Act.put,tka,tkb,tkc]
    refine tkx 8 20 (.pointer (some ⟨b,off+(m+1)*3,none⟩)) ?_ ?_
    ·(intro w' hSw;(try dsimp only at hSw);go_simp;first | done | rfl | omega | (intro h9;omega) | (rw [IntKind.wrap_i64];omega))
    simp only [Act.put,tka,tkb,tkc]
    refine tkx 9 21 (.agg #[.string y,.slice b1 m1 d1,.slice b2 m2 d2]) ?_ ?_
    ·(intro w' hSw;(try dsimp only at hSw);go_simp;first | done | rfl | omega | (intro h9;omega) | (rw [IntKind.wrap_i64];omega))
    simp only [Act.put,tka,tkb,tkc]
    refine tkr 10 22 (fun K hK=>?_)
    go_simp
    refine (kC _).mono ?_
    rintro e w5 ⟨rfl,hb5⟩
    go_wp2_with fail
    refine hK.out _ _ ?_ (fun hS5=>?_)
    ·exact ⟨cells_kept hb5 _ _ hS0.1,cells_kept hb5 _ _ hS0.2.1,cells_kept hb5 _ _ hS0.2.2.1,cells_kept hb5 _ _ hS0.2.2.2.1,cells_kept hb5 _ _ hS0.2.2.2.2.1,cells_kept hb5 _ _ hS0.2.2.2.2.2⟩
    clear hK
    refine tkx 11 23 (.bool true) ?_ ?_
    ·(intro w' hSw;(try dsimp only at hSw);go_simp;first | done | rfl | omega | (intro h9;omega) | (rw [IntKind.wrap_i64];omega))
    simp only [Act.put,tka,tkb,tkc]
    refine wpAnyH_done (by kernel_rfl) ?_ _
    replace bw:=bel8 bd hb5
    clear hS0 hS5 hb5 bd x0 x1 x2 y0 y1 y2
    go_wp2
    go_ret
    exact ⟨by rw [HF.out];rfl,bw⟩
  ·have HF:Hid (r=true):=by
    rw [Hid,HR.out]
    exact allR_true fun i hi=>HK.out i (by omega)
   have hlt2:¬ (k:Int)<(n:Int):=by omega
   clear HK
   go_wp2
   go_ret
   exact ⟨by rw [HF.out];rfl,bw⟩

open Go.RowKit

theorem riseB_split (xs:List I3):riseB xs=(okBs xs && upB xs):=by
 rw [Bool.eq_iff_iff]
 simp only [riseB,okBs,upB,Bool.and_eq_true,List.all_eq_true,List.mem_range,bStep,stB]
 constructor
 ·intro h
  refine ⟨fun x hx=>?_,fun i hi=>(h i hi).2⟩
  obtain ⟨t,ht,rfl⟩:=List.getElem_of_mem hx
  have:=(h t ht).1
  simpa [List.getD,List.getElem?_eq_getElem ht] using this
 ·rintro ⟨h1,h2⟩ i hi
  exact ⟨h1 _ (by simp [List.getD,List.getElem?_eq_getElem hi]),h2 i hi⟩
theorem riseI_split (xs:List Int):riseI xs=(allIt xs && upI xs):=by
 rw [Bool.eq_iff_iff]
 simp only [riseI,allIt,upI,Bool.and_eq_true,List.all_eq_true,List.mem_range,iStep,stI]
 constructor
 ·intro h
  refine ⟨fun x hx=>?_,fun i hi=>(h i hi).2⟩
  obtain ⟨t,ht,rfl⟩:=List.getElem_of_mem hx
  have:=(h t ht).1
  simpa [List.getD,List.getElem?_eq_getElem ht] using this
 ·rintro ⟨h1,h2⟩ i hi
  exact ⟨h1 _ (by simp [List.getD,List.getElem?_eq_getElem hi]),h2 i hi⟩
def allE (es:List E3):Bool:=es.all entOk
theorem allE_drop {es:List E3} {k:Nat} (h:k<es.length):allE (es.drop k)=(entOk (es.getD k e3d) && allE (es.drop (k+1))):=by
 unfold allE
 rw [List.drop_eq_getElem_cons h,List.all_cons]
 simp [List.getD,List.getElem?_eq_getElem h]
theorem memOk_split (es:List E3):memOk es=(decide (es.length≤2000) && (allE es && upE es)):=by
 rw [Bool.eq_iff_iff]
 simp only [memOk,allE,upE,Bool.and_eq_true,List.all_eq_true,List.mem_range,mStep,stE]
 constructor
 ·rintro ⟨h,h2⟩
  refine ⟨h2,fun x hx=>?_,fun i hi=>(h i hi).2⟩
  obtain ⟨t,ht,rfl⟩:=List.getElem_of_mem hx
  have:=(h t ht).1
  simpa [List.getD,List.getElem?_eq_getElem ht] using this
 ·rintro ⟨h0,h1,h2⟩
  exact ⟨fun i hi=>⟨h1 _ (by simp [List.getD,List.getElem?_eq_getElem hi]),h2 i hi⟩,h0⟩

theorem itemsOK9 (a:Option Addr) (n cap:Nat) (Z:List Int) (w:World) (h:Ints .i64 w a n cap Z) (hw:wfs Z) :
  Calls Tryz.prog 60 #[.slice a n cap] w fun e w'=>e=.returned (.bool (allIt Z))∧w=w':=by
 have hl:=h.1
 have hn:n≤maxLen:=Nat.le_trans h.2.1 h.2.2.1
 unfold maxLen at hn
 obtain ⟨r,hr⟩:∃ r,r=allIt Z:=⟨_,rfl⟩
 rw [← hr]
 have HR:Hid (r=allIt (Z.drop 0)):=by rw [Hid];simpa using hr
 clear hr
 go_enter Tryz.func60,Tryz.ntmps60
 go_wp2_with fail
 go_loopw [7] (fun si wr=>∃ k:Nat,k≤n∧si=.int .i64 k∧Hid (r=allIt (Z.drop k))∧w=wr) (fun si _=>n - (Go.RowKit.intOf si).toNat)
 case atStart=>exact ⟨0,by omega,rfl,HR,rfl⟩
 case round =>
  clear HR
  obtain ⟨k,hk,rfl,HR,rfl⟩:=hrel
  by_cases hlt:k<n
  ·have hm:=allIt_drop (xs:=Z) (k:=k) (by omega)
   have hx:=hw (Z.getD k 0) (by simp [List.getD,List.getElem?_eq_getElem (show k<Z.length by omega)])
   obtain ⟨_,_,_,hcase⟩:=h
   rcases hcase with e0 | ⟨b,off,rfl,hb,hc⟩
   ·omega
   have d0:=hc k hlt
   clear hc hb
   generalize Z.getD k 0=x at d0 hm hx
   have kO:=isItem_is x (in_wf8 hx)
   clear hx
   have HM:Hid (allIt (Z.drop k)=(itOk x && allIt (Z.drop (k+1)))):=hm
   clear hm
   have hlt':(k:Int)<(n:Int):=by omega
   have hk0:(0:Int)≤(k:Int):=by omega
   cases hE:itOk x
   ·rw [hE] at kO
    have HF:Hid (r=false):=by rw [Hid,HR.out,HM.out,hE];rfl
    clear HM HR hE
    go_wp2_with fail
    refine (kO _).mono ?_
    rintro e w1 ⟨rfl,rfl⟩
    go_wp2
    go_ret
    exact ⟨by rw [HF.out];rfl,rfl⟩
   ·rw [hE] at kO
    have HF:Hid (r=allIt (Z.drop (k+1))):=by rw [Hid,HR.out,HM.out,hE];rfl
    clear HM HR hE
    go_wp2_with fail
    refine (kO _).mono ?_
    rintro e w1 ⟨rfl,rfl⟩
    go_wp2
    go_roundw
    case rel=>exact ⟨k+1,by omega,by go_num,HF,by first | rfl | trivial⟩
    case measure=>simp [Go.RowKit.intOf];omega
  ·obtain rfl:k=n:=by omega
   have HF:Hid (r=true):=by rw [Hid,HR.out,List.drop_of_length_le (by omega)];rfl
   clear HR
   go_wp2
   go_ret
   exact ⟨by rw [HF.out];rfl,rfl⟩

theorem implVmOf_long9 (s:ByteArray) (w:World) (hs:s.size≤maxLen) (h:65536<s.size) :
  Calls Tryz.prog 85 #[.string s] w fun e w'=>e=.returned (.tuple #[.agg #[.slice none 0 0,.slice none 0 0,.slice none 0 0,.slice none 0 0],.int .i64 2])∧Below w.heap.size w w':=by
 unfold maxLen at hs
 have h2:(65536:Int)<(s.size:Int):=by omega
 go_enter Tryz.func85,Tryz.ntmps85
 go_wp2
 refine bodyPost_ret (results_blk2 Tryz.results85 _ _ _ _ _ _ rfl (Blk.new w 129 [.slice none 0 0,.slice none 0 0,.slice none 0 0,.slice none 0 0]) Tryz.underlying129 rfl (by kernel_rfl)) rfl ?_
 exact ⟨rfl,by go_grown⟩
def KeyC (s:ByteArray) (c:Int):Prop:=(keyOk9 s=true∧c=0)∨(keyOk9 s=false∧(c=2∨c=3))
theorem implVmOf_any (s:ByteArray) (w:World) (hs:s.size≤maxLen) (hV:VmShape w) :
  Calls Tryz.prog 85 #[.string s] w fun e w'=>(∃ z c,KeyC s c∧VmGot e w' w.heap.size z c)∧Below w.heap.size w w':=by
 by_cases hl:65536<s.size
 ·refine (implVmOf_long9 s w hs hl).mono ?_
  rintro e w' ⟨rfl,hb⟩
  have e9:keyOk9 s=false:=by unfold keyOk9;rw [decide_eq_false (by omega)];rfl
  exact ⟨⟨_,2,.inr ⟨e9,.inl rfl⟩,VmGot.mk9 ((none,0,0),(none,0,0),(none,0,0),(none,0,0)) rfl (ownV_nil _ _)⟩,hb⟩
 ·refine (implVmOf_is s w (by omega) hV).mono ?_
  rintro e w' ⟨hg,hb⟩
  refine ⟨⟨_,_,?_,hg⟩,hb⟩
  unfold KeyC vmOfC keyOk9
  rw [if_neg hl]
  by_cases h15:s.size=15
  ·rw [if_neg (fun h=>h h15),decide_eq_true h15,Bool.true_and]
   cases shapeOk (bytesV s)
   ·exact .inr ⟨rfl,.inr rfl⟩
   ·exact .inl ⟨rfl,rfl⟩
  ·rw [if_pos h15,decide_eq_false h15,Bool.false_and]
   exact .inr ⟨rfl,.inr rfl⟩

theorem entryBugsOK_is (a:Option Addr) (n cap:Nat) (xs:List I3) (w:World) (h:Instrs w a n cap xs) :
  Calls Tryz.prog 86 #[.slice a n cap] w fun e w'=>e=.returned (.bool (decide (xs.length≤30) && riseB xs))∧Below w.heap.size w w':=by
 rw [riseB_split]
 have hl:=h.1
 have kR:=fun W (hb:Below w.heap.size w W)=>risesB_is a n cap xs W (h.below hb)
 rw [hl]
 by_cases h30:n≤30
 ·have kB:=bugsOK_is a n cap xs w h (by omega)
  rw [decide_eq_true h30,Bool.true_and]
  have h3:(n:Int)≤30:=by omega
  generalize upB xs=u at *
  cases hO:okBs xs
  ·rw [hO] at kB
   rw [Bool.false_and]
   clear hO
   go_enter Tryz.func86,Tryz.ntmps86
   go_wp2_with fail
   refine kB.mono ?_
   rintro e w1 ⟨rfl,hb⟩
   go_wp2
   go_ret
   exact ⟨rfl,hb⟩
  ·rw [hO] at kB
   rw [Bool.true_and]
   clear hO
   go_enter Tryz.func86,Tryz.ntmps86
   go_wp2_with fail
   refine kB.mono ?_
   rintro e w1 ⟨rfl,hb⟩
   go_wp2_with fail
   refine (kR _ hb).mono ?_
   rintro e w2 ⟨rfl,hb2⟩
   replace hb:=bel8 hb hb2
   go_wp2
   go_ret
   exact ⟨rfl,hb⟩
 ·rw [decide_eq_false h30,Bool.false_and]
  have h3:¬ (n:Int)≤30:=by omega
  clear kR
  go_enter Tryz.func86,Tryz.ntmps86
  go_wp2
  go_ret
  exact ⟨rfl,Below.refl _ _⟩

theorem implEntryOK_is (e:E3) (s:Sl2) (w:World) (h:Emem w s e) (hV:VmShape w) :
  Calls Tryz.prog 26 #[entV e.1 s] w fun x w'=>x=.returned (.bool (entOk e))∧Below w.heap.size w w':=by
 obtain ⟨⟨hk,_⟩,hB,hF,hfw⟩:=h
 obtain ⟨ek,eb,ez⟩:=e
 obtain ⟨⟨a1,n1,c1⟩,⟨a2,n2,c2⟩⟩:=s
 unfold entV
 simp only at *
 have bw:Below w.heap.size w (w.alloc (.cells #[.string ek,.slice a1 n1 c1,.slice a2 n2 c2] 45)):=by go_grown
 have kK:=implVmOf_any ek _ hk (hV.below bw)
 have kR:=fun W (hb:Below w.heap.size w W)=>entryBugsOK_is a1 n1 c1 eb W (hB.below hb)
 have kI:=fun W (hb:Below w.heap.size w W)=>itemsOK9 a2 n2 c2 ez W (hF.below hb) hfw
 have kU:=fun W (hb:Below w.heap.size w W)=>risesI_is a2 n2 c2 ez W (hF.below hb)
 have pA:Blk (w.alloc (.cells #[.string ek,.slice a1 n1 c1,.slice a2 n2 c2] 45)) w.heap.size 45 [.string ek,.slice a1 n1 c1,.slice a2 n2 c2]:=blkAt _ _ _ rfl
 obtain ⟨fin,hfin⟩:∃ fin,fin=entOk (ek,eb,ez):=⟨_,rfl⟩
 rw [← hfin]
 have HF:Hid (fin=(keyOk9 ek && (decide (eb.length≤30) && riseB eb) && (allIt ez && upI ez))):=by
  rw [Hid,hfin,entOk]
  simp only
  rw [riseI_split]
  cases keyOk9 ek<;>cases riseB eb<;>cases allIt ez<;>cases upI ez<;>simp
 clear hfin hB hF hfw hV
 generalize (decide (eb.length≤30) && riseB eb)=rb at *
 generalize allIt ez=ai at *
 generalize upI ez=ui at *
 go_enter Tryz.func26,Tryz.ntmps26
 go_wp2_with fail
 refine kK.mono ?_
 rintro x w1 ⟨⟨z,c,hc,⟨⟨t0a,t0n,t0c⟩,⟨t1a,t1n,t1c⟩,⟨t2a,t2n,t2c⟩,⟨t3a,t3n,t3c⟩⟩,rfl,_⟩,hb⟩
 have ut:S4.val ((t0a,t0n,t0c),(t1a,t1n,t1c),(t2a,t2n,t2c),(t3a,t3n,t3c))=.agg #[.slice t0a t0n t0c,.slice t1a t1n t1c,.slice t2a t2n t2c,.slice t3a t3n t3c]:=rfl
 rw [ut]
 clear ut kK
 have bA:Below w1.heap.size w1 (w1.alloc (.cells #[.slice t0a t0n t0c,.slice t1a t1n t1c,.slice t2a t2n t2c,.slice t3a t3n t3c] 129)):=by go_grown
 replace bw:=bel8 bw (bel8 hb bA)
 replace pA:=pA.below (bel8 hb bA)
 clear hb bA
 have y1:=pA.cell 1
 simp only [List.getElem?_cons_zero,List.getElem?_cons_succ] at y1
 rcases hc with ⟨hK,rfl⟩ | ⟨hK,hc⟩
 ·rw [hK,Bool.true_and] at HF
  clear hK
  go_wp2_with fail
  generalize (w1.alloc (.cells #[.slice t0a t0n t0c,.slice t1a t1n t1c,.slice t2a t2n t2c,.slice t3a t3n t3c] 129))=U at *
  refine (kR _ bw).mono ?_
  rintro x w2 ⟨rfl,hb⟩
  replace bw:=bel8 bw hb
  replace pA:=pA.below hb
  clear hb kR y1
  have y2:=pA.cell 2
  simp only [List.getElem?_cons_zero,List.getElem?_cons_succ] at y2
  cases rb
  ·have HR:Hid (fin=false):=HF.out
   clear HF kI kU
   go_wp2
   go_ret
   exact ⟨by rw [HR.out];rfl,bw⟩
  ·rw [Bool.true_and] at HF
   go_wp2_with fail
   refine (kI _ bw).mono ?_
   rintro x w3 ⟨rfl,rfl⟩
   cases ai
   ·have HR:Hid (fin=false):=HF.out
    clear HF kI kU
    go_wp2
    go_ret
    exact ⟨by rw [HR.out];rfl,bw⟩
   ·rw [Bool.true_and] at HF
    go_wp2_with fail
    refine (kU _ bw).mono ?_
    rintro x w4 ⟨rfl,hb⟩
    replace bw:=bel8 bw hb
    clear hb kI kU y2 pA
    go_wp2
    go_ret
    exact ⟨by rw [HF.out];rfl,bw⟩
 ·have HR:Hid (fin=false):=by rw [Hid,HF.out,hK];rfl
  clear HF hK kR kI kU
  rcases hc with rfl | rfl
  ·go_wp2
   go_ret
   exact ⟨by rw [HR.out];rfl,bw⟩
  ·go_wp2
   go_ret
   exact ⟨by rw [HR.out];rfl,bw⟩


theorem memoTable_is (a:Option Addr) (n cap:Nat) (w:World) :
  Calls Tryz.prog 73 #[.agg #[.slice a n cap]] w fun e w'=>e=.returned (.agg #[.slice a n cap])∧Below w.heap.size w w':=by
 have pR:Blk ((w.alloc (.cells #[.slice a n cap] 33)).alloc (.cells #[.slice none 0 0] 114)) (w.heap.size+1) 114 [.slice none 0 0]:=blkAt _ _ _ (by simp)
 have r0:=pR.cell 0
 have fr0:=pR.frozen 0
 have pZ:=pR.set 0 (.slice a n cap)
 simp only [List.set_cons_zero] at pZ
 have z0:=pZ.cell 0
 simp only [List.getElem?_cons_zero] at z0 r0
 clear pR pZ
 go_enter Tryz.func73,Tryz.ntmps73
 go_wp2
 refine bodyPost_ret (by simp [results,Tryz.results73,go_sem,z0];try rfl) rfl ?_
 exact ⟨rfl,by go_grown⟩
theorem tableRight_is (a:Option Addr) (n cap:Nat) (es:List E3) (w:World) (h:Ents w a n cap es) :
  Calls Tryz.prog 89 #[.agg #[.slice a n cap]] w fun e w'=>e=.returned (.bool (upE es))∧Below w.heap.size w w':=by
 have bu:Below w.heap.size w (w.alloc (.cells #[.slice a n cap] 114)):=by go_grown
 have k:=risesE_is a n cap es _ (h.below bu)
 go_enter Tryz.func89,Tryz.ntmps89
 go_wp2_with fail
 refine k.mono ?_
 rintro e w1 ⟨rfl,hb⟩
 replace bu:=bel8 bu hb
 go_wp2
 go_ret
 exact ⟨rfl,bu⟩

theorem implMemoOK_is (a:Option Addr) (n cap:Nat) (es:List E3) (w:World) (h:Ents w a n cap es) (hV:VmShape w) :
  Calls Tryz.prog 27 #[.agg #[.slice a n cap]] w fun e w'=>e=.returned (.bool (memOk es))∧Below w.heap.size w w':=by
 rw [memOk_split]
 have hl:=h.1
 rw [hl]
 have bu:Below w.heap.size w (w.alloc (.cells #[.slice a n cap] 33)):=by go_grown
 have g0:(w.alloc (.cells #[.slice a n cap] 33)).cell? ⟨w.heap.size,0,none⟩=some (.slice a n cap):=by first | (simp [go_sem];done) | (simp [World.cell?];done)
 by_cases h2:n≤2000
 ·rw [decide_eq_true h2,Bool.true_and]
  have h3:¬ (2000:Int)<(n:Int):=by omega
  have kT:=fun W=>memoTable_is a n cap W
  have kU:=fun W (hb:Below w.heap.size w W)=>tableRight_is a n cap es W (h.below hb)
  obtain ⟨r,hr⟩:∃ r,r=(allE es && upE es):=⟨_,rfl⟩
  rw [← hr]
  have HR:Hid (r=(allE (es.drop 0) && upE es)):=by rw [Hid];simpa using hr
  clear hr
  generalize upE es=ue at *
  go_enter Tryz.func27,Tryz.ntmps27
  go_wp2_with fail
  generalize (w.alloc (.cells #[.slice a n cap] 33))=U at *
  go_loopw [12] (fun si wr=>∃ k:Nat,k≤n∧si=.int .i64 k∧Hid (r=(allE (es.drop k) && ue))∧Below U.heap.size U wr) (fun si _=>n - (intOf si).toNat)
  case atStart=>exact ⟨0,by omega,rfl,HR,Below.refl _ _⟩
  case round =>
   clear HR
   obtain ⟨k,hk,rfl,HR,bw⟩:=hrel
   have bx:Below w.heap.size w wr:=bel8 bu bw
   by_cases hlt:k<n
   ·obtain ⟨_,_,_,hcase⟩:=h.below bx
    rcases hcase with e0 | ⟨b,off,rfl,hb,hc⟩
    ·omega
    obtain ⟨s,x0,x1,x2,hm⟩:=hc k hlt
    clear hc hb
    have hst:=allE_drop (es:=es) (k:=k) (by omega)
    have kE:=fun W (hb:Below wr.heap.size wr W)=>implEntryOK_is (es.getD k e3d) s W (hm.below hb) ((hV.below bx).below hb)
    generalize es.getD k e3d=x at *
    have HS:Hid (allE (es.drop k)=(entOk x && allE (es.drop (k+1)))):=hst
    clear hst hm
    obtain ⟨xk,xb,xz⟩:=x
    obtain ⟨⟨a1,n1,c1⟩,⟨a2,n2,c2⟩⟩:=s
    unfold entV at kE
    simp only at x0 x1 x2 kE
    have hlt':(k:Int)<(n:Int):=by omega
    have hk0:(0:Int)≤(k:Int):=by omega
    cases hx:entOk (xk,xb,xz)
    ·have HF:Hid (r=false):=by rw [Hid,HR.out,HS.out,hx];rfl
     rw [hx] at kE
     clear hx HS HR
     go_wp2_with fail
     refine (kE _ (by go_grown)).mono ?_
     rintro e w1 ⟨rfl,hb1⟩
     have bw1:=bel8 bx (bel8 (by go_grown) hb1)
     clear hb1 x0 x1 x2 kE
     go_wp2
     go_ret
     exact ⟨by rw [HF.out];rfl,bw1⟩
    ·have HF:Hid (r=(allE (es.drop (k+1)) && ue)):=by rw [Hid,HR.out,HS.out,hx];rfl
     rw [hx] at kE
     clear hx HS HR
     go_wp2_with fail
     refine (kE _ (by go_grown)).mono ?_
     rintro e w1 ⟨rfl,hb1⟩
     have bw1:=bel8 bw (bel8 (by go_grown) hb1)
     clear hb1 x0 x1 x2 kE
     go_wp2
     go_roundw
     case rel=>exact ⟨k+1,by omega,by go_num,HF,bw1⟩
     case measure=>simp [intOf];omega
   ·obtain rfl:k=n:=by omega
    have HF:Hid (r=ue):=by rw [Hid,HR.out,List.drop_of_length_le (by omega)];rfl
    have g1:=cell8 bw g0
    clear HR
    go_wp2_with fail
    refine (kT _).mono ?_
    rintro e w1 ⟨rfl,hb1⟩
    replace bx:=bel8 bx hb1
    clear hb1 g1
    go_wp2_with fail
    refine (kU _ bx).mono ?_
    rintro e w2 ⟨rfl,hb1⟩
    replace bx:=bel8 bx hb1
    clear hb1
    go_wp2
    go_ret
    exact ⟨by rw [HF.out];rfl,bx⟩
 ·rw [decide_eq_false h2,Bool.false_and]
  have h3:(2000:Int)<(n:Int):=by omega
  go_enter Tryz.func27,Tryz.ntmps27
  go_wp2
  go_ret
  exact ⟨rfl,bu⟩
end Go.Proofs.YtbdfbdbpjijcdaaGreatDoor
