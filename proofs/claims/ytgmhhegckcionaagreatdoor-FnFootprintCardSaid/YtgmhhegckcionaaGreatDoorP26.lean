/-
  Joined: RunS, SpGo, SpcO, ItmI, LokI, SetP, FotP.
-/
import Derived.Carry
import Derived.Test.YtgmhhegckcionaaGreatDoorP23

namespace Go.Proofs.YtgmhhegckcionaaGreatDoor
set_option maxRecDepth 100000
set_option maxHeartbeats 16000000
open Go.RowKit
set_option linter.unusedVariables false
set_option linter.unusedSimpArgs false

theorem ints_cellS {w:World} {a:Option Addr} {n c:Nat} {ks:List Int} (h:Ints .i64 w a n c ks) {i:Nat} (hi:i<n):∃ b off,a=some ⟨b,off,none⟩∧w.cell? ⟨b,off+i,none⟩=some (.int .i64 (ks.getD i 0))∧b<w.heap.size:=by
 obtain ⟨h1,h2,h3,h4⟩:=h
 rcases h4 with h4 | ⟨b,off,ha,hl,hc⟩
 ·omega
 ·exact ⟨b,off,ha,hc i hi,hl⟩


theorem own_slice6 {w:World} {B e s n:Nat} {v:Value} {xs:List Value} (h:w.ownsRow B e s v n xs):∃ a k c,v=.slice a k c:=by
 rcases h.2 with ⟨h1,h2⟩ | ⟨gq,cq,cur,h1,_⟩
 ·exact ⟨none,0,0,h1⟩
 ·exact ⟨_,_,_,h1⟩
theorem blk_range {w:World} {g t:Nat} {cs:List Value} (h:Blk w g t cs):w.rangeAt g 0 cs:=fun j v hj=>by rw [Nat.zero_add,h.cell];exact hj
theorem SpcD.belowK {w0 w w':World} {X nb d:Nat} {vs:Value} {cs:Sl × Sl × Sl} {M:V4→List I4} {L:List (Rec6 V4 × Value)} (h:SpcD w w0.heap.size nb vs cs M L d) (k:KeptS w w' X nb vs) (hX:w0.heap.size≤X) (b0:Below w0.heap.size w0 w):Below w0.heap.size w0 w':=
 b0.trans (k.below hX h.low (fun j e=>(own_lt3 h.row e).1) b0.size)


def fullM (rows:List (List I3)) (z:V4):List (Rec6 V4):=srch (nxM rows) 2000 0 [(z,0,0)]
structure OnSp (w wr:World) (X R nb:Nat) (vs:Value) (cs:Sl × Sl × Sl) (rows:List (List I3)) (z0:V4) (L:List (Rec6 V4 × Value)) (at9:Nat):Prop where
 sp:SpcD wr w.heap.size nb vs cs (mvsOf rows (fullM rows z0)) L at9
 bx:Blk wr X 84 [vs,.map (some nb)]
 br:Blk wr R 84 [.slice none 0 0,.map none]
 sh:Shaped (L.map (·.1))
 rn:srch (nxM rows) (2000 - at9) at9 (L.map (·.1))=fullM rows z0
 ln:L.length≤1+3*at9
 le:at9≤L.length
 a2:at9≤2000
 bl:Below w.heap.size w wr
theorem OnSp.go {w wr w':World} {X R nb:Nat} {vs vs':Value} {cs:Sl × Sl × Sl} {rows:List (List I3)} {z0:V4} {L L':List (Rec6 V4 × Value)} {at9:Nat} {r:Rec6 V4} {mv:Value} (h:OnSp w wr X R nb vs cs rows z0 L at9) (hr:L[at9]?=some (r,mv)) (hRX:R≠X) (hBX:w.heap.size≤X) (ha:at9<2000)
  (sp:SpcD w' w.heap.size nb vs' cs (mvsOf rows (fullM rows z0)) L' (at9+1)) (bx:Blk w' X 84 [vs',.map (some nb)]) (st:L'.map (·.1)=onS at9 (L.map (·.1)) (nxM rows r.1)) (sh:Shaped (L'.map (·.1))) (ln:L'.length≤L.length+3) (kp:KeptS wr w' X nb vs):OnSp w w' X R nb vs' cs rows z0 L' (at9+1):=by
 have hl:at9<L.length:=(List.getElem?_eq_some_iff.1 hr).1
 have hlm:at9<(L.map (·.1)).length:=by simpa using hl
 have hat:((L.map (·.1))[at9]'hlm)=r:=by
  have e:=(List.getElem?_eq_some_iff.1 hr).2
  simp [e]
 obtain ⟨D,hm,_⟩:=h.sp.map
 refine ⟨sp,bx,(kp.block R h.br.lt hRX (map_blk hm h.br) (own_ne_blk9 h.sp.row h.br (by decide))).trans h.br,sh,?_,by have:=h.ln;omega,?_,by omega,h.sp.belowK kp hBX h.bl⟩
 ·have e:=h.rn
  rw [show 2000 - at9=(1999 - at9)+1 by omega,srch_go hlm,hat,← st] at e
  rw [show 2000 - (at9+1)=1999 - at9 by omega]
  exact e
 ·have h2:=(onS_pre at9 (nxM rows r.1) (L.map (·.1))).length_le
  rw [← st] at h2
  simp at h2
  omega
theorem OnSp.pre {w wr:World} {X R nb:Nat} {vs:Value} {cs:Sl × Sl × Sl} {rows:List (List I3)} {z0:V4} {L:List (Rec6 V4 × Value)} {at9:Nat} {r:Rec6 V4} {mv:Value} (h:OnSp w wr X R nb vs cs rows z0 L at9) (hr:L[at9]?=some (r,mv)) (ha:at9<2000):onS at9 (L.map (·.1)) (nxM rows r.1) <+: fullM rows z0:=by
 have hl:at9<L.length:=(List.getElem?_eq_some_iff.1 hr).1
 have hlm:at9<(L.map (·.1)).length:=by simpa using hl
 have hat:((L.map (·.1))[at9]'hlm)=r:=by
  have e:=(List.getElem?_eq_some_iff.1 hr).2
  simp [e]
 have e:=h.rn
 rw [show 2000 - at9=(1999 - at9)+1 by omega,srch_go hlm,hat] at e
 rw [← e]
 exact srch_pre _ _ _ _


def inB8 (n a b:Int):Bool:=decide (a≤n∧n≤b)
theorem inB8_true {n a b:Int}:inB8 n a b=true↔a≤n∧n≤b:=by simp [inB8]
theorem inB8_false {n a b:Int}:inB8 n a b=false↔¬ (a≤n∧n≤b):=by simp only [inB8,decide_eq_false_iff_not]
theorem l01In8 (n a b:Int) (w:World):Calls Tryz.prog 77 #[.int .i64 n,.int .i64 a,.int .i64 b] w fun e w'=>e=.returned (.bool (inB8 n a b))∧w=w':=by
 cases h:inB8 n a b
 ·exact l01In_no n a b w (inB8_false.1 h)
 ·exact l01In_yes n a b w (inB8_true.1 h)

theorem isThread8 (n:Int) (w:World):Calls Tryz.prog 95 #[.int .i64 n] w fun e w'=>e=.returned (.bool (inB8 n 0 2))∧w=w':=by
 cases h:inB8 n 0 2
 ·rw [inB8_false] at h
  by_cases h1:0≤n
  ·have h2:decide (n<3)=false:=by simp;omega
   clear h
   go_enter Tryz.func95,Tryz.ntmps95
   go_wp2
   go_ret
   exact ⟨rfl,rfl⟩
  ·clear h
   go_enter Tryz.func95,Tryz.ntmps95
   go_wp2
   go_ret
   exact ⟨rfl,rfl⟩
 ·rw [inB8_true] at h
  obtain ⟨h1,h3⟩:=h
  have h2:decide (n<3)=true:=by simp;omega
  clear h3
  go_enter Tryz.func95,Tryz.ntmps95
  go_wp2
  go_ret
  exact ⟨by simp_all,rfl⟩

theorem isPlace8 (n:Int) (w:World):Calls Tryz.prog 96 #[.int .i64 n] w fun e w'=>e=.returned (.bool (inB8 n 0 6))∧w=w':=by
 cases h:inB8 n 0 6
 ·rw [inB8_false] at h
  by_cases h1:0≤n
  ·have h2:decide (n≤6)=false:=by simp;omega
   clear h
   go_enter Tryz.func96,Tryz.ntmps96
   go_wp2
   go_ret
   exact ⟨rfl,rfl⟩
  ·clear h
   go_enter Tryz.func96,Tryz.ntmps96
   go_wp2
   go_ret
   exact ⟨rfl,rfl⟩
 ·rw [inB8_true] at h
  obtain ⟨h1,h3⟩:=h
  have h2:decide (n≤6)=true:=by simp;omega
  clear h3
  go_enter Tryz.func96,Tryz.ntmps96
  go_wp2
  go_ret
  exact ⟨by simp_all,rfl⟩

def itemV (k pc:Int):Value:=if inB8 k 0 2=true∧inB8 pc 0 6=true then .tuple #[.int .i64 (8*k+pc),.int .i64 0] else .tuple #[.int .i64 0,.int .i64 4]
theorem itemV_yes {k pc:Int} (h1:inB8 k 0 2=true) (h2:inB8 pc 0 6=true):itemV k pc=.tuple #[.int .i64 (8*k+pc),.int .i64 0]:=if_pos ⟨h1,h2⟩
theorem itemV_no1 {k pc:Int} (h1:inB8 k 0 2=false):itemV k pc=.tuple #[.int .i64 0,.int .i64 4]:=if_neg (by rw [h1];simp)
theorem itemV_no2 {k pc:Int} (h2:inB8 pc 0 6=false):itemV k pc=.tuple #[.int .i64 0,.int .i64 4]:=if_neg (by rw [h2];simp)

theorem implItemOf_is (k pc:Int) (w:World):Calls Tryz.prog 60 #[.int .i64 k,.int .i64 pc] w fun e w'=>e=.returned (itemV k pc)∧w=w':=by
 have kT:=isThread8 k
 have kP:=isPlace8 pc
 cases hA:inB8 k 0 2
 ·rw [itemV_no1 hA]
  rw [hA] at kT
  clear hA
  go_enter Tryz.func60,Tryz.ntmps60
  go_wp2_with fail
  refine (kT _).mono ?_
  rintro e w1 ⟨rfl,rfl⟩
  go_wp2
  go_ret2
  exact ⟨rfl,rfl⟩
 ·cases hB:inB8 pc 0 6
  ·rw [itemV_no2 hB]
   rw [hA] at kT
   rw [hB] at kP
   clear hA hB
   go_enter Tryz.func60,Tryz.ntmps60
   go_wp2_with fail
   refine (kT _).mono ?_
   rintro e w1 ⟨rfl,rfl⟩
   go_wp2_with fail
   refine (kP _).mono ?_
   rintro e w1 ⟨rfl,rfl⟩
   go_wp2
   go_ret2
   exact ⟨rfl,rfl⟩
  ·rw [itemV_yes hA hB]
   rw [hA] at kT
   rw [hB] at kP
   obtain ⟨a1,a2⟩:=inB8_true.1 hA
   obtain ⟨b1,b2⟩:=inB8_true.1 hB
   clear hA hB
   have q1:IntKind.i64.wrap (8*k)=8*k:=by rw [IntKind.wrap_i64];omega
   have q2:IntKind.i64.wrap (8*k+pc)=8*k+pc:=by rw [IntKind.wrap_i64];omega
   go_enter Tryz.func60,Tryz.ntmps60
   go_wp2_with fail
   refine (kT _).mono ?_
   rintro e w1 ⟨rfl,rfl⟩
   go_wp2_with fail
   refine (kP _).mono ?_
   rintro e w1 ⟨rfl,rfl⟩
   go_wp2
   go_ret2
   exact ⟨rfl,rfl⟩

def itOk (n:Int):Bool:=decide (0≤n∧n≤22∧n % 8≤6)
def atV (n:Int):Value:=if itOk n=true then .tuple #[.int .i64 (n / 8),.int .i64 (n % 8),.int .i64 0] else .tuple #[.int .i64 0,.int .i64 0,.int .i64 4]
theorem atV_yes {n:Int} (h:itOk n=true):atV n=.tuple #[.int .i64 (n / 8),.int .i64 (n % 8),.int .i64 0]:=if_pos h
theorem atV_no {n:Int} (h:itOk n=false):atV n=.tuple #[.int .i64 0,.int .i64 0,.int .i64 4]:=if_neg (by rw [h];simp)

theorem quo8 (n:Int) (h:-9223372036854775808≤n∧n≤9223372036854775807):∃ q r:Int,n.tdiv 8=q∧n.tmod 8=r∧IntKind.i64.wrap q=q∧IntKind.i64.wrap r=r∧itOk n=(inB8 q 0 2 && inB8 r 0 6)∧(itOk n=true→q=n / 8∧r=n % 8)∧(0≤n→q=n / 8∧r=n % 8):=by
 rcases Int.lt_or_le n 0 with hn | hn
 ·have e1:n.tdiv 8=- ((-n) / 8):=by
   have:n=- (- n):=by omega
   rw [this,Int.neg_tdiv,Int.tdiv_eq_ediv_of_nonneg (by omega)];omega
  have e2:n.tmod 8=- ((-n) % 8):=by
   have:n=- (- n):=by omega
   rw [this,Int.neg_tmod,Int.tmod_eq_emod_of_nonneg (by omega)];omega
  refine ⟨_,_,e1,e2,by rw [IntKind.wrap_i64];omega,by rw [IntKind.wrap_i64];omega,?_,?_,by omega⟩
  ·have hz:itOk n=false:=by simp only [itOk,decide_eq_false_iff_not];omega
   rw [hz]
   symm
   rw [Bool.and_eq_false_iff]
   rcases Int.lt_or_le ((-n) / 8) 1 with h1 | h1
   ·right;rw [inB8_false];omega
   ·left;rw [inB8_false];omega
  ·intro hz
   simp only [itOk,decide_eq_true_eq] at hz
   omega
 ·have e1:n.tdiv 8=n / 8:=Int.tdiv_eq_ediv_of_nonneg hn
  have e2:n.tmod 8=n % 8:=Int.tmod_eq_emod_of_nonneg hn
  refine ⟨_,_,e1,e2,by rw [IntKind.wrap_i64];omega,by rw [IntKind.wrap_i64];omega,?_,fun _=>⟨rfl,rfl⟩,fun _=>⟨rfl,rfl⟩⟩
  rw [Bool.eq_iff_iff,Bool.and_eq_true,inB8_true,inB8_true]
  simp only [itOk,decide_eq_true_eq]
  omega

theorem implItemAt_is (n:Int) (hn:-9223372036854775808≤n∧n≤9223372036854775807) (w:World):Calls Tryz.prog 99 #[.int .i64 n] w fun e w'=>e=.returned (atV n)∧w=w':=by
 obtain ⟨q,r,e1,e2,u1,u2,hOk,hYes,_⟩:=quo8 n hn
 clear hn
 have kT:=isThread8 q
 have kP:=isPlace8 r
 cases hA:inB8 q 0 2
 ·rw [atV_no (by rw [hOk,hA];rfl)]
  rw [hA] at kT
  clear hA hOk hYes
  go_enter Tryz.func99,Tryz.ntmps99
  go_wp2_with fail
  refine (kT _).mono ?_
  rintro e w1 ⟨rfl,rfl⟩
  go_wp2
  go_ret3
  exact ⟨rfl,rfl⟩
 ·cases hB:inB8 r 0 6
  ·rw [atV_no (by rw [hOk,hA,hB];rfl)]
   rw [hA] at kT
   rw [hB] at kP
   clear hA hB hOk hYes
   go_enter Tryz.func99,Tryz.ntmps99
   go_wp2_with fail
   refine (kT _).mono ?_
   rintro e w1 ⟨rfl,rfl⟩
   go_wp2_with fail
   refine (kP _).mono ?_
   rintro e w1 ⟨rfl,rfl⟩
   go_wp2
   go_ret3
   exact ⟨rfl,rfl⟩
  ·have hz:itOk n=true:=by rw [hOk,hA,hB];rfl
   rw [atV_yes hz]
   obtain ⟨f1,f2⟩:=hYes hz
   rw [hA] at kT
   rw [hB] at kP
   rw [← f1,← f2]
   clear hA hB hOk hYes hz f1 f2
   go_enter Tryz.func99,Tryz.ntmps99
   go_wp2_with fail
   refine (kT _).mono ?_
   rintro e w1 ⟨rfl,rfl⟩
   go_wp2_with fail
   refine (kP _).mono ?_
   rintro e w1 ⟨rfl,rfl⟩
   go_wp2
   go_ret3
   exact ⟨rfl,rfl⟩

theorem l08OK_is (n:Int) (hn:-9223372036854775808≤n∧n≤9223372036854775807) (w:World):Calls Tryz.prog 66 #[.int .i64 n] w fun e w'=>e=.returned (.bool (itOk n))∧w=w':=by
 rcases Int.lt_or_le n 0 with h0 | h0
 ·have hz:itOk n=false:=by simp only [itOk,decide_eq_false_iff_not];omega
  rw [hz]
  clear hz hn
  have g0:decide (0≤n)=false:=by simp;omega
  go_enter Tryz.func66,Tryz.ntmps66
  go_wp2
  go_ret
  exact ⟨rfl,rfl⟩
 ·obtain ⟨q,r,e1,e2,u1,u2,hOk,_,hPos⟩:=quo8 n hn
  clear hn
  have hr0:0≤r:=by have:=(hPos h0).2;omega
  have kT:=l01In8 q 0 2
  rw [hOk]
  cases hA:inB8 q 0 2
  ·rw [hA] at kT
   clear hA hOk hPos
   go_enter Tryz.func66,Tryz.ntmps66
   go_wp2_with fail
   refine (kT _).mono ?_
   rintro e w1 ⟨rfl,rfl⟩
   go_wp2
   go_ret
   exact ⟨rfl,rfl⟩
  ·rw [hA] at kT
   cases hB:inB8 r 0 6
   ·have h2:decide (r≤6)=false:=by have:=inB8_false.1 hB;simp;omega
    clear hA hB hOk hPos
    go_enter Tryz.func66,Tryz.ntmps66
    go_wp2_with fail
    refine (kT _).mono ?_
    rintro e w1 ⟨rfl,rfl⟩
    go_wp2
    go_ret
    exact ⟨rfl,rfl⟩
   ·have h2:decide (r≤6)=true:=by have:=inB8_true.1 hB;simp;omega
    clear hA hB hOk hPos
    go_enter Tryz.func66,Tryz.ntmps66
    go_wp2_with fail
    refine (kT _).mono ?_
    rintro e w1 ⟨rfl,rfl⟩
    go_wp2
    go_ret
    exact ⟨by simp_all,rfl⟩

theorem isItem_is (n:Int) (hn:-9223372036854775808≤n∧n≤9223372036854775807) (w:World):Calls Tryz.prog 62 #[.int .i64 n] w fun e w'=>e=.returned (.bool (itOk n))∧w=w':=by
 have kO:=implItemAt_is n hn
 clear hn
 cases hA:itOk n
 ·rw [atV_no hA] at kO
  clear hA
  go_enter Tryz.func62,Tryz.ntmps62
  go_wp2_with fail
  refine (kO _).mono ?_
  rintro e w1 ⟨rfl,rfl⟩
  go_wp2
  go_ret
  exact ⟨rfl,rfl⟩
 ·rw [atV_yes hA] at kO
  clear hA
  go_enter Tryz.func62,Tryz.ntmps62
  go_wp2_with fail
  refine (kO _).mono ?_
  rintro e w1 ⟨rfl,rfl⟩
  go_wp2
  go_ret
  exact ⟨rfl,rfl⟩

theorem in_wf8 {n:Int} (h:(Lit.int .i64 n).wf=true):-9223372036854775808≤n∧n≤9223372036854775807:=by
 have h1:IntKind.i64.min=-9223372036854775808:=by decide
 have h2:IntKind.i64.max=9223372036854775807:=by decide
 simp [Lit.wf,h1,h2] at h
 omega


def lookM (m:V4):List Int:=[m.1.getD 0 0,8+m.1.getD 1 0,16+m.1.getD 2 0]
theorem look_ok {m:V4} (hs:shapeOk m=true):∀ z ∈ lookM m,itOk z=true:=by
 obtain ⟨h,_⟩:=shape_bounds hs
 obtain ⟨hl,_⟩:=shape_parts hs
 have hp:∀ k,k<3→0≤m.1.getD k 0∧m.1.getD k 0≤6:=fun k hk=>h _ (by simp [List.getD,List.getElem?_eq_getElem (show k<m.1.length by omega)])
 have p0:=hp 0 (by omega)
 have p1:=hp 1 (by omega)
 have p2:=hp 2 (by omega)
 intro z hz
 simp only [lookM,List.mem_cons,List.not_mem_nil,or_false] at hz
 simp only [itOk,decide_eq_true_eq]
 rcases hz with rfl | rfl | rfl<;>omega
theorem pcs_ok {m:V4} (hs:shapeOk m=true) {k:Nat} (hk:k<3):inB8 (m.1.getD k 0) 0 6=true:=by
 obtain ⟨h,_⟩:=shape_bounds hs
 obtain ⟨hl,_⟩:=shape_parts hs
 exact inB8_true.2 (h _ (by simp [List.getD,List.getElem?_eq_getElem (show k<m.1.length by omega)]))
def lookR (p0 p1 p2:Int) (k:Nat):List Int:=[p0,8+p1,16+p2].take k
theorem looks_raw (g o:Nat) (a0 a1 a2:Option Addr) (n0 d0 n1 d1 n2 d2:Nat) (p0 x0 y0 p1 x1 y1 p2 x2 y2:Int) (w:World) (h:w.rangeAt g o [.slice a0 n0 d0,.int .i64 p0,.int .i64 x0,.int .i64 y0,.slice a1 n1 d1,.int .i64 p1,.int .i64 x1,.int .i64 y1,.slice a2 n2 d2,.int .i64 p2,.int .i64 x2,.int .i64 y2]) (f0:inB8 p0 0 6=true) (f1:inB8 p1 0 6=true) (f2:inB8 p2 0 6=true) :
  Calls Tryz.prog 132 #[.pointer (some ⟨g,o,none⟩)] w fun e w'=>RowGot e w' w.heap.size [p0,8+p1,16+p2]∧Below w.heap.size w w':=by
 obtain ⟨i0,hi,hz0,hz1,hz2⟩:=info_parts info_int
 have k0:=@idxT_0
 have k1:=@idxT_1
 have k2:=@idxT_2
 go_enter Tryz.func132,Tryz.ntmps132
 go_wp2_with (refine wpList_load_mid rfl 95 _ rfl g o rfl [.slice a0 n0 d0,.int .i64 p0,.int .i64 x0,.int .i64 y0,.slice a1 n1 d1,.int .i64 p1,.int .i64 x1,.int .i64 y1,.slice a2 n2 d2,.int .i64 p2,.int .i64 x2,.int .i64 y2] _ h Tryz.underlying95 rfl (by kernel_rfl) ?_)
 clear h
 go_loopw [3,12] (fun so si wr=>∃ (k:Nat) (v:Value),v=so∧k≤3∧si=.int .i64 k∧wr.ownsRow w.heap.size 3 1 v k ((lookR p0 p1 p2 k).map (Value.int .i64))∧Below w.heap.size w wr) (fun _ si _=>3 - (Go.RowKit.intOf si).toNat)
 case atStart=>exact ⟨0,_,rfl,by omega,rfl,World.ownsRow_nil _ _ _ _,Below.refl _ _⟩
 case round =>
  obtain ⟨k,so,rfl,hk,rfl,q,bw⟩:=hrel
  have hk4:k=0∨k=1∨k=2∨k=3:=by omega
  rcases hk4 with rfl | rfl | rfl | rfl
  ·clear k1 k2
   have pN:=Blk.new wr 94 [.slice none 0 0,.int .i64 0,.int .i64 0,.int .i64 0]
   have bN:Below wr.heap.size wr (wr.alloc (.cells #[.slice none 0 0,.int .i64 0,.int .i64 0,.int .i64 0] 94)):=by go_grown
   have kI:=implItemOf_is 0 p0
   rw [itemV_yes (by decide) f0,show 8*(0:Int)+p0=p0 by omega] at kI
   go_wp2_with (refine wpList_store_blk rfl 94 _ _ rfl wr.heap.size [.slice a0 n0 d0,.int .i64 p0,.int .i64 x0,.int .i64 y0] rfl rfl pN (by kernel_rfl) rfl rfl ?_)
   intro w2 p2x g2
   have pM:=p2x.out
   have b2:Below wr.heap.size wr w2:=bN.grown g2 bN.size (fun k e=>by cases e;exact Nat.le_refl _)
   have q2:=owns8 q b2
   have bw2:=bel8 bw b2
   have hc1:w2.cell? ⟨wr.heap.size,1,none⟩=some (.int .i64 p0):=by simpa using pM.cell 1
   have hsz:=bw2.size
   clear p2x g2 bN pN b2 q pM bw
   generalize wr.heap.size=G at *
   go_wp2_with fail
   refine (kI _).mono ?_
   rintro e w3 ⟨rfl,rfl⟩
   clear kI
   go_wp2_with (at_builtin;refine wpList_append_own _ rfl _ _ 36 rfl w.heap.size 3 i0 (.int .i64 0) 1 8 Tryz.underlying36 hi hz0 hz1 hz2 rfl (by decide) _ _ _ rfl (q2.alloc _) ⟨w2.heap.size,0,none⟩ 1 1 [.int .i64 p0] rfl rfl (cell_one_new _ _ _) (by simp [Value.oneCell']) ?c3 ?c4 ?c5 ?_)
   case c3=>unfold maxLen;omega
   case c4=>omega
   case c5=>simp;omega
   intro v' wn hown' hgrow _
   have bn:Below w.heap.size w wn:=(bw2.alloc hsz _).grown hgrow (by simp;omega) (fun k hk=>(q2.lt k hk).1)
   clear hgrow q2 bw2 hc1
   go_wp2
   go_roundw
   case rel =>
    have R9:wn.ownsRow w.heap.size 3 1 v' 1 ((lookR p0 p1 p2 1).map (Value.int .i64)):=by exact hown'
    first | exact ⟨1,_,rfl,by omega,by go_num,R9,bn⟩ | exact ⟨_,_,_,_,_,_,_,_,_,_,_,_,_,_,_,_,_,_,_,_,_,⟨1,_,rfl,by omega,by go_num,R9,bn⟩,rfl⟩
   case measure=>first | (simp [Go.RowKit.intOf];done) | decide
  ·clear k0 k2
   have pN:=Blk.new wr 94 [.slice none 0 0,.int .i64 0,.int .i64 0,.int .i64 0]
   have bN:Below wr.heap.size wr (wr.alloc (.cells #[.slice none 0 0,.int .i64 0,.int .i64 0,.int .i64 0] 94)):=by go_grown
   have kI:=implItemOf_is 1 p1
   rw [itemV_yes (by decide) f1,show 8*(1:Int)+p1=8+p1 by omega] at kI
   go_wp2_with (refine wpList_store_blk rfl 94 _ _ rfl wr.heap.size [.slice a1 n1 d1,.int .i64 p1,.int .i64 x1,.int .i64 y1] rfl rfl pN (by kernel_rfl) rfl rfl ?_)
   intro w2 p2x g2
   have pM:=p2x.out
   have b2:Below wr.heap.size wr w2:=bN.grown g2 bN.size (fun k e=>by cases e;exact Nat.le_refl _)
   have q2:=owns8 q b2
   have bw2:=bel8 bw b2
   have hc1:w2.cell? ⟨wr.heap.size,1,none⟩=some (.int .i64 p1):=by simpa using pM.cell 1
   have hsz:=bw2.size
   clear p2x g2 bN pN b2 q pM bw
   generalize wr.heap.size=G at *
   go_wp2_with fail
   refine (kI _).mono ?_
   rintro e w3 ⟨rfl,rfl⟩
   clear kI
   generalize hzz:8+p1=zz at *
   go_wp2_with (at_builtin;refine wpList_append_own _ rfl _ _ 36 rfl w.heap.size 3 i0 (.int .i64 0) 1 8 Tryz.underlying36 hi hz0 hz1 hz2 rfl (by decide) _ _ _ rfl (q2.alloc _) ⟨w2.heap.size,0,none⟩ 1 1 [.int .i64 zz] rfl rfl (cell_one_new _ _ _) (by simp [Value.oneCell']) ?c3 ?c4 ?c5 ?_)
   case c3=>unfold maxLen;omega
   case c4=>omega
   case c5=>simp;omega
   intro v' wn hown' hgrow _
   have bn:Below w.heap.size w wn:=(bw2.alloc hsz _).grown hgrow (by simp;omega) (fun k hk=>(q2.lt k hk).1)
   clear hgrow q2 bw2 hc1
   go_wp2
   go_roundw
   case rel =>
    have R9:wn.ownsRow w.heap.size 3 1 v' 2 ((lookR p0 p1 p2 2).map (Value.int .i64)):=by subst hzz;exact hown'
    first | exact ⟨2,_,rfl,by omega,by go_num,R9,bn⟩ | exact ⟨_,_,_,_,_,_,_,_,_,_,_,_,_,_,_,_,_,_,_,_,_,⟨2,_,rfl,by omega,by go_num,R9,bn⟩,rfl⟩
   case measure=>first | (simp [Go.RowKit.intOf];done) | decide
  ·clear k0 k1
   have pN:=Blk.new wr 94 [.slice none 0 0,.int .i64 0,.int .i64 0,.int .i64 0]
   have bN:Below wr.heap.size wr (wr.alloc (.cells #[.slice none 0 0,.int .i64 0,.int .i64 0,.int .i64 0] 94)):=by go_grown
   have kI:=implItemOf_is 2 p2
   rw [itemV_yes (by decide) f2,show 8*(2:Int)+p2=16+p2 by omega] at kI
   go_wp2_with (refine wpList_store_blk rfl 94 _ _ rfl wr.heap.size [.slice a2 n2 d2,.int .i64 p2,.int .i64 x2,.int .i64 y2] rfl rfl pN (by kernel_rfl) rfl rfl ?_)
   intro w2 p2x g2
   have pM:=p2x.out
   have b2:Below wr.heap.size wr w2:=bN.grown g2 bN.size (fun k e=>by cases e;exact Nat.le_refl _)
   have q2:=owns8 q b2
   have bw2:=bel8 bw b2
   have hc1:w2.cell? ⟨wr.heap.size,1,none⟩=some (.int .i64 p2):=by simpa using pM.cell 1
   have hsz:=bw2.size
   clear p2x g2 bN pN b2 q pM bw
   generalize wr.heap.size=G at *
   go_wp2_with fail
   refine (kI _).mono ?_
   rintro e w3 ⟨rfl,rfl⟩
   clear kI
   generalize hzz:16+p2=zz at *
   go_wp2_with (at_builtin;refine wpList_append_own _ rfl _ _ 36 rfl w.heap.size 3 i0 (.int .i64 0) 1 8 Tryz.underlying36 hi hz0 hz1 hz2 rfl (by decide) _ _ _ rfl (q2.alloc _) ⟨w2.heap.size,0,none⟩ 1 1 [.int .i64 zz] rfl rfl (cell_one_new _ _ _) (by simp [Value.oneCell']) ?c3 ?c4 ?c5 ?_)
   case c3=>unfold maxLen;omega
   case c4=>omega
   case c5=>simp;omega
   intro v' wn hown' hgrow _
   have bn:Below w.heap.size w wn:=(bw2.alloc hsz _).grown hgrow (by simp;omega) (fun k hk=>(q2.lt k hk).1)
   clear hgrow q2 bw2 hc1
   go_wp2
   go_roundw
   case rel =>
    have R9:wn.ownsRow w.heap.size 3 1 v' 3 ((lookR p0 p1 p2 3).map (Value.int .i64)):=by subst hzz;exact hown'
    first | exact ⟨3,_,rfl,by omega,by go_num,R9,bn⟩ | exact ⟨_,_,_,_,_,_,_,_,_,_,_,_,_,_,_,_,_,_,_,_,_,⟨3,_,rfl,by omega,by go_num,R9,bn⟩,rfl⟩
   case measure=>first | (simp [Go.RowKit.intOf];done) | decide
  ·obtain ⟨ga,gc,rfl⟩:=some8 q (by omega)
   clear k0 k1 k2
   go_wp2
   go_ret
   exact ⟨⟨_,rfl,q⟩,bw⟩
theorem looks_is (g o:Nat) (cs:Sl × Sl × Sl) (m:V4) (w:World) (h:w.rangeAt g o (machCells cs.1.val cs.2.1.val cs.2.2.val m)) (hs:shapeOk m=true) :
  Calls Tryz.prog 132 #[.pointer (some ⟨g,o,none⟩)] w fun e w'=>RowGot e w' w.heap.size (lookM m)∧Below w.heap.size w w':=by
 obtain ⟨⟨a0,n0,d0⟩,⟨a1,n1,d1⟩,⟨a2,n2,d2⟩⟩:=cs
 refine looks_raw g o a0 a1 a2 n0 d0 n1 d1 n2 d2 (m.1.getD 0 0) (m.2.2.2.getD 0 0) (m.2.2.2.getD 1 0) (m.1.getD 1 0) (m.2.2.2.getD 2 0) (m.2.2.2.getD 3 0) (m.1.getD 2 0) (m.2.2.2.getD 4 0) (m.2.2.2.getD 5 0) w (fun j v hj=>?_) (pcs_ok hs (by omega)) (pcs_ok hs (by omega)) (pcs_ok hs (by omega))
 refine h j v ?_
 have hl:=(List.getElem?_eq_some_iff.1 hj).1
 simp only [List.length_cons,List.length_nil] at hl
 match j,hl with
 | 0,_=>exact hj
 | 1,_=>exact hj
 | 2,_=>exact hj
 | 3,_=>exact hj
 | 4,_=>exact hj
 | 5,_=>exact hj
 | 6,_=>exact hj
 | 7,_=>exact hj
 | 8,_=>exact hj
 | 9,_=>exact hj
 | 10,_=>exact hj
 | 11,_=>exact hj


def putI:List Int→Int→List Int
 | [],n=>[n]
 | x::xs,n=>if x<n then x::putI xs n else if x=n then x::xs else n::x::xs
def mrgI (xs:List Int):List Int:=xs.foldl putI []
theorem putI_mem:∀ (xs:List Int) (n y:Int),y ∈ putI xs n↔y=n∨y ∈ xs
 | [],n,y=>by simp [putI]
 | x::xs,n,y=>by
  unfold putI
  split
  ·simp only [List.mem_cons,putI_mem xs n y]
   constructor
   ·rintro (h | h | h)
    ·exact .inr (.inl h)
    ·exact .inl h
    ·exact .inr (.inr h)
   ·rintro (h | h | h)
    ·exact .inr (.inl h)
    ·exact .inl h
    ·exact .inr (.inr h)
  ·split
   ·rename_i h
    subst h
    simp
   ·simp
theorem putI_rises:∀ (xs:List Int) (n:Int),xs.Pairwise (· < ·)→(putI xs n).Pairwise (· < ·)
 | [],n,_=>by simp [putI]
 | x::xs,n,h=>by
  obtain ⟨h1,h2⟩:=List.pairwise_cons.1 h
  unfold putI
  split
  ·rename_i hx
   refine List.pairwise_cons.2 ⟨fun y hy=>?_,putI_rises xs n h2⟩
   rcases (putI_mem xs n y).1 hy with rfl | hy
   ·exact hx
   ·exact h1 y hy
  ·split
   ·exact h
   ·refine List.pairwise_cons.2 ⟨fun y hy=>?_,h⟩
    rcases List.mem_cons.1 hy with rfl | hy
    ·omega
    ·have:=h1 y hy
     omega
theorem foldl_putI:∀ (xs acc:List Int),acc.Pairwise (· < ·)→(xs.foldl putI acc).Pairwise (· < ·)∧∀ y,y ∈ xs.foldl putI acc↔y ∈ acc∨y ∈ xs
 | [],acc,h=>⟨h,fun y=>by simp⟩
 | x::xs,acc,h=>by
  obtain ⟨h1,h2⟩:=foldl_putI xs (putI acc x) (putI_rises acc x h)
  refine ⟨h1,fun y=>?_⟩
  rw [List.foldl_cons,h2,putI_mem,List.mem_cons]
  constructor
  ·rintro ((h | h) | h)
   ·exact .inr (.inl h)
   ·exact .inl h
   ·exact .inr (.inr h)
  ·rintro (h | h | h)
   ·exact .inl (.inr h)
   ·exact .inl (.inl h)
   ·exact .inr h
theorem mrgI_rises (xs:List Int):(mrgI xs).Pairwise (· < ·):=(foldl_putI xs [] List.Pairwise.nil).1
theorem mrgI_mem (xs:List Int) (y:Int):y ∈ mrgI xs↔y ∈ xs:=by
 have:=(foldl_putI xs [] List.Pairwise.nil).2 y
 simpa [mrgI] using this
theorem rises_nodup {xs:List Int} (h:xs.Pairwise (· < ·)):xs.Nodup:=h.imp (fun h e=>by subst e;exact absurd h (by omega))
theorem rises_eq {xs ys:List Int} (h:xs.Pairwise (· < ·)) (h':ys.Pairwise (· < ·)) (hm:∀ y,y ∈ xs↔y ∈ ys):xs=ys:=by
 have hp:xs.Perm ys:=(List.perm_ext_iff_of_nodup (rises_nodup h) (rises_nodup h')).2 hm
 exact hp.eq_of_pairwise (le:=fun a b=>a<b) (fun a b _ _ h1 h2=>absurd h1 (by omega)) h h'
theorem putI_len (xs:List Int) (n:Int):(putI xs n).length≤xs.length+1:=by
 induction xs with
 | nil=>simp [putI]
 | cons x xs ih =>
  unfold putI
  split
  ·simp;omega
  ·split<;>simp
theorem foldl_putI_len:∀ (xs acc:List Int),(xs.foldl putI acc).length≤acc.length+xs.length
 | [],acc=>by simp
 | x::xs,acc=>by
  have:=foldl_putI_len xs (putI acc x)
  have:=putI_len acc x
  simp
  omega
theorem mrgI_len (xs:List Int):(mrgI xs).length≤xs.length:=by simpa [mrgI] using foldl_putI_len xs []


theorem fullM_shaped {rows:List (List I3)} (hp:progOk rows=true) {m:V4} (hs:shapeOk m=true):Shaped (fullM rows m):=srch_shaped hp _ _ _ (fun r hr=>by simp at hr;subst hr;exact hs)
theorem fullM_head (rows:List (List I3)) (m:V4):(fullM rows m)[0]?=some (m,0,0):=by
 have h:=srch_pre (nxM rows) 2000 0 [(m,0,0)]
 obtain ⟨t,ht⟩:=h
 unfold fullM
 rw [← ht]
 rfl
theorem fullM_nodup (rows:List (List I3)) (m:V4):((fullM rows m).map (·.1)).Nodup:=srch_nodup _ _ _ (by simp)
theorem fullM_came (rows:List (List I3)) (m:V4):Came (nxM rows) (fullM rows m):=srch_came _ _ _ (fun j r hj hr=>by
 have:=(List.getElem?_eq_some_iff.1 hr).1
 simp at this
 omega)
theorem fullM_closed {rows:List (List I3)} {m:V4} (h:(fullM rows m).length≤2000):∀ r ∈ fullM rows m,∀ t ∈ nxM rows r.1,t.2 ∈ (fullM rows m).map (·.1):=
 srch_closed 2000 0 [(m,0,0)] (fun j r hj=>by omega) (by simp) (by rw [Nat.zero_add];exact h)
theorem fullM_ind {rows:List (List I3)} {m:V4} (C:V4→Prop) (h0:C m) (hC:∀ x,C x→∀ t ∈ nxM rows x,C t.2):∀ r ∈ fullM rows m,C r.1:=by
 have hh:=fullM_head rows m
 have hc:=fullM_came rows m
 have key:∀ (n j:Nat) (r:Rec6 V4),j≤n→(fullM rows m)[j]?=some r→C r.1:=by
  intro n
  induction n with
  | zero =>
   intro j r hj hr
   have:j=0:=by omega
   subst this
   rw [hh] at hr
   cases hr
   exact h0
  | succ n ih =>
   intro j r hj hr
   rcases Nat.eq_zero_or_pos j with rfl | hp
   ·rw [hh] at hr
    cases hr
    exact h0
   ·obtain ⟨h1,q,h2,h3⟩:=hc j r hp hr
    exact hC q.1 (ih _ q (by omega) h2) _ h3
 intro r hr
 obtain ⟨j,hj,e⟩:=List.getElem_of_mem hr
 exact key j j r (Nat.le_refl _) (by rw [List.getElem?_eq_getElem hj,e])
end Go.Proofs.YtgmhhegckcionaaGreatDoor
