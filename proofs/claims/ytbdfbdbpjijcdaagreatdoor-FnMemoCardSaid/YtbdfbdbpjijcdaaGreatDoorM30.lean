/-
  Joined: ItmI, ItsD.
-/
import Derived.Test.YtbdfbdbpjijcdaaGreatDoorM29

namespace Go.Proofs.YtbdfbdbpjijcdaaGreatDoor
set_option maxRecDepth 100000
set_option maxHeartbeats 16000000
open Go.RowKit
set_option linter.unusedVariables false

def inB8 (n a b:Int):Bool:=decide (a≤n∧n≤b)
theorem inB8_true {n a b:Int}:inB8 n a b=true↔a≤n∧n≤b:=by simp [inB8]
theorem inB8_false {n a b:Int}:inB8 n a b=false↔¬ (a≤n∧n≤b):=by simp only [inB8,decide_eq_false_iff_not]
theorem l01In8 (n a b:Int) (w:World):Calls Tryz.prog 164 #[.int .i64 n,.int .i64 a,.int .i64 b] w fun e w'=>e=.returned (.bool (inB8 n a b))∧w=w':=by
 cases h:inB8 n a b
 ·exact l01In_no n a b w (inB8_false.1 h)
 ·exact l01In_yes n a b w (inB8_true.1 h)

theorem isThread8 (n:Int) (w:World):Calls Tryz.prog 189 #[.int .i64 n] w fun e w'=>e=.returned (.bool (inB8 n 0 2))∧w=w':=by
 cases h:inB8 n 0 2
 ·rw [inB8_false] at h
  by_cases h1:0≤n
  ·have h2:decide (n<3)=false:=by simp;omega
   clear h
   go_enter Tryz.func189,Tryz.ntmps189
   go_wp2
   go_ret
   exact ⟨rfl,rfl⟩
  ·clear h
   go_enter Tryz.func189,Tryz.ntmps189
   go_wp2
   go_ret
   exact ⟨rfl,rfl⟩
 ·rw [inB8_true] at h
  obtain ⟨h1,h3⟩:=h
  have h2:decide (n<3)=true:=by simp;omega
  clear h3
  go_enter Tryz.func189,Tryz.ntmps189
  go_wp2
  go_ret
  exact ⟨by simp_all,rfl⟩

theorem isPlace8 (n:Int) (w:World):Calls Tryz.prog 190 #[.int .i64 n] w fun e w'=>e=.returned (.bool (inB8 n 0 6))∧w=w':=by
 cases h:inB8 n 0 6
 ·rw [inB8_false] at h
  by_cases h1:0≤n
  ·have h2:decide (n≤6)=false:=by simp;omega
   clear h
   go_enter Tryz.func190,Tryz.ntmps190
   go_wp2
   go_ret
   exact ⟨rfl,rfl⟩
  ·clear h
   go_enter Tryz.func190,Tryz.ntmps190
   go_wp2
   go_ret
   exact ⟨rfl,rfl⟩
 ·rw [inB8_true] at h
  obtain ⟨h1,h3⟩:=h
  have h2:decide (n≤6)=true:=by simp;omega
  clear h3
  go_enter Tryz.func190,Tryz.ntmps190
  go_wp2
  go_ret
  exact ⟨by simp_all,rfl⟩

theorem l08Item_is (k pc:Int) (w:World) (h1:inB8 k 0 2=true) (h2:inB8 pc 0 6=true):Calls Tryz.prog 203 #[.int .i64 k,.int .i64 pc] w fun e w'=>e=.returned (.int .i64 (8*k+pc))∧w=w':=by
 obtain ⟨a1,a2⟩:=inB8_true.1 h1
 obtain ⟨b1,b2⟩:=inB8_true.1 h2
 clear h1 h2
 have q1:IntKind.i64.wrap (8*k)=8*k:=by rw [IntKind.wrap_i64];omega
 have q2:IntKind.i64.wrap (8*k+pc)=8*k+pc:=by rw [IntKind.wrap_i64];omega
 go_enter Tryz.func203,Tryz.ntmps203
 go_wp2
 go_ret
 exact ⟨rfl,rfl⟩

def itOk (n:Int):Bool:=decide (0≤n∧n≤22∧n % 8≤6)
def atV (n:Int):Value:=if itOk n=true then .tuple #[.int .i64 (n / 8),.int .i64 (n % 8),.int .i64 0] else .tuple #[.int .i64 0,.int .i64 0,.int .i64 4]
theorem atV_yes {n:Int} (h:itOk n=true):atV n=.tuple #[.int .i64 (n / 8),.int .i64 (n % 8),.int .i64 0]:=if_pos h
theorem atV_no {n:Int} (h:itOk n=false):atV n=.tuple #[.int .i64 0,.int .i64 0,.int .i64 4]:=if_neg (by rw [h];simp)

theorem quo8 (n:Int) (h:-9223372036854775808≤n∧n≤9223372036854775807):∃ q r:Int,n.tdiv 8=q∧n.tmod 8=r∧IntKind.i64.wrap q=q∧IntKind.i64.wrap r=r∧itOk n=(inB8 q 0 2 && inB8 r 0 6)∧(itOk n=true→q=n / 8∧r=n % 8)∧(0≤n→q=n / 8∧r=n % 8):=by
 rcases Int.lt_or_le n 0 with hn | hn
 ·have e1:n.tdiv 8=- ((-n) / 8):=by
   have:n=- (- n):=by omega
   rw [this,Int.neg_tdiv,Int.tdiv_eq_ediv_of_nonneg (by omega)];omega
  have e2:n.tmod 8=- ((-n) % 8):=by
   have:n=- (- n):=by omega
   rw [this,Int.neg_tmod,Int.tmod_eq_emod_of_nonneg (by omega)];omega
  refine ⟨_,_,e1,e2,by rw [IntKind.wrap_i64];omega,by rw [IntKind.wrap_i64];omega,?_,?_,by omega⟩
  ·have hz:itOk n=false:=by simp only [itOk,decide_eq_false_iff_not];omega
   rw [hz]
   symm
   rw [Bool.and_eq_false_iff]
   rcases Int.lt_or_le ((-n) / 8) 1 with h1 | h1
   ·right;rw [inB8_false];omega
   ·left;rw [inB8_false];omega
  ·intro hz
   simp only [itOk,decide_eq_true_eq] at hz
   omega
 ·have e1:n.tdiv 8=n / 8:=Int.tdiv_eq_ediv_of_nonneg hn
  have e2:n.tmod 8=n % 8:=Int.tmod_eq_emod_of_nonneg hn
  refine ⟨_,_,e1,e2,by rw [IntKind.wrap_i64];omega,by rw [IntKind.wrap_i64];omega,?_,fun _=>⟨rfl,rfl⟩,fun _=>⟨rfl,rfl⟩⟩
  rw [Bool.eq_iff_iff,Bool.and_eq_true,inB8_true,inB8_true]
  simp only [itOk,decide_eq_true_eq]
  omega

theorem implItemAt_is (n:Int) (hn:-9223372036854775808≤n∧n≤9223372036854775807) (w:World):Calls Tryz.prog 191 #[.int .i64 n] w fun e w'=>e=.returned (atV n)∧w=w':=by
 obtain ⟨q,r,e1,e2,u1,u2,hOk,hYes,_⟩:=quo8 n hn
 clear hn
 have kT:=isThread8 q
 have kP:=isPlace8 r
 cases hA:inB8 q 0 2
 ·rw [atV_no (by rw [hOk,hA];rfl)]
  rw [hA] at kT
  clear hA hOk hYes
  go_enter Tryz.func191,Tryz.ntmps191
  go_wp2_with fail
  refine (kT _).mono ?_
  rintro e w1 ⟨rfl,rfl⟩
  go_wp2
  go_ret3
  exact ⟨rfl,rfl⟩
 ·cases hB:inB8 r 0 6
  ·rw [atV_no (by rw [hOk,hA,hB];rfl)]
   rw [hA] at kT
   rw [hB] at kP
   clear hA hB hOk hYes
   go_enter Tryz.func191,Tryz.ntmps191
   go_wp2_with fail
   refine (kT _).mono ?_
   rintro e w1 ⟨rfl,rfl⟩
   go_wp2_with fail
   refine (kP _).mono ?_
   rintro e w1 ⟨rfl,rfl⟩
   go_wp2
   go_ret3
   exact ⟨rfl,rfl⟩
  ·have hz:itOk n=true:=by rw [hOk,hA,hB];rfl
   rw [atV_yes hz]
   obtain ⟨f1,f2⟩:=hYes hz
   rw [hA] at kT
   rw [hB] at kP
   rw [← f1,← f2]
   clear hA hB hOk hYes hz f1 f2
   go_enter Tryz.func191,Tryz.ntmps191
   go_wp2_with fail
   refine (kT _).mono ?_
   rintro e w1 ⟨rfl,rfl⟩
   go_wp2_with fail
   refine (kP _).mono ?_
   rintro e w1 ⟨rfl,rfl⟩
   go_wp2
   go_ret3
   exact ⟨rfl,rfl⟩

theorem l08OK_is (n:Int) (hn:-9223372036854775808≤n∧n≤9223372036854775807) (w:World):Calls Tryz.prog 129 #[.int .i64 n] w fun e w'=>e=.returned (.bool (itOk n))∧w=w':=by
 rcases Int.lt_or_le n 0 with h0 | h0
 ·have hz:itOk n=false:=by simp only [itOk,decide_eq_false_iff_not];omega
  rw [hz]
  clear hz hn
  have g0:decide (0≤n)=false:=by simp;omega
  go_enter Tryz.func129,Tryz.ntmps129
  go_wp2
  go_ret
  exact ⟨rfl,rfl⟩
 ·obtain ⟨q,r,e1,e2,u1,u2,hOk,_,hPos⟩:=quo8 n hn
  clear hn
  have hr0:0≤r:=by have:=(hPos h0).2;omega
  have kT:=l01In8 q 0 2
  rw [hOk]
  cases hA:inB8 q 0 2
  ·rw [hA] at kT
   clear hA hOk hPos
   go_enter Tryz.func129,Tryz.ntmps129
   go_wp2_with fail
   refine (kT _).mono ?_
   rintro e w1 ⟨rfl,rfl⟩
   go_wp2
   go_ret
   exact ⟨rfl,rfl⟩
  ·rw [hA] at kT
   cases hB:inB8 r 0 6
   ·have h2:decide (r≤6)=false:=by have:=inB8_false.1 hB;simp;omega
    clear hA hB hOk hPos
    go_enter Tryz.func129,Tryz.ntmps129
    go_wp2_with fail
    refine (kT _).mono ?_
    rintro e w1 ⟨rfl,rfl⟩
    go_wp2
    go_ret
    exact ⟨rfl,rfl⟩
   ·have h2:decide (r≤6)=true:=by have:=inB8_true.1 hB;simp;omega
    clear hA hB hOk hPos
    go_enter Tryz.func129,Tryz.ntmps129
    go_wp2_with fail
    refine (kT _).mono ?_
    rintro e w1 ⟨rfl,rfl⟩
    go_wp2
    go_ret
    exact ⟨by simp_all,rfl⟩

theorem isItem_is (n:Int) (hn:-9223372036854775808≤n∧n≤9223372036854775807) (w:World):Calls Tryz.prog 126 #[.int .i64 n] w fun e w'=>e=.returned (.bool (itOk n))∧w=w':=by
 have kO:=implItemAt_is n hn
 clear hn
 cases hA:itOk n
 ·rw [atV_no hA] at kO
  clear hA
  go_enter Tryz.func126,Tryz.ntmps126
  go_wp2_with fail
  refine (kO _).mono ?_
  rintro e w1 ⟨rfl,rfl⟩
  go_wp2
  go_ret
  exact ⟨rfl,rfl⟩
 ·rw [atV_yes hA] at kO
  clear hA
  go_enter Tryz.func126,Tryz.ntmps126
  go_wp2_with fail
  refine (kO _).mono ?_
  rintro e w1 ⟨rfl,rfl⟩
  go_wp2
  go_ret
  exact ⟨rfl,rfl⟩

theorem in_wf8 {n:Int} (h:(Lit.int .i64 n).wf=true):-9223372036854775808≤n∧n≤9223372036854775807:=by
 have h1:IntKind.i64.min=-9223372036854775808:=by decide
 have h2:IntKind.i64.max=9223372036854775807:=by decide
 simp [Lit.wf,h1,h2] at h
 omega


theorem items_any (p T:Nat) (a:Option Addr) (n cap:Nat) (w:World) (hS:Src w p (.slice a n cap) T) (hC:Code w p a n cap) (hT:T≤700000) :
  Calls Tryz.prog 140 #[.pointer (some ⟨p,0,none⟩)] w fun e w'=>(∃ (v:Value) (zs:List Int),zs.length≤5∧(∀ z ∈ zs,itOk z=true)∧e=.returned v∧w'.ownsRow w.heap.size 3 1 v zs.length (zs.map (Value.int .i64)))∧Src w' p (.slice a n cap) (T+100)∧Went p w w':=by
 obtain ⟨i0,hi,hz0,hz1,hz2⟩:=info_parts info_int
 have hp:=Nat.le_of_lt hS.lt
 have hpl:=hS.lt
 have hSB:=hS.alloc (.cells #[] 3)
 have hCB:=hC.went (World.grownBy_alloc w (.cells #[] 3) (some p)) hp
 have hO:(w.alloc (.cells #[] 3)).ownsRow w.heap.size 3 1 (.slice (some ⟨w.heap.size,0,none⟩) 0 0) 0 []:=World.ownsRow_lit w #[] 0 (Nat.le_refl _) (by unfold maxLen;omega) rfl
 go_enter Tryz.func140,Tryz.ntmps140
 go_wp2_with fail
 refine (next_any p T a n cap 6 _ hSB hCB (by omega) (by omega)).mono ?_
 rintro e w1 ⟨⟨v1,hv1,rfl⟩,hS1,hW1⟩
 have hv8:v1<6:=by omega
 have hC1:=hCB.went hW1 (Nat.le_of_lt hSB.lt)
 have hO1:=owns_went hO hW1 hpl
 have hWW:Went p w w1:=(World.grownBy_alloc w (.cells #[] 3) (some p):Went p w _).trans hW1
 clear hO hW1 hSB hCB hv1
 go_wp2
 go_loopw [3,4] (fun so si wr=>∃ (j l:Nat) (zs:List Int),j+l=v1∧zs.length=l∧(∀ z ∈ zs,itOk z=true)∧si=.int .i64 j∧wr.ownsRow w.heap.size 3 1 so l (zs.map (Value.int .i64))∧Src wr p (.slice a n cap) (T+3+6*l)∧Code wr p a n cap∧Went p w wr) (fun _ si _=>(Go.RowKit.intOf si).toNat)
 case atStart=>exact ⟨v1,0,[],by omega,rfl,by simp,rfl,hO1,hS1,hC1,hWW⟩
 case round =>
  obtain ⟨j,l,zs,hjl,hzl,hz,rfl,hr,hSr,hCr,hW⟩:=hrel
  have HZ:Hid ((∀ z ∈ zs,itOk z=true)∧zs.length=l∧j+l=v1):=⟨hz,hzl,hjl⟩
  have hl7:l≤5:=by omega
  have hj7:j≤5:=by omega
  clear hz
  by_cases hlt:0<j
  ·go_wp2_with fail
   refine (next_any p (T+3+6*l) a n cap 3 _ hSr hCr (by omega) (by omega)).mono ?_
   rintro e wa ⟨⟨ka,hka,rfl⟩,hSa,hWa⟩
   have hCa:=hCr.went hWa (Nat.le_of_lt hSr.lt)
   have hka':ka<3:=by omega
   go_wp2_with fail
   refine (next_any p (T+3+6*l+3) a n cap 5 _ hSa hCa (by omega) (by omega)).mono ?_
   rintro e w2 ⟨⟨kb,hkb,rfl⟩,hS2,hWb⟩
   have hkb':kb<5:=by omega
   have hC2:=hCa.went hWb (Nat.le_of_lt hSa.lt)
   have hW2:=hWa.trans hWb
   have hr1:=owns_went hr hW2 hpl
   clear hSa hWa hWb hCa hka hkb
   have kIt:=l08Item_is (ka:Int) (kb:Int) w2 (inB8_true.2 (by omega)) (inB8_true.2 (by omega))
   go_wp2_with fail
   refine kIt.mono ?_
   rintro e w9 ⟨rfl,rfl⟩
   have hz:itOk (8*(ka:Int)+(kb:Int))=true:=by simp only [itOk,decide_eq_true_eq];omega
   clear kIt
   generalize 8*(ka:Int)+(kb:Int)=z at hz ⊢
   clear hka' hkb'
   have hWW2:=hW.trans hW2
   have hsz:=hWW2.size
   clear hr hSr hCr hW hW2 hjl hzl
   go_wp2_with (at_builtin;refine wpList_append_own _ rfl _ _ 36 rfl w.heap.size 3 i0 (.int .i64 0) 1 8 Tryz.underlying36 hi hz0 hz1 hz2 rfl (by decide) _ _ _ rfl (hr1.alloc _) ⟨w2.heap.size,0,none⟩ 1 1 [.int .i64 (z:Int)] rfl rfl (cell_one_new _ _ _) (one_i64' _) ?c3 ?c4 ?c5 ?_)
   case c3=>unfold maxLen;omega
   case c4=>omega
   case c5=>simp;omega
   intro v' w3 hown' hgrow _
   have R:w3.ownsRow w.heap.size 3 1 v' (l+1) ((zs++[(z:Int)]).map (Value.int .i64)):=by simpa using hown'
   have hS3:Src w3 p (.slice a n cap) (T+3+6*(l+1)):=((hS2.alloc _).grown hgrow (fun k hk=>by have:=(hr1.lt k hk).1;omega)).mono (by omega)
   have hW3:Went p w w3:=(hWW2.alloc _).grown hgrow (fun k hk=>(hr1.lt k hk).1)
   have hC3:Code w3 p a n cap:=hC2.below (((Below.refl p w2).alloc (Nat.le_of_lt hS2.lt) _).grown hgrow (by simp;have:=hS2.lt;omega) (fun k hk=>by have:=(hr1.lt k hk).1;omega))
   clear hown' hgrow hr1 hS2 hC2 hWW2
   go_wp2
   go_roundw
   case rel =>
    refine ⟨j - 1,l+1,zs++[(z:Int)],by have:=HZ.out.2.2;omega,by simp [HZ.out.2.1],?_,by go_num,R,hS3,hC3,hW3⟩
    intro y hy
    rcases List.mem_append.1 hy with h | h
    ·exact HZ.out.1 y h
    ·simp at h;rw [h];exact hz
   case measure=>simp [Go.RowKit.intOf];omega
  ·obtain rfl:j=0:=by omega
   rw [← hzl] at hr
   have HR:Hid (wr.ownsRow w.heap.size 3 1 u3 zs.length (zs.map (Value.int .i64))):=hr
   have hS':Src wr p (.slice a n cap) (T+100):=hSr.mono (by omega)
   clear hCr hr hSr hjl hzl
   go_wp2
   go_ret
   exact ⟨⟨_,zs,by rw [HZ.out.2.1];exact hl7,HZ.out.1,rfl,HR.out⟩,hS',hW⟩

end Go.Proofs.YtbdfbdbpjijcdaaGreatDoor
