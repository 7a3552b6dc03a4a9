/-
  Joined: TchI.
-/
import Derived.Test.YthmgampabhbpoaaGreatDoorF34

namespace Go.Proofs.YthmgampabhbpoaaGreatDoor
set_option maxRecDepth 100000
set_option maxHeartbeats 16000000
open Go.RowKit
set_option linter.unusedVariables false
set_option linter.unusedSimpArgs false

theorem mem_drop8 {Z:List Int} {k:Nat} (h:k<Z.length) (y:Int):decide (y ∈ Z.drop k)=(decide (y=Z.getD k 0) || decide (y ∈ Z.drop (k+1))):=by
 have e:(y ∈ Z.drop k)↔(y=Z.getD k 0∨y ∈ Z.drop (k+1)):=by
  rw [List.drop_eq_getElem_cons h,List.mem_cons]
  simp only [List.getD,List.getElem?_eq_getElem h,Option.getD_some]
 simp only [e,Bool.decide_or]
theorem l07In8 (a:Option Addr) (n cap:Nat) (Z:List Int) (y:Int) (w:World) (h:Ints .i64 w a n cap Z) (hn:n≤1048576) :
  Calls Tryz.prog 114 #[.slice a n cap,.int .i64 y] w fun e w'=>e=.returned (.bool (decide (y ∈ Z)))∧w=w':=by
 have hl:=h.1
 obtain ⟨r,hr⟩:∃ r,r=decide (y ∈ Z):=⟨_,rfl⟩
 rw [← hr]
 have HR:Hid (r=decide (y ∈ Z.drop 0)):=by rw [Hid];simpa using hr
 clear hr
 go_enter Tryz.func114,Tryz.ntmps114
 go_wp2_with fail
 go_loopw [5] (fun si wr=>∃ k:Nat,k≤n∧si=.int .i64 k∧Hid (r=decide (y ∈ Z.drop k))∧w=wr) (fun si _=>n - (Go.RowKit.intOf si).toNat)
 case atStart=>exact ⟨0,by omega,rfl,HR,rfl⟩
 case round =>
  clear HR
  obtain ⟨k,hk,rfl,HR,rfl⟩:=hrel
  by_cases hlt:k<n
  ·have hm:=mem_drop8 (Z:=Z) (k:=k) (by omega) y
   obtain ⟨_,_,_,hcase⟩:=h
   rcases hcase with e0 | ⟨b,off,rfl,hb,hc⟩
   ·omega
   have d0:=hc k hlt
   clear hc hb
   generalize Z.getD k 0=x at d0 hm
   have HM:Hid (decide (y ∈ Z.drop k)=(decide (y=x) || decide (y ∈ Z.drop (k+1)))):=hm
   clear hm
   have hlt':(k:Int)<(n:Int):=by omega
   have hk0:(0:Int)≤(k:Int):=by omega
   by_cases hE:y=x
   ·subst hE
    have HF:Hid (r=true):=by rw [Hid,HR.out,HM.out];simp
    clear HM HR
    have q0:(y == y)=true:=by simp
    go_wp2
    go_ret
    exact ⟨by rw [HF.out];rfl,rfl⟩
   ·have HF:Hid (r=decide (y ∈ Z.drop (k+1))):=by rw [Hid,HR.out,HM.out];simp [hE]
    clear HM HR
    have q0:(x == y)=false:=by simp;exact fun e=>hE e.symm
    clear hE
    go_wp2
    go_roundw
    case rel=>exact ⟨k+1,by omega,by go_num,HF,by first | rfl | trivial⟩
    case measure=>simp [Go.RowKit.intOf];omega
  ·obtain rfl:k=n:=by omega
   have HF:Hid (r=false):=by rw [Hid,HR.out,List.drop_of_length_le (by omega)];simp
   clear HR
   go_wp2
   go_ret
   exact ⟨by rw [HF.out];rfl,rfl⟩

def tchB (xs ys:List Int):Bool:=xs.any (fun x=>decide (x ∈ ys))
theorem tchB_drop {xs ys:List Int} {k:Nat} (h:k<xs.length):tchB (xs.drop k) ys=(decide (xs.getD k 0 ∈ ys) || tchB (xs.drop (k+1)) ys):=by
 unfold tchB
 rw [List.drop_eq_getElem_cons h,List.any_cons]
 simp [List.getD,List.getElem?_eq_getElem h]
def tchV (xs ys:List Int):Bool:=decide (xs.length≤4096) && (decide (ys.length≤4096) && tchB xs ys)

theorem specTouches_is (a:Option Addr) (n c:Nat) (xs:List Int) (a':Option Addr) (n' c':Nat) (ys:List Int) (w:World) (h:Ints .i64 w a n c xs) (h':Ints .i64 w a' n' c' ys) (hn:n≤1048576) (hn':n'≤1048576) :
  Calls Tryz.prog 70 #[.slice a n c,.slice a' n' c'] w fun e w'=>e=.returned (.bool (tchV xs ys))∧w=w':=by
 have hl:=h.1
 have hl':=h'.1
 by_cases h1:4096<n
 ·rw [show tchV xs ys=false by unfold tchV;rw [show decide (xs.length≤4096)=false by simp;omega];rfl]
  go_enter Tryz.func70,Tryz.ntmps70
  go_wp2
  go_ret
  exact ⟨rfl,rfl⟩
 by_cases h2:4096<n'
 ·rw [show tchV xs ys=false by unfold tchV;rw [show decide (ys.length≤4096)=false by simp;omega,Bool.false_and,Bool.and_false]]
  go_enter Tryz.func70,Tryz.ntmps70
  go_wp2
  go_ret
  exact ⟨rfl,rfl⟩
 have e0:tchV xs ys=tchB xs ys:=by unfold tchV;rw [show decide (xs.length≤4096)=true by simp;omega,show decide (ys.length≤4096)=true by simp;omega];simp
 rw [e0]
 clear e0
 have kI:=fun x=>l07In8 a' n' c' ys x w h' hn'
 obtain ⟨r,hr⟩:∃ r,r=tchB xs ys:=⟨_,rfl⟩
 rw [← hr]
 have HR:Hid (r=tchB (xs.drop 0) ys):=by rw [Hid];simpa using hr
 clear hr
 go_enter Tryz.func70,Tryz.ntmps70
 go_wp2_with fail
 go_loopw [5] (fun si wr=>∃ k:Nat,k≤n∧si=.int .i64 k∧Hid (r=tchB (xs.drop k) ys)∧w=wr) (fun si _=>n - (Go.RowKit.intOf si).toNat)
 case atStart=>exact ⟨0,by omega,rfl,HR,rfl⟩
 case round =>
  clear HR
  obtain ⟨k,hk,rfl,HR,rfl⟩:=hrel
  by_cases hlt:k<n
  ·have hm:=tchB_drop (xs:=xs) (ys:=ys) (k:=k) (by omega)
   obtain ⟨_,_,_,hcase⟩:=h
   rcases hcase with e0 | ⟨b,off,rfl,hb,hc⟩
   ·omega
   have d0:=hc k hlt
   clear hc hb
   generalize xs.getD k 0=x at d0 hm
   have kO:=kI x
   have HM:Hid (tchB (xs.drop k) ys=(decide (x ∈ ys) || tchB (xs.drop (k+1)) ys)):=hm
   clear hm
   have hlt':(k:Int)<(n:Int):=by omega
   have hk0:(0:Int)≤(k:Int):=by omega
   cases hE:decide (x ∈ ys)
   ·rw [hE] at kO
    have HF:Hid (r=tchB (xs.drop (k+1)) ys):=by rw [Hid,HR.out,HM.out,hE];rfl
    clear HM HR hE
    go_wp2_with fail
    refine kO.mono ?_
    rintro e w1 ⟨rfl,rfl⟩
    go_wp2
    go_roundw
    case rel=>exact ⟨k+1,by omega,by go_num,HF,by first | rfl | trivial⟩
    case measure=>simp [Go.RowKit.intOf];omega
   ·rw [hE] at kO
    have HF:Hid (r=true):=by rw [Hid,HR.out,HM.out,hE];rfl
    clear HM HR hE
    go_wp2_with fail
    refine kO.mono ?_
    rintro e w1 ⟨rfl,rfl⟩
    go_wp2
    go_ret
    exact ⟨by rw [HF.out];rfl,rfl⟩
  ·obtain rfl:k=n:=by omega
   have HF:Hid (r=false):=by rw [Hid,HR.out,List.drop_of_length_le (by omega)];rfl
   clear HR
   go_wp2
   go_ret
   exact ⟨by rw [HF.out];rfl,rfl⟩

theorem implTouches_is (a:Option Addr) (n c:Nat) (xs:List Int) (a':Option Addr) (n' c':Nat) (ys:List Int) (w:World) (h:Ints .i64 w a n c xs) (h':Ints .i64 w a' n' c' ys) (hn:n≤1048576) (hn':n'≤1048576) (hw:wfs xs) (hw':wfs ys) :
  Calls Tryz.prog 11 #[.slice a n c,.slice a' n' c'] w fun e w'=>e=.returned (.bool (tchV xs ys))∧Below w.heap.size w w':=by
 have hl:=h.1
 have hl':=h'.1
 by_cases h1:4096<n
 ·rw [show tchV xs ys=false by unfold tchV;rw [show decide (xs.length≤4096)=false by simp;omega];rfl]
  go_enter Tryz.func11,Tryz.ntmps11
  go_wp2
  go_ret
  exact ⟨rfl,Below.refl _ _⟩
 by_cases h2:4096<n'
 ·rw [show tchV xs ys=false by unfold tchV;rw [show decide (ys.length≤4096)=false by simp;omega,Bool.false_and,Bool.and_false]]
  go_enter Tryz.func11,Tryz.ntmps11
  go_wp2
  go_ret
  exact ⟨rfl,Below.refl _ _⟩
 have e0:tchV xs ys=tchB xs ys:=by unfold tchV;rw [show decide (xs.length≤4096)=true by simp;omega,show decide (ys.length≤4096)=true by simp;omega];simp
 rw [e0]
 clear e0
 have b1:Below w.heap.size w (w.alloc (.cells #[.slice a' n' c'] 27)):=by go_grown
 have kM:=mapOf_is (some ⟨w.heap.size,0,none⟩) 1 1 [ys] _ (rows_one w h') (by omega) (by simp;omega) (fun x hx=>hw' x (by simpa using hx))
 have e9:[ys].flatten=ys:=by simp
 rw [e9] at kM
 clear e9
 obtain ⟨r,hr⟩:∃ r,r=tchB xs ys:=⟨_,rfl⟩
 rw [← hr]
 have HR:Hid (r=tchB (xs.drop 0) ys):=by rw [Hid];simpa using hr
 clear hr
 go_enter Tryz.func11,Tryz.ntmps11
 go_wp2_with fail
 refine kM.mono ?_
 rintro e w1 ⟨⟨rfl,D,hm,hS⟩,hb⟩
 replace hb:=bel8 b1 hb
 have h9:=h.below hb
 clear kM b1
 generalize (w.alloc (.cells #[.slice a' n' c'] 27)).heap.size=nb at *
 go_wp2_with fail
 go_loopw [23] (fun si wr=>∃ k:Nat,k≤n∧si=.int .i64 k∧Hid (r=tchB (xs.drop k) ys)∧w1=wr) (fun si _=>n - (Go.RowKit.intOf si).toNat)
 case atStart=>exact ⟨0,by omega,rfl,HR,rfl⟩
 case round =>
  clear HR
  obtain ⟨k,hk,rfl,HR,rfl⟩:=hrel
  by_cases hlt:k<n
  ·have hm9:=tchB_drop (xs:=xs) (ys:=ys) (k:=k) (by omega)
   have hx:=hw (xs.getD k 0) (by simp [List.getD,List.getElem?_eq_getElem (show k<xs.length by omega)])
   obtain ⟨_,_,_,hcase⟩:=h9
   rcases hcase with e0 | ⟨b,off,rfl,hb9,hc⟩
   ·omega
   have d0:=hc k hlt
   clear hc hb9
   generalize xs.getD k 0=x at d0 hm9 hx
   have hkey:=key_int8 hx
   have hH:=hS.has x
   have HM:Hid (tchB (xs.drop k) ys=(decide (x ∈ ys) || tchB (xs.drop (k+1)) ys)):=hm9
   clear hm9 hx
   have hlt':(k:Int)<(n:Int):=by omega
   have hk0:(0:Int)≤(k:Int):=by omega
   by_cases hE:x ∈ ys
   ·have HF:Hid (r=true):=by rw [Hid,HR.out,HM.out];simp [hE]
    have hT:Maps.has D (.int .i64 x)=true:=hH.2 hE
    clear HM HR hE hH
    go_wp2_with (at_lookup;refine wpList_lookup_own_ok_int _ rfl _ _ 69 rfl 3 3 .i64 law_int8 Tryz.underlying69 Tryz.underlying3 (zero_int8 _) nb ys.length D rfl hm _ _ rfl hkey ?_;intro cc hat hwc;rw [hT];clear hat hwc)
    go_ret
    exact ⟨by rw [HF.out];rfl,hb⟩
   ·have HF:Hid (r=tchB (xs.drop (k+1)) ys):=by rw [Hid,HR.out,HM.out];simp [hE]
    have hT:Maps.has D (.int .i64 x)=false:=by
     cases e:Maps.has D (.int .i64 x)
     ·rfl
     ·exact absurd (hH.1 e) hE
    clear HM HR hE hH
    go_wp2_with (at_lookup;refine wpList_lookup_own_ok_int _ rfl _ _ 69 rfl 3 3 .i64 law_int8 Tryz.underlying69 Tryz.underlying3 (zero_int8 _) nb ys.length D rfl hm _ _ rfl hkey ?_;intro cc hat hwc;rw [hT];clear hat hwc)
    go_roundw
    case rel=>exact ⟨k+1,by omega,by go_num,HF,by first | rfl | trivial⟩
    case measure=>simp [Go.RowKit.intOf];omega
  ·obtain rfl:k=n:=by omega
   have HF:Hid (r=false):=by rw [Hid,HR.out,List.drop_of_length_le (by omega)];rfl
   clear HR
   go_wp2
   go_ret
   exact ⟨by rw [HF.out];rfl,hb⟩

end Go.Proofs.YthmgampabhbpoaaGreatDoor
