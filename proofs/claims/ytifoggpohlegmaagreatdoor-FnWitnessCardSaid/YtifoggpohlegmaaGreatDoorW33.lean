/-
  Joined: PthP, PthQ.
-/
import Derived.Test.YtifoggpohlegmaaGreatDoorW24

namespace Go.Proofs.YtifoggpohlegmaaGreatDoor
set_option maxRecDepth 100000
set_option maxHeartbeats 16000000
set_option linter.unusedVariables false

def pathL (fs bs:List Int):Nat→Nat→List Int
 | 0,_=>[]
 | f+1,j=>if j=0 then [] else pathL fs bs f (fs.getD j 0).toNat++[bs.getD j 0]
def Back (fs:List Int):Prop:=∀ j,0<j→j<fs.length→0≤fs.getD j 0∧fs.getD j 0<(j:Int)
theorem pathL_fuel {fs bs:List Int} (hB:Back fs):∀ (f j:Nat),j≤f→j<fs.length→pathL fs bs f j=pathL fs bs j j
 | 0, j, h, hl => by obtain rfl : j = 0 := by omega
                     rfl
 | f+1,j,h,hl=>by
  cases j with
  | zero=>simp [pathL]
  | succ j =>
   have hb:=hB (j+1) (by omega) hl
   unfold pathL
   simp only [if_neg (Nat.succ_ne_zero j)]
   rw [pathL_fuel hB f _ (by omega) (by omega),pathL_fuel hB j _ (by omega) (by omega)]
theorem pathL_step {fs bs:List Int} (hB:Back fs) {j:Nat} (h0:0<j) (hl:j<fs.length):pathL fs bs j j=pathL fs bs (fs.getD j 0).toNat (fs.getD j 0).toNat++[bs.getD j 0]:=by
 have hb:=hB j h0 hl
 cases j with
 | zero=>omega
 | succ j =>
  conv=>lhs;unfold pathL
  rw [if_neg (Nat.succ_ne_zero j),pathL_fuel hB j _ (by omega) (by omega)]


theorem fromL_at {S:List (Rec6 V4)} {j:Nat} {r:Rec6 V4} (h0:0<j) (h:S[j]?=some r):(fromL S).getD j 0=(r.2.1:Int):=by
 cases S with
 | nil=>simp at h
 | cons a S =>
  cases j with
  | zero=>omega
  | succ j =>
   simp only [List.getElem?_cons_succ] at h
   simp [fromL,List.getD,h]
theorem byL_at {S:List (Rec6 V4)} {j:Nat} {r:Rec6 V4} (h0:0<j) (h:S[j]?=some r):(byL S).getD j 0=r.2.2:=by
 cases S with
 | nil=>simp at h
 | cons a S =>
  cases j with
  | zero=>omega
  | succ j =>
   simp only [List.getElem?_cons_succ] at h
   simp [byL,List.getD,h]
theorem back_of {nx:V4→List (Int × V4)} {S:List (Rec6 V4)} (h:Came nx S):Back (fromL S):=fun j h0 hl=>by
 rw [fromL_len] at hl
 have hr:=List.getElem?_eq_getElem hl
 have hc:=(h j _ h0 hr).1
 rw [fromL_at h0 hr]
 omega
theorem pathL_eq {nx:V4→List (Int × V4)} {S:List (Rec6 V4)} (h:Came nx S):∀ (f j:Nat),j≤f→j<S.length→pathL (fromL S) (byL S) f j=pathS S f j
 | 0,j,_,_=>rfl
 | f+1,j,hj,hl=>by
  unfold pathL pathS
  by_cases e:j=0
  ·rw [if_pos e,if_pos e]
  ·have hr:=List.getElem?_eq_getElem hl
   have hc:=(h j _ (by omega) hr).1
   rw [if_neg e,if_neg e,fromL_at (by omega) hr,byL_at (by omega) hr,hr]
   simp only [Int.toNat_natCast]
   rw [pathL_eq h f _ (by omega) (by omega)]
end Go.Proofs.YtifoggpohlegmaaGreatDoor
