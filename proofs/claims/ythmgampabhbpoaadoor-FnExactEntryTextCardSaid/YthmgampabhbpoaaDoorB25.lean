/-
  Joined: MarkH, MarkT.
-/
import Derived.Test.YthmgampabhbpoaaDoorB10

namespace Go.Proofs.YthmgampabhbpoaaDoor
set_option maxRecDepth 100000
set_option maxHeartbeats 16000000
open Go.RowKit

theorem flat_at {xs:List I3} {t:Nat} (ht:t<xs.length):(flat xs)[t*3]?=some (.int .i64 (xs.getD t (0,0,0)).1)∧(flat xs)[t*3+1]?=some (.int .i64 (xs.getD t (0,0,0)).2.1)∧(flat xs)[t*3+2]?=some (.int .i64 (xs.getD t (0,0,0)).2.2):=by
 have hsplit:flat xs=flat (xs.take t)++((xs.getD t (0,0,0)).cells++flat (xs.drop (t+1))):=by
  rw [← List.append_assoc,← flat_take_succ ht]
  unfold flat
  rw [← List.flatMap_append,List.take_append_drop]
 have hlt:(flat (xs.take t)).length=t*3:=by rw [flat_length,List.length_take];rw [Nat.min_eq_left (by omega)]
 have h:∀ j,j<3→(flat xs)[t*3+j]?=((xs.getD t (0,0,0)).cells)[j]?:=fun j hj=>by
  rw [hsplit,List.getElem?_append_right (by omega),hlt,Nat.add_sub_cancel_left,List.getElem?_append_left (by simp [I3.cells];omega)]
 exact ⟨by simpa [I3.cells] using h 0 (by omega),by simpa [I3.cells] using h 1 (by omega),by simpa [I3.cells] using h 2 (by omega)⟩


def markAcc (k:Nat) (out:ByteArray):ByteArray:=if _h:k=0 then out else markAcc (k / 10) (strOfNums [48+((k % 10:Nat):Int)]++out)
termination_by k
decreasing_by omega

def markB (k:Nat):ByteArray:=⟨#[109]⟩++markAcc k ByteArray.empty

theorem markText_is (k:Nat) (w:World) (h0:0<k) (hk:k≤1000000000) :
  Calls Tryd.prog 98 #[.int .i64 k] w fun e w'=>e=.returned (.string (markB k))∧Below w.heap.size w w':=by
 unfold markB
 obtain ⟨fin,hfin⟩:∃ fin,fin=markAcc k ByteArray.empty:=⟨_,rfl⟩
 rw [← hfin]
 have HF:Hid (markAcc k ByteArray.empty=fin):=hfin.symm
 clear hfin
 go_enter Tryd.func98,Tryd.ntmps98
 go_wp2
 go_loopw [0,3] (fun sk so wr=>∃ (j:Nat) (out:ByteArray),sk=.int .i64 j∧so=.string out∧j+out.size≤k∧Hid (markAcc j out=fin)∧Below w.heap.size w wr) (fun sk _ _=>(intOf sk).toNat)
 case atStart=>exact ⟨k,ByteArray.empty,rfl,rfl,by simp,HF,Below.refl _ _⟩
 case round =>
  obtain ⟨j,out,rfl,rfl,hz,hE,hbel⟩:=hrel
  by_cases hj:0<j
  ·have hj':((0:Int)<(j:Int)):=by omega
   have hmod:(j:Int).tmod 10=((j % 10:Nat):Int):=by rw [Int.tmod_eq_emod_of_nonneg (by omega)];omega
   have hdiv:(j:Int).tdiv 10=((j / 10:Nat):Int):=by rw [Int.tdiv_eq_ediv_of_nonneg (by omega)];omega
   have hE2:Hid (markAcc (j / 10) (strOfNums [48+((j % 10:Nat):Int)]++out)=fin):=by
    have:=hE.out
    rw [markAcc,dif_neg (by omega)] at this
    exact this
   have hsm:((j % 10:Nat):Int)<10:=by omega
   have hsz:(strOfNums [48+((j % 10:Nat):Int)]++out).size=1+out.size:=by rw [ByteArray.size_append];rfl
   have hdl:j / 10<j:=by omega
   have hsum:j / 10+(1+out.size)≤k:=by omega
   have hnn:(0:Int)≤((j % 10:Nat):Int):=by omega
   generalize j % 10=m at hmod hE2 hsm hsz hnn
   generalize j / 10=q at hdiv hE2 hdl hsum
   have hcv:∀ W:World,(convert 128 9 (.slice (some ⟨W.heap.size,0,none⟩) 1 1)).run Tryd.prog (W.alloc (.cells #[.int .u8 (48+(m:Int))] 5))=.ok (.string (strOfNums [48+(m:Int)])) (W.alloc (.cells #[.int .u8 (48+(m:Int))] 5)):=fun W =>
    conv_owned (World.ownsRow_lit W #[.int .u8 (48+(m:Int))] 1 (Nat.le_refl _) (by unfold maxLen;omega) rfl)
   have hadd:=fun W=>run_string_add_sum (P:=Tryd.prog) W (strOfNums [48+(m:Int)]) out (by have:(strOfNums [48+(m:Int)]).size=1:=rfl;omega)
   clear hE
   go_wp2
   go_roundw
   case rel=>exact ⟨q,strOfNums [48+(m:Int)]++out,rfl,rfl,by rw [hsz];exact hsum,hE2,bel_trans hbel (by go_grown)⟩
   case measure=>simp [intOf];omega
  ·obtain rfl:j=0:=by omega
   obtain rfl:out=fin:=by have:=hE.out;rw [markAcc,dif_pos rfl] at this;exact this
   have hadd:=fun W=>run_string_add_sum (P:=Tryd.prog) W ⟨#[109]⟩ out (by have:(⟨#[109]⟩:ByteArray).size=1:=rfl;omega)
   clear hE HF
   go_wp2
   go_ret
   exact ⟨rfl,hbel⟩
end Go.Proofs.YthmgampabhbpoaaDoor
