/-
  Joined: MarkT.
-/
import Derived.Test.YtdopgkbegjfhjaaGreatDoorR05

namespace Go.Proofs.YtdopgkbegjfhjaaGreatDoor
set_option maxRecDepth 100000
set_option maxHeartbeats 16000000
open Go.RowKit

def markAcc (k:Nat) (out:ByteArray):ByteArray:=if _h:k=0 then out else markAcc (k / 10) (strOfNums [48+((k % 10:Nat):Int)]++out)
termination_by k
decreasing_by omega

def markB (k:Nat):ByteArray:=⟨#[109]⟩++markAcc k ByteArray.empty

theorem markText_is (k:Nat) (w:World) (h0:0<k) (hk:k≤1000000000) :
  Calls Tryz.prog 55 #[.int .i64 k] w fun e w'=>e=.returned (.string (markB k))∧Below w.heap.size w w':=by
 unfold markB
 obtain ⟨fin,hfin⟩:∃ fin,fin=markAcc k ByteArray.empty:=⟨_,rfl⟩
 rw [← hfin]
 have HF:Hid (markAcc k ByteArray.empty=fin):=hfin.symm
 clear hfin
 go_enter Tryz.func55,Tryz.ntmps55
 go_wp2
 go_loopw [0,3] (fun sk so wr=>∃ (j:Nat) (out:ByteArray),sk=.int .i64 j∧so=.string out∧j+out.size≤k∧Hid (markAcc j out=fin)∧Below w.heap.size w wr) (fun sk _ _=>(intOf sk).toNat)
 case atStart=>exact ⟨k,ByteArray.empty,rfl,rfl,by simp,HF,Below.refl _ _⟩
 case round =>
  obtain ⟨j,out,rfl,rfl,hz,hE,hbel⟩:=hrel
  by_cases hj:0<j
  ·have hj':((0:Int)<(j:Int)):=by omega
   have hmod:(j:Int).tmod 10=((j % 10:Nat):Int):=by rw [Int.tmod_eq_emod_of_nonneg (by omega)];omega
   have hdiv:(j:Int).tdiv 10=((j / 10:Nat):Int):=by rw [Int.tdiv_eq_ediv_of_nonneg (by omega)];omega
   have hE2:Hid (markAcc (j / 10) (strOfNums [48+((j % 10:Nat):Int)]++out)=fin):=by
    have:=hE.out
    rw [markAcc,dif_neg (by omega)] at this
    exact this
   have hsm:((j % 10:Nat):Int)<10:=by omega
   have hsz:(strOfNums [48+((j % 10:Nat):Int)]++out).size=1+out.size:=by rw [ByteArray.size_append];rfl
   have hdl:j / 10<j:=by omega
   have hsum:j / 10+(1+out.size)≤k:=by omega
   have hnn:(0:Int)≤((j % 10:Nat):Int):=by omega
   generalize j % 10=m at hmod hE2 hsm hsz hnn
   generalize j / 10=q at hdiv hE2 hdl hsum
   have hcv:∀ W:World,(convert 22 9 (.slice (some ⟨W.heap.size,0,none⟩) 1 1)).run Tryz.prog (W.alloc (.cells #[.int .u8 (48+(m:Int))] 5))=.ok (.string (strOfNums [48+(m:Int)])) (W.alloc (.cells #[.int .u8 (48+(m:Int))] 5)):=fun W =>
    conv_owned (World.ownsRow_lit W #[.int .u8 (48+(m:Int))] 1 (Nat.le_refl _) (by unfold maxLen;omega) rfl)
   have hadd:=fun W=>run_string_add_sum (P:=Tryz.prog) W (strOfNums [48+(m:Int)]) out (by have:(strOfNums [48+(m:Int)]).size=1:=rfl;omega)
   clear hE
   go_wp2
   go_roundw
   case rel=>exact ⟨q,strOfNums [48+(m:Int)]++out,rfl,rfl,by rw [hsz];exact hsum,hE2,bel_trans hbel (by go_grown)⟩
   case measure=>simp [intOf];omega
  ·obtain rfl:j=0:=by omega
   obtain rfl:out=fin:=by have:=hE.out;rw [markAcc,dif_pos rfl] at this;exact this
   have hadd:=fun W=>run_string_add_sum (P:=Tryz.prog) W ⟨#[109]⟩ out (by have:(⟨#[109]⟩:ByteArray).size=1:=rfl;omega)
   clear hE HF
   go_wp2
   go_ret
   exact ⟨rfl,hbel⟩
end Go.Proofs.YtdopgkbegjfhjaaGreatDoor
