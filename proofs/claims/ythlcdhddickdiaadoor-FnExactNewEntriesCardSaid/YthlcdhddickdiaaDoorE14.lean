/-
  Joined: MrkT, MarkT.
-/
import Derived.Test.YthlcdhddickdiaaDoorE09

namespace Go.Proofs.YthlcdhddickdiaaDoor
set_option maxRecDepth 100000
set_option maxHeartbeats 16000000
open Go.RowKit
set_option linter.unusedVariables false
set_option linter.unusedSimpArgs false

def Mid9 (B T:Nat) (w w':World):Prop:=Below B w w'∧∀ j,T≤j→j<w.heap.size→w'.heap[j]?=w.heap[j]?
theorem Mid9.refl (B T:Nat) (w:World):Mid9 B T w w:=⟨Below.refl _ _,fun _ _ _=>rfl⟩
theorem Mid9.step {B T:Nat} {w wr w1:World} {u:Value} (h:Mid9 B T w wr) (hg:wr.grownBy w1 u.ownBlock) (hsz:B≤wr.heap.size) (hlow:∀ x,u.ownBlock=some x→B≤x) (htop:∀ x,u.ownBlock=some x→x<T):Mid9 B T w w1:=
 ⟨h.1.grown hg hsz hlow,fun j hj hl=>by
  rw [hg.block j (Nat.lt_of_lt_of_le hl h.1.size) (fun e=>absurd (htop j e.symm) (by omega))]
  exact h.2 j hj hl⟩
theorem Mid9.after {B T:Nat} {w w0 w1:World} (h:Mid9 B T w0 w1) (hb:Below w.heap.size w w0) (hB:B≤w.heap.size):Mid9 B T w w1:=
 ⟨(hb.mono hB).trans h.1,fun j hj hl=>(h.2 j hj (Nat.lt_of_lt_of_le hl hb.size)).trans (hb.block j hl)⟩
theorem Mid9.blk {B T g t:Nat} {w w':World} {cs:List Value} (h:Mid9 B T w w') (hB:Blk w g t cs) (hg:T≤g):Blk w' g t cs:=(h.2 g hg hB.lt).trans hB
theorem Mid9.owns {B T B' e s n:Nat} {w w':World} {v:Value} {xs:List Value} (h:Mid9 B T w w') (ho:w.ownsRow B' e s v n xs) (hB:T≤B'):w'.ownsRow B' e s v n xs:=by
 refine ⟨ho.1,?_⟩
 rcases ho.2 with h0 | ⟨g,cap,cur,hv,hBg,hg,rest⟩
 ·exact .inl h0
 ·exact .inr ⟨g,cap,cur,hv,hBg,(h.2 g (by omega) (Array.getElem?_eq_some_iff.1 hg).1).trans hg,rest⟩


def markAcc (k:Nat) (out:ByteArray):ByteArray:=if _h:k=0 then out else markAcc (k / 10) (strOfNums [48+((k % 10:Nat):Int)]++out)
termination_by k
decreasing_by omega

def markB (k:Nat):ByteArray:=⟨#[109]⟩++markAcc k ByteArray.empty

theorem markText_is (k:Nat) (w:World) (h0:0<k) (hk:k≤1000000000) :
  Calls Tryd.prog 54 #[.int .i64 k] w fun e w'=>e=.returned (.string (markB k))∧Below w.heap.size w w':=by
 unfold markB
 obtain ⟨fin,hfin⟩:∃ fin,fin=markAcc k ByteArray.empty:=⟨_,rfl⟩
 rw [← hfin]
 have HF:Hid (markAcc k ByteArray.empty=fin):=hfin.symm
 clear hfin
 go_enter Tryd.func54,Tryd.ntmps54
 go_wp2
 go_loopw [0,3] (fun sk so wr=>∃ (j:Nat) (out:ByteArray),sk=.int .i64 j∧so=.string out∧j+out.size≤k∧Hid (markAcc j out=fin)∧Below w.heap.size w wr) (fun sk _ _=>(intOf sk).toNat)
 case atStart=>exact ⟨k,ByteArray.empty,rfl,rfl,by simp,HF,Below.refl _ _⟩
 case round =>
  obtain ⟨j,out,rfl,rfl,hz,hE,hbel⟩:=hrel
  by_cases hj:0<j
  ·have hj':((0:Int)<(j:Int)):=by omega
   have hmod:(j:Int).tmod 10=((j % 10:Nat):Int):=by rw [Int.tmod_eq_emod_of_nonneg (by omega)];omega
   have hdiv:(j:Int).tdiv 10=((j / 10:Nat):Int):=by rw [Int.tdiv_eq_ediv_of_nonneg (by omega)];omega
   have hE2:Hid (markAcc (j / 10) (strOfNums [48+((j % 10:Nat):Int)]++out)=fin):=by
    have:=hE.out
    rw [markAcc,dif_neg (by omega)] at this
    exact this
   have hsm:((j % 10:Nat):Int)<10:=by omega
   have hsz:(strOfNums [48+((j % 10:Nat):Int)]++out).size=1+out.size:=by rw [ByteArray.size_append];rfl
   have hdl:j / 10<j:=by omega
   have hsum:j / 10+(1+out.size)≤k:=by omega
   have hnn:(0:Int)≤((j % 10:Nat):Int):=by omega
   generalize j % 10=m at hmod hE2 hsm hsz hnn
   generalize j / 10=q at hdiv hE2 hdl hsum
   have hcv:∀ W:World,(convert 118 9 (.slice (some ⟨W.heap.size,0,none⟩) 1 1)).run Tryd.prog (W.alloc (.cells #[.int .u8 (48+(m:Int))] 5))=.ok (.string (strOfNums [48+(m:Int)])) (W.alloc (.cells #[.int .u8 (48+(m:Int))] 5)):=fun W =>
    conv_owned (World.ownsRow_lit W #[.int .u8 (48+(m:Int))] 1 (Nat.le_refl _) (by unfold maxLen;omega) rfl)
   have hadd:=fun W=>run_string_add_sum (P:=Tryd.prog) W (strOfNums [48+(m:Int)]) out (by have:(strOfNums [48+(m:Int)]).size=1:=rfl;omega)
   clear hE
   go_wp2
   go_roundw
   case rel=>exact ⟨q,strOfNums [48+(m:Int)]++out,rfl,rfl,by rw [hsz];exact hsum,hE2,bel_trans hbel (by go_grown)⟩
   case measure=>simp [intOf];omega
  ·obtain rfl:j=0:=by omega
   obtain rfl:out=fin:=by have:=hE.out;rw [markAcc,dif_pos rfl] at this;exact this
   have hadd:=fun W=>run_string_add_sum (P:=Tryd.prog) W ⟨#[109]⟩ out (by have:(⟨#[109]⟩:ByteArray).size=1:=rfl;omega)
   clear hE HF
   go_wp2
   go_ret
   exact ⟨rfl,hbel⟩
end Go.Proofs.YthlcdhddickdiaaDoor
