/-
  Joined: AstS, MarkT.
-/
import Derived.Test.YtfpopbbmnbehiaaDoorA47

namespace Go.Proofs.YtfpopbbmnbehiaaDoor
set_option maxRecDepth 100000
set_option maxHeartbeats 16000000
open Go.RowKit
set_option linter.unusedVariables false
set_option linter.unusedSimpArgs false

def keysO (rows:List (List I3)):List ByteArray:=if codeF rows=0 then keysL (fullS rows) else []
theorem keysO_len (rows:List (List I3)):(keysO rows).length≤2000:=by
 unfold keysO
 split
 ·rename_i h
  rw [keysL_len]
  exact (code_parts h).2
 ·simp
theorem own_emptyS (W:World) (B:Nat) (hB:B≤W.heap.size):(W.alloc (.cells #[] 9)).ownsRow B 9 1 (.slice (some ⟨W.heap.size,0,none⟩) 0 0) 0 []:=own_emptyB W 9 1 B hB

theorem specAllStates_is (a:Option Addr) (len cap:Nat) (rows:List (List I3)) (w:World) (hC:Codes w a len cap rows) :
  Calls Tryd.prog 8 #[.agg #[.slice a len cap]] w fun e w'=>KeysGot e w' w.heap.size (keysO rows) (codeF rows)∧Below w.heap.size w w':=by
 have kO:=fun (W:World) (b:Below w.heap.size w W)=>specProgramOK_is a len cap rows W (hC.below b)
 have bw:Below w.heap.size w (w.alloc (.cells #[.slice a len cap] 31)):=by go_grown
 have pP:Blk (w.alloc (.cells #[.slice a len cap] 31)) w.heap.size 31 [.slice a len cap]:=blkAt _ _ _ rfl
 go_enter Tryd.func8,Tryd.ntmps8
 go_wp2_with fail
 generalize (w.alloc (.cells #[.slice a len cap] 31))=U at *
 have kOx:=kO U bw
 clear kO
 go_wp2_with (refine wpList_load_blk rfl 31 _ rfl w.heap.size rfl pP _ Tryd.underlying31 rfl (by kernel_rfl) ?_)
 refine kOx.mono ?_
 rintro e w1 ⟨rfl,hb⟩
 replace bw:=bel_trans bw hb
 replace pP:=pP.below hb
 clear hb kOx
 have hbs:=bw.size
 cases hp:progOk rows
 ·have HG:Hid (KeysGot (.returned (.tuple #[.slice (some ⟨w1.heap.size,0,none⟩) 0 0,.int .i64 1])) (w1.alloc (.cells #[] 9)) w.heap.size (keysO rows) (codeF rows)):=by
   have e1:codeF rows=1:=by unfold codeF;rw [hp];rfl
   have e2:keysO rows=[]:=by unfold keysO;rw [e1];rfl
   rw [e1,e2]
   exact ⟨_,rfl,own_emptyS w1 _ hbs⟩
  have b2:Below w.heap.size w (w1.alloc (.cells #[] 9)):=bel_trans bw (by go_grown)
  go_wp2
  refine bodyPost_ret (by simp [results,Tryd.results8,go_sem];try rfl) rfl ?_
  exact ⟨HG.out,b2⟩
 ·obtain ⟨hl3,cs,hR⟩:=hC.rowsAt hp
  subst hl3
  have kS:=l06States_is (cap:=cap) (hR.below bw) hp
  go_wp2_with (refine wpList_load_blk rfl 31 _ rfl w.heap.size rfl pP _ Tryd.underlying31 rfl (by kernel_rfl) ?_)
  refine kS.mono ?_
  rintro e w2 ⟨⟨v1,v2,v3,ts,fs,bs,rfl,hT,hF⟩,hb⟩
  have hbB:=bw.size
  replace bw:=bel_trans bw hb
  clear hb kS
  by_cases hf:(fullS rows).length≤2000
  ·obtain ⟨rfl,_,_⟩:=hF hf
   have hd:decide ((fullS rows).length≤2000)=true:=decide_eq_true hf
   obtain ⟨ka,kn,kc,rfl⟩:=own_slice6 hT.ks
   have HG:Hid (KeysGot (.returned (.tuple #[.slice ka kn kc,.int .i64 0])) w2 w.heap.size (keysO rows) (codeF rows)):=by
    have e1:codeF rows=0:=by unfold codeF;rw [hp,if_pos rfl,if_pos hf]
    have e2:keysO rows=keysL (fullS rows):=by unfold keysO;rw [if_pos e1]
    rw [e1,e2]
    exact ⟨_,rfl,own_lower hT.ks hbB⟩
   clear hT hF hf
   go_wp2
   refine bodyPost_ret (by simp [results,Tryd.results8,go_sem];try rfl) rfl ?_
   exact ⟨HG.out,bw⟩
  ·have hd:decide ((fullS rows).length≤2000)=false:=decide_eq_false hf
   have HG:Hid (KeysGot (.returned (.tuple #[.slice (some ⟨w2.heap.size,0,none⟩) 0 0,.int .i64 15])) (w2.alloc (.cells #[] 9)) w.heap.size (keysO rows) (codeF rows)):=by
    have e1:codeF rows=15:=by unfold codeF;rw [hp,if_pos rfl,if_neg hf]
    have e2:keysO rows=[]:=by unfold keysO;rw [e1];rfl
    rw [e1,e2]
    exact ⟨_,rfl,own_emptyS w2 _ bw.size⟩
   have b2:Below w.heap.size w (w2.alloc (.cells #[] 9)):=bel_trans bw (by go_grown)
   clear hT hF hf
   go_wp2
   refine bodyPost_ret (by simp [results,Tryd.results8,go_sem];try rfl) rfl ?_
   exact ⟨HG.out,b2⟩
theorem implAllStates_is (a:Option Addr) (len cap:Nat) (rows:List (List I3)) (w:World) (hC:Codes w a len cap rows) (hV:VmShape w) :
  Calls Tryd.prog 10 #[.agg #[.slice a len cap]] w fun e w'=>KeysGot e w' w.heap.size (keysO rows) (codeF rows)∧Below w.heap.size w w':=by
 unfold keysO
 by_cases h:codeF rows=0
 ·rw [if_pos h,h]
  exact implAllStates_ok a len cap rows w hC hV h
 ·rw [if_neg h]
  exact implAllStates_not a len cap rows w hC hV h


def markAcc (k:Nat) (out:ByteArray):ByteArray:=if _h:k=0 then out else markAcc (k / 10) (strOfNums [48+((k % 10:Nat):Int)]++out)
termination_by k
decreasing_by omega

def markB (k:Nat):ByteArray:=⟨#[109]⟩++markAcc k ByteArray.empty

theorem markText_is (k:Nat) (w:World) (h0:0<k) (hk:k≤1000000000) :
  Calls Tryd.prog 34 #[.int .i64 k] w fun e w'=>e=.returned (.string (markB k))∧Below w.heap.size w w':=by
 unfold markB
 obtain ⟨fin,hfin⟩:∃ fin,fin=markAcc k ByteArray.empty:=⟨_,rfl⟩
 rw [← hfin]
 have HF:Hid (markAcc k ByteArray.empty=fin):=hfin.symm
 clear hfin
 go_enter Tryd.func34,Tryd.ntmps34
 go_wp2
 go_loopw [0,3] (fun sk so wr=>∃ (j:Nat) (out:ByteArray),sk=.int .i64 j∧so=.string out∧j+out.size≤k∧Hid (markAcc j out=fin)∧Below w.heap.size w wr) (fun sk _ _=>(intOf sk).toNat)
 case atStart=>exact ⟨k,ByteArray.empty,rfl,rfl,by simp,HF,Below.refl _ _⟩
 case round =>
  obtain ⟨j,out,rfl,rfl,hz,hE,hbel⟩:=hrel
  by_cases hj:0<j
  ·have hj':((0:Int)<(j:Int)):=by omega
   have hmod:(j:Int).tmod 10=((j % 10:Nat):Int):=by rw [Int.tmod_eq_emod_of_nonneg (by omega)];omega
   have hdiv:(j:Int).tdiv 10=((j / 10:Nat):Int):=by rw [Int.tdiv_eq_ediv_of_nonneg (by omega)];omega
   have hE2:Hid (markAcc (j / 10) (strOfNums [48+((j % 10:Nat):Int)]++out)=fin):=by
    have:=hE.out
    rw [markAcc,dif_neg (by omega)] at this
    exact this
   have hsm:((j % 10:Nat):Int)<10:=by omega
   have hsz:(strOfNums [48+((j % 10:Nat):Int)]++out).size=1+out.size:=by rw [ByteArray.size_append];rfl
   have hdl:j / 10<j:=by omega
   have hsum:j / 10+(1+out.size)≤k:=by omega
   have hnn:(0:Int)≤((j % 10:Nat):Int):=by omega
   generalize j % 10=m at hmod hE2 hsm hsz hnn
   generalize j / 10=q at hdiv hE2 hdl hsum
   have hcv:∀ W:World,(convert 113 9 (.slice (some ⟨W.heap.size,0,none⟩) 1 1)).run Tryd.prog (W.alloc (.cells #[.int .u8 (48+(m:Int))] 5))=.ok (.string (strOfNums [48+(m:Int)])) (W.alloc (.cells #[.int .u8 (48+(m:Int))] 5)):=fun W =>
    conv_owned (World.ownsRow_lit W #[.int .u8 (48+(m:Int))] 1 (Nat.le_refl _) (by unfold maxLen;omega) rfl)
   have hadd:=fun W=>run_string_add_sum (P:=Tryd.prog) W (strOfNums [48+(m:Int)]) out (by have:(strOfNums [48+(m:Int)]).size=1:=rfl;omega)
   clear hE
   go_wp2
   go_roundw
   case rel=>exact ⟨q,strOfNums [48+(m:Int)]++out,rfl,rfl,by rw [hsz];exact hsum,hE2,bel_trans hbel (by go_grown)⟩
   case measure=>simp [intOf];omega
  ·obtain rfl:j=0:=by omega
   obtain rfl:out=fin:=by have:=hE.out;rw [markAcc,dif_pos rfl] at this;exact this
   have hadd:=fun W=>run_string_add_sum (P:=Tryd.prog) W ⟨#[109]⟩ out (by have:(⟨#[109]⟩:ByteArray).size=1:=rfl;omega)
   clear hE HF
   go_wp2
   go_ret
   exact ⟨rfl,hbel⟩
end Go.Proofs.YtfpopbbmnbehiaaDoor
