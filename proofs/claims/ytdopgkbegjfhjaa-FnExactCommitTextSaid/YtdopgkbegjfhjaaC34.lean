/-
  Joined: PackNum0.
-/
import Derived.Test.YtdopgkbegjfhjaaC13
import Derived.Test.YtdopgkbegjfhjaaC14

namespace Go.Proofs.Ytdopgkbegjfhjaa
set_option maxRecDepth 100000
set_option maxHeartbeats 16000000
open Go.RowKit

theorem l01Number_any (n:Nat) (w:World) (hn:n≤999999999) :
  Calls Try.prog 25 #[.int .i64 n] w fun e w'=>e=.returned (.string (strOfNums (pack n)))∧Below w.heap.size w w':=by
 obtain ⟨i0,hi,hz0,hz1,hz2⟩:=info_parts info_u8
 go_enter Try.func25,Try.ntmps25
 go_wp2
 go_loopw [0,3] (fun si sv wr=>∃ (k:Nat) (ys:List Int),k≤999999999∧si=.int .i64 k∧wr.ownsRow w.heap.size 5 1 sv ys.length (u8s ys)∧Hid (ys++pack k=pack n)∧Below w.heap.size w wr) (fun si _ _=>(intOf si).toNat)
 case atStart=>exact ⟨n,[],hn,rfl,World.ownsRow_lit w #[] 0 (Nat.le_refl _) (by unfold maxLen;omega) rfl,by simp [Hid],(Below.refl _ _).alloc (Nat.le_refl _) _⟩
 case round =>
  obtain ⟨k,ys,hk,rfl,ho,HY,hbel⟩:=hrel
  have hlen:ys.length≤4:=by
   have h1:=congrArg List.length HY.out
   have h2:=pack_len k
   have h3:=pack_len n
   simp at h1;omega
  have hbw:w.heap.size≤wr.heap.size:=hbel.size
  by_cases hlt:128≤k
  ·go_wp2_with (at_builtin;refine wpList_append_own _ rfl _ _ 44 rfl w.heap.size 5 i0 (.int .u8 0) 1 1 Try.underlying44 hi hz0 hz1 hz2 rfl (by decide) _ _ _ rfl (ho.alloc _) ⟨wr.heap.size,0,none⟩ 1 1 [.int .u8 (128+(k:Int) % 128)] rfl rfl (cell_one_new _ _ _) (one_u8 _) ?c3 ?c4 ?c5 ?_)
   case c3=>unfold maxLen;omega
   case c4=>omega
   case c5=>simp;omega
   intro v' w1 hown' hgrow _
   have hcomm:(128+(k:Int) % 128)=(k:Int) % 128+128:=by omega
   rw [hcomm] at hown'
   clear hcomm
   have R:w1.ownsRow w.heap.size 5 1 v' (ys++[(k:Int) % 128+128]).length (u8s (ys++[(k:Int) % 128+128])):=by simpa [Nat.add_assoc] using hown'
   have hb1:Below w.heap.size w w1:=(hbel.alloc hbw _).grown hgrow (by simp;omega) (fun j hj=>(ho.lt _ hj).1)
   clear hown' hgrow ho
   go_wp2
   go_roundw
   case rel=>exact ⟨k / 128,ys++[(k:Int) % 128+128],by omega,by go_num,R,by rw [Hid,List.append_assoc,List.singleton_append,← pack_step hlt (by omega)];exact HY.out,hb1⟩
   case measure=>simp [intOf];omega
  ·go_wp2_with (at_builtin;refine wpList_append_own _ rfl _ _ 44 rfl w.heap.size 5 i0 (.int .u8 0) 1 1 Try.underlying44 hi hz0 hz1 hz2 rfl (by decide) _ _ _ rfl (ho.alloc _) ⟨wr.heap.size,0,none⟩ 1 1 [.int .u8 (k:Int)] rfl rfl (cell_one_new _ _ _) (one_u8 _) ?d3 ?d4 ?d5 ?_)
   case d3=>unfold maxLen;omega
   case d4=>omega
   case d5=>simp;omega
   intro v' w1 hown' hgrow _
   have hb1:Below w.heap.size w w1:=(hbel.alloc hbw _).grown hgrow (by simp;omega) (fun j hj=>(ho.lt _ hj).1)
   have hp:pack n=ys++[(k:Int)]:=by rw [← HY.out,pack_small (by omega)]
   have R:w1.ownsRow w.heap.size 5 1 v' (ys.length+1) (u8s (pack n)):=by rw [hp];simpa [Nat.add_assoc] using hown'
   have hcv:=conv_owned R
   clear hown' hgrow ho hp HY R
   go_wp2
   go_ret
   exact ⟨rfl,hb1⟩

end Go.Proofs.Ytdopgkbegjfhjaa
