/-
  Joined: Vm1, Ints.
-/
import Derived.ChangeSlices
import Derived.Lib.SmallJoins
import Derived.Test.YthmgampabhbpoaaDoorD01
import Derived.Test.YthmgampabhbpoaaDoorD03

namespace Go.Proofs.YthmgampabhbpoaaDoor
set_option maxRecDepth 100000
set_option maxHeartbeats 16000000
open Go.RowKit

theorem szIntS_less (a:Option Addr) (len cap:Nat) (left:Int) (w:World) (hl:len≤maxLen) (h0:0≤left) (h1:left≤2 ^ 20) :
  Calls Tryd.prog 35 #[.slice a len cap,.int .i64 left] w fun e w'=>e=.returned (.int .i64 (less left len))∧w=w':=by
 unfold maxLen at hl
 unfold less
 go_enter Tryd.func35,Tryd.ntmps35
 by_cases h:left - len<0
 ·rw [if_pos h]
  go_wp2
  go_ret
  exact ⟨rfl,rfl⟩
 ·rw [if_neg h]
  go_wp2
  go_ret
  exact ⟨rfl,rfl⟩
theorem szIntS_neg (a:Option Addr) (len cap:Nat) (left:Int) (w:World) (hl:len≤maxLen) (h0:0≤left) (h1:left≤2 ^ 20) (h:left - len<0) :
  Calls Tryd.prog 35 #[.slice a len cap,.int .i64 left] w fun e w'=>e=.returned (.int .i64 (-1))∧w=w':=by
 have:=szIntS_less a len cap left w hl h0 h1
 unfold less at this
 rwa [if_pos h] at this
theorem szIntS_pos (a:Option Addr) (len cap:Nat) (left:Int) (w:World) (hl:len≤maxLen) (h0:0≤left) (h1:left≤2 ^ 20) (h:0≤left - len) :
  Calls Tryd.prog 35 #[.slice a len cap,.int .i64 left] w fun e w'=>e=.returned (.int .i64 (left - len))∧w=w':=by
 have:=szIntS_less a len cap left w hl h0 h1
 unfold less at this
 rwa [if_neg (by omega)] at this


theorem set_step:∀ (zs:List Int) (len k:Nat),k<len→zs.length=len→(zs.take k++List.replicate (len - k) 0).set k (zs.getD k 0)=zs.take (k+1)++List.replicate (len - (k+1)) 0
 | [],len,k,hk,hl=>by simp at hl;omega
 | z::zs,len,0,_,hl=>by
  obtain ⟨n,rfl⟩:∃ n,len=n+1:=⟨len - 1,by simp at hl;omega⟩
  simp [List.replicate_succ]
 | z::zs,len,k+1,hk,hl=>by
  obtain ⟨n,rfl⟩:∃ n,len=n+1:=⟨len - 1,by omega⟩
  have ih:=set_step zs n k (by omega) (by simpa using hl)
  simp only [Nat.add_sub_add_right,List.take_succ_cons,List.cons_append,List.set_cons_succ,List.getD_cons_succ,ih]

theorem toIntS_any (a:Option Addr) (len cap:Nat) (zs:List Int) (w:World) (h:Ints .i64 w a len cap zs) (hlen:len≤1048576) :
  Calls Tryd.prog 40 #[.slice a len cap] w fun e w'=>e=.returned (.slice (some ⟨w.heap.size,0,none⟩) len len) ∧
   w'.ownsRow w.heap.size 3 1 (.slice (some ⟨w.heap.size,0,none⟩) len len) len (zs.map (Value.int .i64))∧Below w.heap.size w w':=by
 obtain ⟨i0,hi,hz0,hz1,hz2⟩:=info_parts info_int
 obtain ⟨hl,hlc,hcm,hcase⟩:=h
 unfold maxLen at hcm
 rcases hcase with h0 | ⟨b,off,rfl,hblt,hcell⟩
 ·subst h0
  have hz:zs=[]:=by simpa using hl
  subst hz
  go_enter Tryd.func40,Tryd.ntmps40
  go_wp2_with (at_make;refine wpList_make_full _ rfl _ _ 23 rfl w.heap.size 3 i0 (.int .i64 0) 1 Tryd.underlying23 hi hz0 hz1 _ _ _ _ 0 rfl rfl (by omega) (by omega) ?b2 ?b3 (Nat.le_refl _) ?_)
  case b2=>omega
  case b3=>unfold maxLen;omega
  intro w0 hown0 hgrow0
  have hb0:Below w.heap.size w w0:=(Below.refl _ _).grown hgrow0 (Nat.le_refl _) (fun k h=>by cases h)
  rw [made_ints] at hown0
  clear hgrow0
  go_wp2
  refine wp_loop_rounds 1 ?_
  rw [rounds_succ]
  go_wp2
  go_ret
  exact ⟨rfl,hown0,hb0⟩
 ·go_enter Tryd.func40,Tryd.ntmps40
  go_wp2_with (at_make;refine wpList_make_full _ rfl _ _ 23 rfl w.heap.size 3 i0 (.int .i64 0) 1 Tryd.underlying23 hi hz0 hz1 _ _ _ _ len rfl rfl (by omega) (by omega) ?b2 ?b3 (Nat.le_refl _) ?_)
  case b2=>rw [hz2];omega
  case b3=>unfold maxLen;omega
  intro w0 hown0 hgrow0
  have hb0:Below w.heap.size w w0:=(Below.refl _ _).grown hgrow0 (Nat.le_refl _) (fun k h=>by cases h)
  rw [made_ints] at hown0
  clear hgrow0
  go_wp2
  go_loopw [4] (fun si wr=>∃ k:Nat,k≤len∧si=.int .i64 k∧wr.ownsRow w.heap.size 3 1 (.slice (some ⟨w.heap.size,0,none⟩) len len) len ((zs.take k++List.replicate (len - k) (0:Int)).map (Value.int .i64))∧Below w.heap.size w wr) (fun si _=>len - (intOf si).toNat)
  case atStart=>exact ⟨0,by omega,rfl,by simpa using hown0,hb0⟩
  case round =>
   obtain ⟨k,hk,rfl,ho,hbel⟩:=hrel
   by_cases hlt:k<len
   ·have hc:wr.cell? ⟨b,off+k,none⟩=some (.int .i64 (zs.getD k 0)):=by rw [hbel.cell (p:=⟨b,off+k,none⟩) hblt];exact hcell k hlt
    have hf:=ho.frozenAt k
    have hst:=ho.stored k (.int .i64 (zs.getD k 0))
    have hold:∃ u,wr.cell? ⟨w.heap.size,k,none⟩=some u:=by
     have:=ho.cellAt k (by omega)
     rw [this]
     exact ⟨_,List.getElem?_eq_getElem (by simp;omega)⟩
    obtain ⟨u,hu⟩:=hold
    have R:(wr.setCell ⟨w.heap.size,k,none⟩ (.int .i64 (zs.getD k 0))).ownsRow w.heap.size 3 1 (.slice (some ⟨w.heap.size,0,none⟩) len len) len ((zs.take (k+1)++List.replicate (len - (k+1)) (0:Int)).map (Value.int .i64)):=by
     have:=hst.1
     rw [← List.map_set,set_step zs len k hlt hl] at this
     exact this
    have hb1:Below w.heap.size w (wr.setCell ⟨w.heap.size,k,none⟩ (.int .i64 (zs.getD k 0))):=hbel.setCell (Nat.le_refl _) _
    clear hst ho
    generalize zs.getD k 0=x at hc R hb1
    go_wp2
    go_roundw
    case rel=>exact ⟨k+1,by omega,by go_num,R,hb1⟩
    case measure=>simp [intOf];omega
   ·obtain rfl:k=len:=by omega
    go_wp2
    go_ret
    refine ⟨rfl,?_,hbel⟩
    have e:zs.take k++List.replicate (k - k) (0:Int)=zs:=by rw [Nat.sub_self];simp [List.take_of_length_le (Nat.le_of_eq hl)]
    rw [e] at ho
    exact ho
end Go.Proofs.YthmgampabhbpoaaDoor
