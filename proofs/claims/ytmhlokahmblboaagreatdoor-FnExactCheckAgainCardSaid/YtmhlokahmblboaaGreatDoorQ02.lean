/-
  Joined: Prog1.
-/
import Derived.Handy
import Derived.Test.YtmhlokahmblboaaGreatDoorQ01

namespace Go.Proofs.YtmhlokahmblboaaGreatDoor
set_option maxRecDepth 100000
set_option maxHeartbeats 16000000
open Go.RowKit

theorem Nb (x:I3) (w:World):Calls Tryz.prog 153 #[x.val] w fun e w'=>e=.returned x.val∧Below w.heap.size w w':=by
 obtain ⟨p,q,r⟩:=x
 unfold I3.val
 go_enter Tryz.func153,Tryz.ntmps153
 go_wp2
 go_returns
 exact ⟨rfl,by go_grown⟩

theorem PC (x:I3) (w:World):Calls Tryz.prog 172 #[x.val,x.val] w fun e w'=>e=.returned (.bool true)∧Below w.heap.size w w':=by
 obtain ⟨p,q,r⟩:=x
 unfold I3.val
 go_enter Tryz.func172,Tryz.ntmps172
 go_wp2
 go_returns
 exact ⟨rfl,by go_grown⟩

def SJ (left n:Int):Int:=if left - n<0 then -1 else left - n

theorem Us (a:Option Addr) (len cap:Nat) (left:Int) (w:World) (hl:len≤maxLen) (h0:0≤left) (h1:left≤2 ^ 20) :
  Calls Tryz.prog 95 #[.slice a len cap,.int .i64 left] w fun e w'=>e=.returned (.int .i64 (SJ left len))∧w=w':=by
 unfold maxLen at hl
 unfold SJ
 go_enter Tryz.func95,Tryz.ntmps95
 by_cases h:left - len<0
 ·rw [if_pos h]
  go_wp2
  go_ret
  exact ⟨rfl,rfl⟩
 rw [if_neg h]
 go_wp2
 go_ret
 exact ⟨rfl,rfl⟩

def Z4 (left:Int):List (List I3)→Int
 | []=>left
 | r::rs=>if left<r.length then -1 else Z4 (left - r.length) rs

theorem VW:∀ (rows:List (List I3)) (left:Int),0≤left→Z4 left rows=-1∨(0≤Z4 left rows∧Z4 left rows≤left)
 | [],left,h=>.inr ⟨h,Int.le_refl _⟩
 | r::rs,left,h=>by
  unfold Z4
  split
  ·exact .inl rfl
  rcases VW rs (left - r.length) (by omega) with h' | ⟨h1,h2⟩
  ·exact .inl h'
  exact .inr ⟨h1,by omega⟩

theorem PS {rows:List (List I3)} {k:Nat} {l:Int} (hk:k<rows.length):Z4 l (rows.drop k)=if l<(rows.getD k []).length then -1 else Z4 (l - (rows.getD k []).length) (rows.drop (k+1)):=by
 rw [List.drop_eq_getElem_cons hk]
 show (if l<(rows[k]).length then -1 else Z4 (l - (rows[k]).length) (rows.drop (k+1)))=_
 simp [List.getD,hk]

def YU (left:Int) (rows:List (List I3)):Int:=if left<rows.length then -1 else Z4 (left - rows.length) rows

theorem SA (rows:List (List I3)) (left:Int) (_h:0≤left):YU left rows=-1∨(0≤YU left rows∧YU left rows≤left):=by
 unfold YU
 split
 ·exact .inl rfl
 rcases VW rows (left - rows.length) (by omega) with h' | h'
 ·exact .inl h'
 exact .inr ⟨h'.1,by omega⟩

theorem Ud (a:Option Addr) (len cap:Nat) (rows:List (List I3)) (left:Int) (w:World) (h:Z1 w a len cap rows) (h0:0≤left) (h1:left≤2 ^ 20) :
  Calls Tryz.prog 42 #[.slice a len cap,.int .i64 left] w fun e w'=>e=.returned (.int .i64 (YU left rows))∧Below w.heap.size w w':=by
 obtain ⟨hlen,hlc,hcm,hcase⟩:=h
 unfold maxLen at hcm
 unfold YU
 rw [hlen]
 go_enter Tryz.func42,Tryz.ntmps42
 by_cases hlt:left - len<0
 ·rw [if_pos (by omega)]
  go_wp2
  go_ret
  exact ⟨rfl,Below.refl _ _⟩
 rw [if_neg (by omega)]
 by_cases hz:len=0
 ·subst hz
  obtain rfl:rows=[]:=List.length_eq_zero_iff.1 hlen
  go_wp2
  refine wp_loop_rounds 1 ?_
  rw [rounds_succ]
  go_wp2
  go_ret
  exact ⟨by simp [Z4],Below.refl _ _⟩
 rcases hcase with h0' | ⟨b,off,rfl,hblt,hcell⟩
 ·exact absurd h0' hz
 obtain ⟨fin,hfin⟩:∃ fin,fin=Z4 (left - len) rows:=⟨_,rfl⟩
 rw [← hfin]
 have hfin':Hid (fin=Z4 (left - len) (rows.drop 0)):=hfin
 clear hfin
 go_wp2
 go_loopw [1,5] (fun sl si wr=>∃ (k:Nat) (l:Int),k≤len∧si=.int .i64 k∧sl=.int .i64 l∧0≤l∧l≤2 ^ 20∧Hid (fin=Z4 l (rows.drop k))∧Below w.heap.size w wr) (fun _ si _=>len - (intOf si).toNat)
 case atStart=>exact ⟨0,left - len,by omega,rfl,by go_num,by omega,by omega,hfin',Below.refl _ _⟩
 case round =>
  obtain ⟨k,l,hk,rfl,rfl,hl0,hl1,hH,hb⟩:=hrel
  by_cases hlt':k<len
  ·obtain ⟨a',len',cap',hc,hi⟩:=hcell k hlt'
   have hr:(rows.getD k []).length=len':=hi.1
   have hm:len'≤maxLen:=Nat.le_trans hi.2.1 hi.2.2.1
   have hc':wr.cell? ⟨b,off+k,none⟩=some (.slice a' len' cap'):=by rw [hb.cell (p:=⟨b,_,none⟩) hblt];exact hc
   have hst:=PS (rows:=rows) (k:=k) (l:=l) (by omega)
   rw [hr] at hst
   have hst':Hid (Z4 l (rows.drop k)=if l<len' then -1 else Z4 (l - len') (rows.drop (k+1))):=hst
   clear hst hcell hc hi hr
   have hlt2:(k:Int)<(len:Int):=by omega
   by_cases hll:l - len'<0
   ·have hless:SJ l len'=-1:=if_pos hll
    have hff:fin=-1:=by rw [hH.out,hst'.out,if_pos (by omega)]
    subst hff
    clear hH hst'
    go_wp2_with (go_at_call 95;refine (Us _ _ _ _ _ hm hl0 hl1).mono ?_;rintro e w1 ⟨rfl,rfl⟩;rw [hless])
    go_ret
    exact ⟨rfl,hb⟩
   have hless:SJ l len'=l - len':=if_neg hll
   have hH':Hid (fin=Z4 (l - len') (rows.drop (k+1))):=by rw [Hid,hH.out,hst'.out,if_neg (by omega)]
   clear hH hst'
   go_wp2_with (go_at_call 95;refine (Us _ _ _ _ _ hm hl0 hl1).mono ?_;rintro e w1 ⟨rfl,rfl⟩;rw [hless])
   go_roundw
   case rel=>exact ⟨k+1,l - len',by omega,by go_num,rfl,by omega,by omega,hH',hb⟩
   case measure=>simp [intOf];omega
  obtain rfl:k=len:=by omega
  have hd:Z4 l (rows.drop k)=l:=by rw [List.drop_eq_nil_of_le (by omega)];rfl
  have hff:l=fin:=(hH.out.trans hd).symm
  subst hff
  clear hH hd hcell
  go_wp2
  go_ret
  exact ⟨rfl,hb⟩

theorem R5 (a:Option Addr) (len cap:Nat) (rows:List (List I3)) (left:Int) (w:World) (h:Z1 w a len cap rows) (h0:0≤left) (h1:left≤2 ^ 20) :
  Calls Tryz.prog 9 #[.agg #[.slice a len cap],.int .i64 left] w fun e w'=>e=.returned (.int .i64 (YU left rows))∧Below w.heap.size w w':=by
 obtain ⟨fin,hfin⟩:∃ fin,fin=YU left rows:=⟨_,rfl⟩
 rcases (hfin▸SA rows left h0:fin=-1∨0≤fin∧fin≤left) with hf | ⟨hf,hf'⟩
 ·rw [← hfin]
  subst hf
  go_enter Tryz.func9,Tryz.ntmps9
  go_wp2_with (go_at_call 42;refine (Ud _ _ _ rows _ _ (h.below (by go_grown)) h0 h1).mono ?_;rw [← hfin];clear hfin;rintro e w1 ⟨rfl,hb1⟩)
  go_ret
  exact ⟨rfl,Zb (by go_grown) hb1⟩
 rw [← hfin]
 go_enter Tryz.func9,Tryz.ntmps9
 go_wp2_with (go_at_call 42;refine (Ud _ _ _ rows _ _ (h.below (by go_grown)) h0 h1).mono ?_;rw [← hfin];clear hfin;rintro e w1 ⟨rfl,hb1⟩)
 go_ret
 exact ⟨rfl,Zb (by go_grown) hb1⟩
end Go.Proofs.YtmhlokahmblboaaGreatDoor
