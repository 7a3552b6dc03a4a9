/-
  Joined: PackListI.
-/
import Derived.Test.YtdopgkbegjfhjaaC23
import Derived.Test.YtdopgkbegjfhjaaC33
import Derived.Test.YtdopgkbegjfhjaaC35

namespace Go.Proofs.Ytdopgkbegjfhjaa
set_option maxRecDepth 100000
set_option maxHeartbeats 16000000
open Go.RowKit

theorem okTo_succ {zs:List Int} {k:Nat} (h:allOk (zs.take k)) (hk:k<zs.length) (hx:0≤zs.getD k 0∧zs.getD k 0≤999999999):allOk (zs.take (k+1)):=by
 have g:zs.getD k 0=zs[k]:=by simp [List.getElem?_eq_getElem hk]
 rw [List.take_succ_eq_append_getElem hk]
 intro z hz
 rcases List.mem_append.1 hz with hz | hz
 ·exact h z hz
 ·simp at hz;subst hz;rw [← g];exact hx
theorem okTo_zero (zs:List Int):allOk (zs.take 0):=by intro z hz;simp at hz

theorem implPackList_any (a:Option Addr) (len cap:Nat) (zs:List Int) (w:World) (h:Ints .i64 w a len cap zs) (hlen:len≤4096) :
  Calls Try.prog 13 #[.slice a len cap] w fun e w'=>((allOk zs∧e=.returned (.tuple #[.string (strOfNums (packL zs)),.int .i64 0]))∨(¬ allOk zs∧e=.returned (.tuple #[.string ByteArray.empty,.int .i64 4])))∧Below w.heap.size w w':=by
 obtain ⟨hl,hlc,hcm,hcase⟩:=h
 unfold maxLen at hcm
 rcases hcase with h0 | ⟨b,off,rfl,hblt,hcell⟩
 ·subst h0
  have hz:zs=[]:=by simpa using hl
  subst hz
  go_enter Try.func13,Try.ntmps13
  go_wp2_with fail
  refine (appendNumber_any w.heap.size 0 _ [] 0 _ (by omega) (World.ownsRow_nil _ _ _ _) (Nat.le_refl _) (by omega)).mono ?_
  rintro e w1 ⟨v',rfl,hown,hbel⟩
  have hcv:=conv_owned hown
  clear hown
  rw [List.nil_append] at hcv
  go_wp2
  refine wp_loop_rounds 1 ?_
  rw [rounds_succ]
  go_wp2
  go_ret2
  exact ⟨.inl ⟨(fun z hz=>by cases hz),rfl⟩,hbel⟩
 ·go_enter Try.func13,Try.ntmps13
  go_wp2_with fail
  refine (appendNumber_any w.heap.size 0 _ [] len _ (by omega) (World.ownsRow_nil _ _ _ _) (Nat.le_refl _) (by omega)).mono ?_
  rintro e w1 ⟨v',rfl,hown,hb1⟩
  rw [List.nil_append,Nat.zero_add] at hown
  go_wp2
  go_loopw [4,15] (fun sv si wr=>∃ k:Nat,k≤len∧si=.int .i64 k∧allOk (zs.take k)∧wr.ownsRow w.heap.size 5 1 sv (pack len++packs (zs.take k)).length (u8s (pack len++packs (zs.take k)))∧Below w.heap.size w wr) (fun _ si _=>len - (intOf si).toNat)
  case atStart=>exact ⟨0,by omega,rfl,okTo_zero zs,by simpa [packs] using hown,hb1⟩
  case round =>
   obtain ⟨k,hk,rfl,hto,ho,hbel⟩:=hrel
   by_cases hlt:k<len
   ·have hc:wr.cell? ⟨b,off+k,none⟩=some (.int .i64 (zs.getD k 0)):=by rw [hbel.cell (p:=⟨b,off+k,none⟩) hblt];exact hcell k hlt
    have hsn:=packs_snoc zs k (by omega)
    have hpl:=packs_len (zs.take k)
    have hp5:=(pack_len len).2
    have htl:(zs.take k).length≤4096:=by simp;omega
    have hm:(pack len++packs (zs.take k)).length≤1099511627776:=by rw [List.length_append];omega
    by_cases hx:0≤zs.getD k 0∧zs.getD k 0≤999999999
    ·have hto':=okTo_succ hto (by omega) hx
     generalize zs.getD k 0=x at hc hx hsn
     obtain ⟨n,rfl⟩:=Int.eq_ofNat_of_zero_le hx.1
     have hn:n≤999999999:=by omega
     rw [Int.toNat_natCast] at hsn
     have R:Hid (pack len++packs (zs.take k)++pack n=pack len++packs (zs.take (k+1))):=by rw [Hid,hsn,List.append_assoc]
     clear hsn hpl hp5 htl
     generalize pack len++packs (zs.take k)=ys at ho hm R
     have hbw:=hbel.size
     go_wp2_with (first | (go_at_call 23;refine (numberOK_yes _ _ hx).mono ?_;rintro e w' ⟨rfl,rfl⟩) | (go_at_call 22;refine (appendNumber_any w.heap.size _ _ ys n _ hn ho hbw hm).mono ?_;rintro e w2 ⟨v2,rfl,hown2,hb2⟩))
     rw [R.out,← List.length_append,R.out] at hown2
     go_roundw
     case rel=>exact ⟨k+1,by omega,by go_num,hto',hown2,hbel.trans hb2⟩
     case measure=>simp [intOf];omega
    ·have hbad:¬ allOk zs:=fun h=>hx (h _ (getD_mem (by omega)))
     generalize zs.getD k 0=x at hc hx hsn
     clear hsn hpl hp5 htl hm ho
     go_wp2_with (go_at_call 23;refine (numberOK_no _ _ hx).mono ?_;rintro e w' ⟨rfl,rfl⟩)
     go_ret2
     exact ⟨.inr ⟨hbad,rfl⟩,hbel⟩
   ·obtain rfl:k=len:=by omega
    rw [List.take_of_length_le (Nat.le_of_eq hl)] at hto ho
    have e:pack k++packs zs=packL zs:=by unfold packL;rw [hl]
    rw [e] at ho
    have hcv:=conv_owned ho
    clear ho
    go_wp2
    go_ret2
    exact ⟨.inl ⟨hto,rfl⟩,hbel⟩
end Go.Proofs.Ytdopgkbegjfhjaa
