/-
  Joined: PackList.
-/
import Derived.Test.YtdopgkbegjfhjaaC01
import Derived.Test.YtdopgkbegjfhjaaC34

namespace Go.Proofs.Ytdopgkbegjfhjaa
set_option maxRecDepth 100000
set_option maxHeartbeats 16000000
open Go.RowKit

def allOk (zs:List Int):Prop:=∀ z ∈ zs,0≤z∧z≤999999999
def packs (zs:List Int):List Int:=zs.flatMap fun z=>pack z.toNat
def packL (zs:List Int):List Int:=pack zs.length++packs zs

theorem packs_len:∀ zs:List Int,(packs zs).length≤5*zs.length
 | []=>by simp [packs]
 | z::zs=>by
  have h:=packs_len zs
  have h2:=(pack_len z.toNat).2
  simp only [packs,List.flatMap_cons,List.length_append,List.length_cons] at h ⊢
  omega
theorem packs_snoc (zs:List Int) (k:Nat) (h:k<zs.length):packs (zs.take (k+1))=packs (zs.take k)++pack (zs.getD k 0).toNat:=by
 have g:zs.getD k 0=zs[k]:=by simp [List.getElem?_eq_getElem h]
 rw [g,List.take_succ_eq_append_getElem h]
 unfold packs
 rw [List.flatMap_append]
 simp only [List.flatMap_cons,List.flatMap_nil,List.append_nil]
theorem getD_mem {zs:List Int} {k:Nat} (h:k<zs.length):zs.getD k 0 ∈ zs:=by
 simp [List.getElem?_eq_getElem h]
theorem l01List_any (a:Option Addr) (len cap:Nat) (zs:List Int) (w:World) (h:Ints .i64 w a len cap zs) (hlen:len≤4096) (hok:allOk zs) :
  Calls Try.prog 18 #[.slice a len cap] w fun e w'=>e=.returned (.string (strOfNums (packL zs)))∧Below w.heap.size w w':=by
 obtain ⟨hl,hlc,hcm,hcase⟩:=h
 unfold maxLen at hcm
 rcases hcase with h0 | ⟨b,off,rfl,hblt,hcell⟩
 ·subst h0
  have hz:zs=[]:=by simpa using hl
  subst hz
  go_enter Try.func18,Try.ntmps18
  go_wp2_with fail
  refine (l01Number_any 0 _ (by omega)).mono ?_
  rintro e w1 ⟨rfl,hb1⟩
  go_wp2
  refine wp_loop_rounds 1 ?_
  rw [rounds_succ]
  go_wp2
  go_ret
  exact ⟨rfl,hb1⟩
 ·go_enter Try.func18,Try.ntmps18
  go_wp2_with fail
  refine (l01Number_any len _ (by omega)).mono ?_
  rintro e w1 ⟨rfl,hb1⟩
  go_wp2
  go_loopw [3,4] (fun st si wr=>∃ k:Nat,k≤len∧si=.int .i64 k∧st=.string (strOfNums (pack len++packs (zs.take k)))∧Below w.heap.size w wr) (fun _ si _=>len - (intOf si).toNat)
  case atStart=>exact ⟨0,by omega,rfl,by simp [packs],hb1⟩
  case round =>
   obtain ⟨k,hk,rfl,rfl,hbel⟩:=hrel
   by_cases hlt:k<len
   ·have hc:wr.cell? ⟨b,off+k,none⟩=some (.int .i64 (zs.getD k 0)):=by rw [hbel.cell (p:=⟨b,off+k,none⟩) hblt];exact hcell k hlt
    have hx:=hok _ (getD_mem (k:=k) (by omega))
    have hsn:=packs_snoc zs k (by omega)
    have hpl:=packs_len (zs.take k)
    have hp5:=(pack_len len).2
    have hq5:=(pack_len (zs.getD k 0).toNat).2
    have htl:(zs.take k).length≤4096:=by simp;omega
    generalize zs.getD k 0=x at hc hx hsn hq5
    obtain ⟨n,rfl⟩:=Int.eq_ofNat_of_zero_le hx.1
    have hn:n≤999999999:=by omega
    rw [Int.toNat_natCast] at hsn hq5
    have R:Hid (strOfNums (pack len++packs (zs.take k))++strOfNums (pack n)=strOfNums (pack len++packs (zs.take (k+1)))):=by
     rw [Hid,hsn,← str_append,List.append_assoc]
    have hsum:(strOfNums (pack len++packs (zs.take k))).size+(strOfNums (pack n)).size≤9223372036854775807:=by
     rw [strOfNums_size,strOfNums_size,List.length_append];omega
    have hadd:=fun W=>run_string_add_sum (P:=Try.prog) W _ _ hsum
    clear hsn hpl hp5 hq5 htl hsum hx
    generalize strOfNums (pack len++packs (zs.take k))=sk at hadd R
    go_wp2_with (go_at_call 25;refine (l01Number_any n _ hn).mono ?_;rintro e w2 ⟨rfl,hb2⟩)
    go_roundw
    case rel=>exact ⟨k+1,by omega,by go_num,by rw [R.out],hbel.trans (hb2.mono hbel.size)⟩
    case measure=>simp [intOf];omega
   ·obtain rfl:k=len:=by omega
    go_wp2
    go_ret
    exact ⟨by unfold packL;rw [List.take_of_length_le (Nat.le_of_eq hl),hl];rfl,hbel⟩
end Go.Proofs.Ytdopgkbegjfhjaa
