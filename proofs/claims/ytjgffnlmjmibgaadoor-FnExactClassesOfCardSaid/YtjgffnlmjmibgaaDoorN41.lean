/-
  Joined: PackListI, SmL, ScI, LstM.
-/
import Derived.Test.YtjgffnlmjmibgaaDoorN40

namespace Go.Proofs.YtjgffnlmjmibgaaDoor
set_option maxRecDepth 100000
set_option maxHeartbeats 16000000
open Go.RowKit

theorem okTo_succ {zs:List Int} {k:Nat} (h:allOk (zs.take k)) (hk:k<zs.length) (hx:0≤zs.getD k 0∧zs.getD k 0≤999999999):allOk (zs.take (k+1)):=by
 have g:zs.getD k 0=zs[k]:=by simp [List.getElem?_eq_getElem hk]
 rw [List.take_succ_eq_append_getElem hk]
 intro z hz
 rcases List.mem_append.1 hz with hz | hz
 ·exact h z hz
 ·simp at hz;subst hz;rw [← g];exact hx
theorem okTo_zero (zs:List Int):allOk (zs.take 0):=by intro z hz;simp at hz

theorem implPackList_any (a:Option Addr) (len cap:Nat) (zs:List Int) (w:World) (h:Ints .i64 w a len cap zs) (hlen:len≤4096) :
  Calls Tryd.prog 53 #[.slice a len cap] w fun e w'=>((allOk zs∧e=.returned (.tuple #[.string (strOfNums (packL zs)),.int .i64 0]))∨(¬ allOk zs∧e=.returned (.tuple #[.string ByteArray.empty,.int .i64 4])))∧Below w.heap.size w w':=by
 obtain ⟨hl,hlc,hcm,hcase⟩:=h
 unfold maxLen at hcm
 rcases hcase with h0 | ⟨b,off,rfl,hblt,hcell⟩
 ·subst h0
  have hz:zs=[]:=by simpa using hl
  subst hz
  go_enter Tryd.func53,Tryd.ntmps53
  go_wp2_with fail
  refine (appendNumber_any w.heap.size 0 _ [] 0 _ (by omega) (World.ownsRow_nil _ _ _ _) (Nat.le_refl _) (by omega)).mono ?_
  rintro e w1 ⟨v',rfl,hown,hbel⟩
  have hcv:=conv_owned hown
  clear hown
  rw [List.nil_append] at hcv
  go_wp2
  refine wp_loop_rounds 1 ?_
  rw [rounds_succ]
  go_wp2
  go_ret2
  exact ⟨.inl ⟨(fun z hz=>by cases hz),rfl⟩,hbel⟩
 ·go_enter Tryd.func53,Tryd.ntmps53
  go_wp2_with fail
  refine (appendNumber_any w.heap.size 0 _ [] len _ (by omega) (World.ownsRow_nil _ _ _ _) (Nat.le_refl _) (by omega)).mono ?_
  rintro e w1 ⟨v',rfl,hown,hb1⟩
  rw [List.nil_append,Nat.zero_add] at hown
  go_wp2
  go_loopw [4,15] (fun sv si wr=>∃ k:Nat,k≤len∧si=.int .i64 k∧allOk (zs.take k)∧wr.ownsRow w.heap.size 5 1 sv (pack len++packs (zs.take k)).length (u8s (pack len++packs (zs.take k)))∧Below w.heap.size w wr) (fun _ si _=>len - (intOf si).toNat)
  case atStart=>exact ⟨0,by omega,rfl,okTo_zero zs,by simpa [packs] using hown,hb1⟩
  case round =>
   obtain ⟨k,hk,rfl,hto,ho,hbel⟩:=hrel
   by_cases hlt:k<len
   ·have hc:wr.cell? ⟨b,off+k,none⟩=some (.int .i64 (zs.getD k 0)):=by rw [hbel.cell (p:=⟨b,off+k,none⟩) hblt];exact hcell k hlt
    have hsn:=packs_snoc zs k (by omega)
    have hpl:=packs_len (zs.take k)
    have hp5:=(pack_len len).2
    have htl:(zs.take k).length≤4096:=by simp;omega
    have hm:(pack len++packs (zs.take k)).length≤1099511627776:=by rw [List.length_append];omega
    by_cases hx:0≤zs.getD k 0∧zs.getD k 0≤999999999
    ·have hto':=okTo_succ hto (by omega) hx
     generalize zs.getD k 0=x at hc hx hsn
     obtain ⟨n,rfl⟩:=Int.eq_ofNat_of_zero_le hx.1
     have hn:n≤999999999:=by omega
     rw [Int.toNat_natCast] at hsn
     have R:Hid (pack len++packs (zs.take k)++pack n=pack len++packs (zs.take (k+1))):=by rw [Hid,hsn,List.append_assoc]
     clear hsn hpl hp5 htl
     generalize pack len++packs (zs.take k)=ys at ho hm R
     have hbw:=hbel.size
     go_wp2_with (first | (go_at_call 95;refine (numberOK_yes _ _ hx).mono ?_;rintro e w' ⟨rfl,rfl⟩) | (go_at_call 94;refine (appendNumber_any w.heap.size _ _ ys n _ hn ho hbw hm).mono ?_;rintro e w2 ⟨v2,rfl,hown2,hb2⟩))
     rw [R.out,← List.length_append,R.out] at hown2
     go_roundw
     case rel=>exact ⟨k+1,by omega,by go_num,hto',hown2,hbel.trans hb2⟩
     case measure=>simp [intOf];omega
    ·have hbad:¬ allOk zs:=fun h=>hx (h _ (getD_mem (by omega)))
     generalize zs.getD k 0=x at hc hx hsn
     clear hsn hpl hp5 htl hm ho
     go_wp2_with (go_at_call 95;refine (numberOK_no _ _ hx).mono ?_;rintro e w' ⟨rfl,rfl⟩)
     go_ret2
     exact ⟨.inr ⟨hbad,rfl⟩,hbel⟩
   ·obtain rfl:k=len:=by omega
    rw [List.take_of_length_le (Nat.le_of_eq hl)] at hto ho
    have e:pack k++packs zs=packL zs:=by unfold packL;rw [hl]
    rw [e] at ho
    have hcv:=conv_owned ho
    clear ho
    go_wp2
    go_ret2
    exact ⟨.inl ⟨hto,rfl⟩,hbel⟩


theorem ext_getDL {xs ys:List Int} (hl:xs.length=ys.length) (h:∀ i,i<xs.length→xs.getD i 0=ys.getD i 0):xs=ys:=by
 refine List.ext_getElem hl (fun i h1 h2=>?_)
 have:=h i h1
 simpa [List.getD,h1,h2] using this

theorem l05Same_is (a:Option Addr) (n c:Nat) (xs:List Int) (a':Option Addr) (n' c':Nat) (ys:List Int) (w:World) (h:Ints .i64 w a n c xs) (h':Ints .i64 w a' n' c' ys) :
  Calls Tryd.prog 87 #[.slice a n c,.slice a' n' c'] w fun e w'=>e=.returned (.bool (decide (xs=ys)))∧∃ d,w'=w.drewN d:=by
 obtain ⟨dd,hdd⟩:∃ dd,dd=decide (xs=ys):=⟨_,rfl⟩
 rw [← hdd]
 have HD:Hid (dd=decide (xs=ys)):=hdd
 clear hdd
 obtain ⟨hl,hlc,hcm,hcase⟩:=h
 obtain ⟨hl',hlc',hcm',hcase'⟩:=h'
 unfold maxLen at hcm hcm'
 by_cases hnn:n=n'
 case neg =>
  have hne:((n:Int) != (n':Int))=true:=by simp;omega
  have HF:Hid (dd=false):=by
   rw [Hid,HD.out,decide_eq_false_iff_not]
   intro e
   rw [e,hl'] at hl
   exact hnn hl.symm
  clear hcase hcase'
  go_enter Tryd.func87,Tryd.ntmps87
  go_wp2
  go_ret
  exact ⟨by rw [HF.out];rfl,0,rfl⟩
 subst hnn
 have hne:((n:Int) != (n:Int))=false:=by simp
 by_cases h0:n=0
 ·subst h0
  have HT:Hid (dd=true):=by
   rw [Hid,HD.out,decide_eq_true_iff,List.length_eq_zero_iff.1 hl,List.length_eq_zero_iff.1 hl']
  clear hcase hcase' hl hl'
  go_enter Tryd.func87,Tryd.ntmps87
  go_wp2
  refine wp_loop_rounds 1 ?_
  rw [rounds_succ]
  go_wp2
  go_ret
  exact ⟨by rw [HT.out];rfl,0,rfl⟩
 ·rcases hcase with h0' | ⟨b,off,rfl,hblt,hcell⟩
  ·exact absurd h0' h0
  rcases hcase' with h0' | ⟨b',off',rfl,hblt',hcell'⟩
  ·exact absurd h0' h0
  have HL:Hid (xs.length=n∧ys.length=n):=⟨hl,hl'⟩
  clear hl hl'
  go_enter Tryd.func87,Tryd.ntmps87
  go_wp2
  go_loopw [5] (fun si wr=>∃ k d:Nat,k≤n∧si=.int .i64 k∧Hid (∀ i,i<k→xs.getD i 0=ys.getD i 0)∧wr=w.drewN d) (fun si _=>n - (intOf si).toNat)
  case atStart=>exact ⟨0,0,by omega,rfl,fun i hi=>by omega,rfl⟩
  case round =>
   obtain ⟨k,d,hk,rfl,hH,rfl⟩:=hrel
   by_cases hlt:k<n
   ·have hc:=hcell k hlt
    have hc':=hcell' k hlt
    have hlt':(k:Int)<(n:Int):=by omega
    clear hcell hcell'
    by_cases hx:xs.getD k 0=ys.getD k 0
    ·have hH2:Hid (∀ i,i<k+1→xs.getD i 0=ys.getD i 0):=fun i hi=>by
      by_cases e:i=k
      ·subst e;exact hx
      ·exact hH.out i (by omega)
     rw [← hx] at hc'
     clear hx hH
     generalize xs.getD k 0=x at hc hc'
     have hxx:(x != x)=false:=by simp
     go_wp2
     go_quiet (fail)
     go_wp2
     go_roundw
     case rel=>exact ⟨k+1,_,by omega,by go_num,hH2,rfl⟩
     case measure=>simp [intOf];omega
    ·have HF:Hid (dd=false):=by
      rw [Hid,HD.out,decide_eq_false_iff_not]
      intro e
      rw [e] at hx
      exact hx rfl
     have hxx:(xs.getD k 0 != ys.getD k 0)=true:=by simpa using hx
     clear hx hH
     generalize xs.getD k 0=x at hc hxx
     generalize ys.getD k 0=y at hc' hxx
     go_wp2
     go_quiet (fail)
     go_wp2
     go_ret
     exact ⟨by rw [HF.out];rfl,d+nq,by simp [World.drewN];omega⟩
   ·have HT:Hid (dd=true):=by
     rw [Hid,HD.out,decide_eq_true_iff]
     have hL:=HL.out
     exact ext_getDL (by omega) (fun i hi=>hH.out i (by omega))
    clear hcell hcell' hH
    go_wp2
    go_ret
    exact ⟨by rw [HT.out];rfl,d,rfl⟩

set_option linter.unusedVariables false
set_option linter.unusedSimpArgs false

theorem ints_of_row {w:World} {B n c:Nat} {a:Option Addr} {xs:List Int} (h:w.ownsRow B 3 1 (.slice a n c) n (xs.map (Value.int .i64))):Ints .i64 w a n c xs:=by
 have hl:=h.1
 rw [List.length_map,Nat.mul_one] at hl
 rcases h.2 with ⟨h1,h2⟩ | ⟨g,cap,cur,h1,_,_,h3,h4,_⟩
 ·cases h1
  exact ⟨hl,Nat.le_refl _,Nat.zero_le _,.inl rfl⟩
 ·cases h1
  exact Ints.of_owns h


theorem lst_slice {w:World} {B:Nat} {v:Value} {xs:List Int} (h:w.ownsRow B 3 1 v xs.length (xs.map (Value.int .i64))):∃ a cap,v=.slice a xs.length cap∧Ints .i64 w a xs.length cap xs:=by
 obtain ⟨a,cap,rfl⟩:=owns_sliceN h
 exact ⟨a,cap,rfl,ints_of_row h⟩
end Go.Proofs.YtjgffnlmjmibgaaDoor
