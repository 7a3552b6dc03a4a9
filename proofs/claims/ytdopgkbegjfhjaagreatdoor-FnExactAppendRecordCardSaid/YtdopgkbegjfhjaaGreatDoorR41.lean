/-
  Joined: PackNum0, Frame, Digits.
-/
import Derived.Lib.AppendStr
import Derived.Deep.RegionWith
import Derived.Test.YtdopgkbegjfhjaaGreatDoorR25

namespace Go.Proofs.YtdopgkbegjfhjaaGreatDoor
set_option maxRecDepth 100000
set_option maxHeartbeats 16000000
open Go.RowKit

theorem l01Number_any (n:Nat) (w:World) (hn:n≤999999999) :
  Calls Tryz.prog 114 #[.int .i64 n] w fun e w'=>e=.returned (.string (strOfNums (pack n)))∧Below w.heap.size w w':=by
 obtain ⟨i0,hi,hz0,hz1,hz2⟩:=info_parts info_u8
 go_enter Tryz.func114,Tryz.ntmps114
 go_wp2
 go_loopw [0,3] (fun si sv wr=>∃ (k:Nat) (ys:List Int),k≤999999999∧si=.int .i64 k∧wr.ownsRow w.heap.size 5 1 sv ys.length (u8s ys)∧Hid (ys++pack k=pack n)∧Below w.heap.size w wr) (fun si _ _=>(intOf si).toNat)
 case atStart=>exact ⟨n,[],hn,rfl,World.ownsRow_lit w #[] 0 (Nat.le_refl _) (by unfold maxLen;omega) rfl,by simp [Hid],(Below.refl _ _).alloc (Nat.le_refl _) _⟩
 case round =>
  obtain ⟨k,ys,hk,rfl,ho,HY,hbel⟩:=hrel
  have hlen:ys.length≤4:=by
   have h1:=congrArg List.length HY.out
   have h2:=pack_len k
   have h3:=pack_len n
   simp at h1;omega
  have hbw:w.heap.size≤wr.heap.size:=hbel.size
  by_cases hlt:128≤k
  ·go_wp2_with (at_builtin;refine wpList_append_own _ rfl _ _ 22 rfl w.heap.size 5 i0 (.int .u8 0) 1 1 Tryz.underlying22 hi hz0 hz1 hz2 rfl (by decide) _ _ _ rfl (ho.alloc _) ⟨wr.heap.size,0,none⟩ 1 1 [.int .u8 (128+(k:Int) % 128)] rfl rfl (cell_one_new _ _ _) (one_u8 _) ?c3 ?c4 ?c5 ?_)
   case c3=>unfold maxLen;omega
   case c4=>omega
   case c5=>simp;omega
   intro v' w1 hown' hgrow _
   have hcomm:(128+(k:Int) % 128)=(k:Int) % 128+128:=by omega
   rw [hcomm] at hown'
   clear hcomm
   have R:w1.ownsRow w.heap.size 5 1 v' (ys++[(k:Int) % 128+128]).length (u8s (ys++[(k:Int) % 128+128])):=by simpa [Nat.add_assoc] using hown'
   have hb1:Below w.heap.size w w1:=(hbel.alloc hbw _).grown hgrow (by simp;omega) (fun j hj=>(ho.lt _ hj).1)
   clear hown' hgrow ho
   go_wp2
   go_roundw
   case rel=>exact ⟨k / 128,ys++[(k:Int) % 128+128],by omega,by go_num,R,by rw [Hid,List.append_assoc,List.singleton_append,← pack_step hlt (by omega)];exact HY.out,hb1⟩
   case measure=>simp [intOf];omega
  ·go_wp2_with (at_builtin;refine wpList_append_own _ rfl _ _ 22 rfl w.heap.size 5 i0 (.int .u8 0) 1 1 Tryz.underlying22 hi hz0 hz1 hz2 rfl (by decide) _ _ _ rfl (ho.alloc _) ⟨wr.heap.size,0,none⟩ 1 1 [.int .u8 (k:Int)] rfl rfl (cell_one_new _ _ _) (one_u8 _) ?d3 ?d4 ?d5 ?_)
   case d3=>unfold maxLen;omega
   case d4=>omega
   case d5=>simp;omega
   intro v' w1 hown' hgrow _
   have hb1:Below w.heap.size w w1:=(hbel.alloc hbw _).grown hgrow (by simp;omega) (fun j hj=>(ho.lt _ hj).1)
   have hp:pack n=ys++[(k:Int)]:=by rw [← HY.out,pack_small (by omega)]
   have R:w1.ownsRow w.heap.size 5 1 v' (ys.length+1) (u8s (pack n)):=by rw [hp];simpa [Nat.add_assoc] using hown'
   have hcv:=conv_owned R
   clear hown' hgrow ho hp HY R
   go_wp2
   go_ret
   exact ⟨rfl,hb1⟩


theorem sum_lt (s:ByteArray):0≤sumTo s s.size∧sumTo s s.size<16381:=by
 cases h:s.size with
 | zero=>simp [sumTo,h]
 | succ k=>simp only [sumTo];omega

def headOf (s:ByteArray):List Int:=pack s.size++[sumTo s s.size / 256,sumTo s s.size % 256]
def frameOf (s:ByteArray):ByteArray:=strOfNums (headOf s)++s

def nums (s:ByteArray):List Int:=s.data.toList.map fun b=>(b.toNat:Int)
theorem strCells_nums (s:ByteArray):Lib.strCells s=u8s (nums s):=by simp [Lib.strCells,nums,Function.comp_def]
theorem str_nums (s:ByteArray):strOfNums (nums s)=s:=by
 apply ByteArray.ext
 simp [strOfNums,nums,Function.comp_def]
theorem frame_eq (s:ByteArray):strOfNums (headOf s++nums s)=frameOf s:=by rw [str_append,str_nums];rfl

theorem conv_two (a b:Int) (g cap:Nat) (W:World) (h0:W.cell? ⟨g,0,none⟩=some (.int .u8 a)) (h1:W.cell? ⟨g,1,none⟩=some (.int .u8 b)) :
  (convert 22 9 (.slice (some ⟨g,0,none⟩) 2 cap)).run Tryz.prog W=.ok (.string (strOfNums [a,b])) W:=by
 refine run_convert_bytes_arg W 22 5 Tryz.underlying22 Tryz.underlying5 g 0 2 cap [a,b] rfl (fun i hi=>?_) 9 Tryz.underlying9
 match i,hi with
 | 0,_=>simpa using h0
 | 1,_=>simpa using h1

theorem bcell {W w1:World} (hb:Below W.heap.size W w1):(∀ b o,b<W.heap.size→w1.cell? ⟨b,o,none⟩=W.cell? ⟨b,o,none⟩):=
 fun b o h=>hb.cell (p:=⟨b,o,none⟩) h

theorem l01Frame_any (s:ByteArray) (w:World) (hs:s.size≤60000) :
  Calls Tryz.prog 81 #[.string s] w fun e w'=>e=.returned (.string (frameOf s))∧Below w.heap.size w w':=by
 obtain ⟨g0,g1⟩:=sum_lt s
 have HF:Hid (frameOf s=strOfNums (pack s.size)++strOfNums [sumTo s s.size / 256,sumTo s s.size % 256]++s):=by
  rw [Hid,← str_append];rfl
 have hcv:=fun g cap W h0 h1=>conv_two (sumTo s s.size / 256) (sumTo s s.size % 256) g cap W h0 h1
 have hp5:=(pack_len s.size).2
 have hz1:(strOfNums (pack s.size)).size≤5:=by rw [strOfNums_size];exact hp5
 have hz2:(strOfNums [sumTo s s.size / 256,sumTo s s.size % 256]).size=2:=rfl
 have hz3:(strOfNums (pack s.size)++strOfNums [sumTo s s.size / 256,sumTo s s.size % 256]).size≤7:=by rw [ByteArray.size_append];omega
 have ha1:=fun W=>run_string_add_sum (P:=Tryz.prog) W (strOfNums (pack s.size)) (strOfNums [sumTo s s.size / 256,sumTo s s.size % 256]) (by omega)
 have ha2:=fun W=>run_string_add_sum (P:=Tryz.prog) W (strOfNums (pack s.size)++strOfNums [sumTo s s.size / 256,sumTo s s.size % 256]) s (by omega)
 clear hz1 hz2 hz3 hp5
 go_enter Tryz.func81,Tryz.ntmps81
 go_wp2_with (go_at_call 113;refine (l01Sum_any s _ (by omega)).mono ?_;rintro e w' ⟨rfl,rfl⟩)
 generalize sumTo s s.size=x at *
 have hq1:x.tdiv 256=x / 256:=Int.tdiv_eq_ediv_of_nonneg g0
 have hq2:IntKind.i64.wrap (x / 256)=x / 256:=by rw [IntKind.wrap_i64];omega
 have hq3:x.tmod 256=x % 256:=Int.tmod_eq_emod_of_nonneg g0
 have hq4:IntKind.u8.wrap (x / 256)=x / 256:=by rw [IntKind.wrap_u8];omega
 have hq5:IntKind.u8.wrap (x % 256)=x % 256:=by rw [IntKind.wrap_u8];omega
 go_region_with (go_at_call 114;refine (l01Number_any s.size _ (by omega)).mono ?_;rintro e w1 ⟨rfl,hb1⟩;have hc1:=bcell hb1)
 all_goals
  go_wp2
  go_ret
  refine ⟨by rw [HF.out];rfl,?_⟩
  first
   | exact ((Below.refl _ w).drew.trans hb1).alloc hb1.size _
   | exact ((Below.refl _ w).alloc (Nat.le_refl _) _).drew.trans (hb1.mono (by simp))

theorem two_u8 (a b:Int):∀ u ∈ [Value.int .u8 a,Value.int .u8 b],u.oneCell'=true:=by
 intro u hu;simp at hu;rcases hu with rfl | rfl<;>rfl

theorem implFrameText_ok (s:ByteArray) (w:World) (hs:s.size≤60000) :
  Calls Tryz.prog 39 #[.string s] w fun e w'=>e=.returned (.tuple #[.string (frameOf s),.int .i64 0])∧Below w.heap.size w w':=by
 obtain ⟨i0,hi,hz0,hz1,hz2⟩:=info_parts info_u8
 obtain ⟨g0,g1⟩:=sum_lt s
 have hp5:=(pack_len s.size).2
 go_enter Tryz.func39,Tryz.ntmps39
 go_wp2_with fail
 refine (implSumOf_any s _ (by omega)).mono ?_
 rintro e w0 ⟨rfl,rfl⟩
 have HH:Hid (headOf s=pack s.size++[sumTo s s.size / 256,sumTo s s.size % 256]):=rfl
 generalize sumTo s s.size=x at *
 go_wp2_with fail
 refine (appendNumber_any w.heap.size 0 _ [] s.size _ (by omega) (World.ownsRow_nil _ _ _ _) (Nat.le_refl _) (by omega)).mono ?_
 rintro e w1 ⟨v1,rfl,ho1,hb1⟩
 rw [List.nil_append,Nat.zero_add] at ho1
 have hbw:=hb1.size
 go_wp2_with (at_builtin;refine wpList_append_own _ rfl (.tmp 16) (.tmp 23) 22 rfl w.heap.size 5 i0 (.int .u8 0) 1 1 Tryz.underlying22 hi hz0 hz1 hz2 rfl (by decide) _ _ _ rfl (ho1.alloc _) ⟨w1.heap.size,0,none⟩ 2 2 [.int .u8 (x / 256),.int .u8 (x % 256)] rfl rfl (cell_two_new _ _ _ _) (two_u8 _ _) ?c3 ?c4 ?c5 ?_)
 case c3=>unfold maxLen;omega
 case c4=>omega
 case c5=>simp;omega
 intro v2 w2 ho2 hg2 _
 have hb2:Below w.heap.size w w2:=(hb1.alloc hbw _).grown hg2 (by simp;omega) (fun j hj=>(ho1.lt _ hj).1)
 have hbw2:=hb2.size
 have ho2':w2.ownsRow w.heap.size 5 1 v2 ((pack s.size).length+2) (u8s (headOf s)):=by rw [HH.out];simpa using ho2
 clear ho2 hg2 ho1 HH
 go_wp2_with (at_builtin;refine Lib.wpList_append_own_string _ rfl _ _ 22 9 rfl w.heap.size 5 i0 Tryz.underlying22 Tryz.underlying9 hi hz0 hz1 hz2 _ _ _ rfl ho2' s rfl ?e3 ?e4 ?e5 ?_)
 case e3=>unfold maxLen;omega
 case e4=>omega
 case e5=>omega
 intro v3 w3 ho3 hg3 _
 have hb3:Below w.heap.size w w3:=hb2.grown hg3 hbw2 (fun j hj=>(ho2'.lt _ hj).1)
 rw [strCells_nums,← List.map_append] at ho3
 have hcv:=conv_owned ho3
 rw [frame_eq] at hcv
 clear ho3 hg3 ho2'
 go_wp2
 go_ret2
 exact ⟨rfl,hb3⟩


def digT (n:Nat):ByteArray:=strOfNums [48+(n:Int)]

theorem itoa_digit (n:Nat) (hn:n<10) (w:World):Calls Tryz.prog 40 #[.int .i64 n] w fun e w'=>e=.returned (.string (digT n))∧w=w':=by
 have hc:n=0∨n=1∨n=2∨n=3∨n=4∨n=5∨n=6∨n=7∨n=8∨n=9:=by omega
 clear hn
 rcases hc with rfl | rfl | rfl | rfl | rfl | rfl | rfl | rfl | rfl | rfl
 all_goals
  go_enter Tryz.func40,Tryz.ntmps40
  go_wp2
  go_ret
  exact ⟨rfl,rfl⟩

end Go.Proofs.YtdopgkbegjfhjaaGreatDoor
