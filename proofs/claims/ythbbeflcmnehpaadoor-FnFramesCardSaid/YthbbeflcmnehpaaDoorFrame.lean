/-
  FrameText, the program's and the specification's: both answer the length's bytes, the sum in two bytes, the text; ErrLong and ErrSize of what is too long.
-/
import Derived.Test.YthbbeflcmnehpaaDoorPackNum0
import Derived.Test.YthbbeflcmnehpaaDoorSum0
import Derived.Lib.AppendStr
import Derived.Deep.RegionWith
import Derived.BigRegion
namespace Go.Proofs.YthbbeflcmnehpaaDoor
open Go.RowKit

theorem sum_lt (s : ByteArray) : 0 ≤ sumTo s s.size ∧ sumTo s s.size < 16381 := by
  cases h : s.size with
  | zero => simp [sumTo, h]
  | succ k => simp only [sumTo]; omega

/-- A frame's bytes ahead of its text. -/
def headOf (s : ByteArray) : List Int := pack s.size ++ [sumTo s s.size / 256, sumTo s s.size % 256]
def frameOf (s : ByteArray) : ByteArray := strOfNums (headOf s) ++ s

/-- A text's bytes as numbers. -/
def nums (s : ByteArray) : List Int := s.data.toList.map fun b => (b.toNat : Int)
theorem strCells_nums (s : ByteArray) : Lib.strCells s = u8s (nums s) := by simp [Lib.strCells, nums, Function.comp_def]
theorem str_nums (s : ByteArray) : strOfNums (nums s) = s := by
  apply ByteArray.ext
  simp [strOfNums, nums, Function.comp_def]
theorem nums_len (s : ByteArray) : (nums s).length = s.size := by simp [nums]
theorem frame_eq (s : ByteArray) : strOfNums (headOf s ++ nums s) = frameOf s := by rw [str_append, str_nums]; rfl

theorem conv_two (a b : Int) (g cap : Nat) (W : World) (h0 : W.cell? ⟨g, 0, none⟩ = some (.int .u8 a)) (h1 : W.cell? ⟨g, 1, none⟩ = some (.int .u8 b)) :
    (convert 22 9 (.slice (some ⟨g, 0, none⟩) 2 cap)).run Tryd.prog W = .ok (.string (strOfNums [a, b])) W := by
  refine run_convert_bytes_arg W 22 5 Tryd.underlying22 Tryd.underlying5 g 0 2 cap [a, b] rfl (fun i hi => ?_) 9 Tryd.underlying9
  match i, hi with
  | 0, _ => simpa using h0
  | 1, _ => simpa using h1

theorem bcell {W w1 : World} (hb : Below W.heap.size W w1) : (∀ b o, b < W.heap.size → w1.cell? ⟨b, o, none⟩ = W.cell? ⟨b, o, none⟩) :=
  fun b o h => hb.cell (p := ⟨b, o, none⟩) h

set_option maxHeartbeats 2000000 in
set_option maxRecDepth 100000 in
theorem l01Frame_any (s : ByteArray) (w : World) (hs : s.size ≤ 60000) :
    Calls Tryd.prog 31 #[.string s] w fun e w' => e = .returned (.string (frameOf s)) ∧ Below w.heap.size w w' := by
  obtain ⟨g0, g1⟩ := sum_lt s
  have HF : Hid (frameOf s = strOfNums (pack s.size) ++ strOfNums [sumTo s s.size / 256, sumTo s s.size % 256] ++ s) := by
    rw [Hid, ← str_append]; rfl
  have hcv := fun g cap W h0 h1 => conv_two (sumTo s s.size / 256) (sumTo s s.size % 256) g cap W h0 h1
  have hp5 := (pack_len s.size).2
  have hz1 : (strOfNums (pack s.size)).size ≤ 5 := by rw [strOfNums_size]; exact hp5
  have hz2 : (strOfNums [sumTo s s.size / 256, sumTo s s.size % 256]).size = 2 := rfl
  have hz3 : (strOfNums (pack s.size) ++ strOfNums [sumTo s s.size / 256, sumTo s s.size % 256]).size ≤ 7 := by rw [ByteArray.size_append]; omega
  have ha1 := fun W => run_string_add_sum (P := Tryd.prog) W (strOfNums (pack s.size)) (strOfNums [sumTo s s.size / 256, sumTo s s.size % 256]) (by omega)
  have ha2 := fun W => run_string_add_sum (P := Tryd.prog) W (strOfNums (pack s.size) ++ strOfNums [sumTo s s.size / 256, sumTo s s.size % 256]) s (by omega)
  clear hz1 hz2 hz3 hp5
  go_enter Tryd.func31, Tryd.ntmps31
  go_wp2_with (go_at_call 33; refine (l01Sum_any s _ (by omega)).mono ?_; rintro e w' ⟨rfl, rfl⟩)
  generalize sumTo s s.size = x at *
  have hq1 : x.tdiv 256 = x / 256 := Int.tdiv_eq_ediv_of_nonneg g0
  have hq2 : IntKind.i64.wrap (x / 256) = x / 256 := by rw [IntKind.wrap_i64]; omega
  have hq3 : x.tmod 256 = x % 256 := Int.tmod_eq_emod_of_nonneg g0
  have hq4 : IntKind.u8.wrap (x / 256) = x / 256 := by rw [IntKind.wrap_u8]; omega
  have hq5 : IntKind.u8.wrap (x % 256) = x % 256 := by rw [IntKind.wrap_u8]; omega
  go_region_with (go_at_call 36; refine (l01Number_any s.size _ (by omega)).mono ?_; rintro e w1 ⟨rfl, hb1⟩; have hc1 := bcell hb1)
  all_goals
    go_wp2
    go_ret
    refine ⟨by rw [HF.out]; rfl, ?_⟩
    first
      | exact ((Below.refl _ w).drew.trans hb1).alloc hb1.size _
      | exact ((Below.refl _ w).alloc (Nat.le_refl _) _).drew.trans (hb1.mono (by simp))

set_option maxHeartbeats 1000000 in
theorem specFrameText_ok (s : ByteArray) (w : World) (hs : s.size ≤ 60000) :
    Calls Tryd.prog 16 #[.string s] w fun e w' => e = .returned (.tuple #[.string (frameOf s), .int .i64 0]) ∧ Below w.heap.size w w' := by
  go_enter Tryd.func16, Tryd.ntmps16
  go_wp2_with (go_at_call 31; refine (l01Frame_any s _ hs).mono ?_; rintro e w1 ⟨rfl, hb1⟩)
  go_ret2
  exact ⟨rfl, hb1⟩
theorem specFrameText_size (s : ByteArray) (w : World) (hs : s.size ≤ 65536) (h : 60000 < s.size) :
    Calls Tryd.prog 16 #[.string s] w fun e w' => e = .returned (.tuple #[.string ByteArray.empty, .int .i64 8]) ∧ w = w' := by
  go_enter Tryd.func16, Tryd.ntmps16
  go_wp2
  go_ret2
  exact ⟨rfl, rfl⟩
theorem specFrameText_long (s : ByteArray) (w : World) (hs : s.size ≤ 1048576) (h : 65536 < s.size) :
    Calls Tryd.prog 16 #[.string s] w fun e w' => e = .returned (.tuple #[.string ByteArray.empty, .int .i64 2]) ∧ w = w' := by
  go_enter Tryd.func16, Tryd.ntmps16
  go_wp2
  go_ret2
  exact ⟨rfl, rfl⟩
theorem implFrameText_size (s : ByteArray) (w : World) (hs : s.size ≤ 65536) (h : 60000 < s.size) :
    Calls Tryd.prog 15 #[.string s] w fun e w' => e = .returned (.tuple #[.string ByteArray.empty, .int .i64 8]) ∧ w = w' := by
  go_enter Tryd.func15, Tryd.ntmps15
  go_wp2
  go_ret2
  exact ⟨rfl, rfl⟩
theorem implFrameText_long (s : ByteArray) (w : World) (hs : s.size ≤ 1048576) (h : 65536 < s.size) :
    Calls Tryd.prog 15 #[.string s] w fun e w' => e = .returned (.tuple #[.string ByteArray.empty, .int .i64 2]) ∧ w = w' := by
  go_enter Tryd.func15, Tryd.ntmps15
  go_wp2
  go_ret2
  exact ⟨rfl, rfl⟩

theorem two_u8 (a b : Int) : ∀ u ∈ [Value.int .u8 a, Value.int .u8 b], u.oneCell' = true := by
  intro u hu; simp at hu; rcases hu with rfl | rfl <;> rfl

set_option maxHeartbeats 2000000 in
set_option maxRecDepth 100000 in
theorem implFrameText_ok (s : ByteArray) (w : World) (hs : s.size ≤ 60000) :
    Calls Tryd.prog 15 #[.string s] w fun e w' => e = .returned (.tuple #[.string (frameOf s), .int .i64 0]) ∧ Below w.heap.size w w' := by
  obtain ⟨i0, hi, hz0, hz1, hz2⟩ := info_parts info_u8
  obtain ⟨g0, g1⟩ := sum_lt s
  have hp5 := (pack_len s.size).2
  go_enter Tryd.func15, Tryd.ntmps15
  go_wp2_with fail
  refine (implSumOf_any s _ (by omega)).mono ?_
  rintro e w0 ⟨rfl, rfl⟩
  have HH : Hid (headOf s = pack s.size ++ [sumTo s s.size / 256, sumTo s s.size % 256]) := rfl
  generalize sumTo s s.size = x at *
  go_wp2_with fail
  refine (appendNumber_any w.heap.size 0 _ [] s.size _ (by omega) (World.ownsRow_nil _ _ _ _) (Nat.le_refl _) (by omega)).mono ?_
  rintro e w1 ⟨v1, rfl, ho1, hb1⟩
  rw [List.nil_append, Nat.zero_add] at ho1
  have hbw := hb1.size
  go_wp2_with (at_builtin; refine wpList_append_own _ rfl (.tmp 16) (.tmp 23) 22 rfl w.heap.size 5 i0 (.int .u8 0) 1 1 Tryd.underlying22 hi hz0 hz1 hz2 rfl (by decide) _ _ _ rfl (ho1.alloc _) ⟨w1.heap.size, 0, none⟩ 2 2 [.int .u8 (x / 256), .int .u8 (x % 256)] rfl rfl (cell_two_new _ _ _ _) (two_u8 _ _) ?c3 ?c4 ?c5 ?_)
  case c3 => unfold maxLen; omega
  case c4 => omega
  case c5 => simp; omega
  intro v2 w2 ho2 hg2 _
  have hb2 : Below w.heap.size w w2 := (hb1.alloc hbw _).grown hg2 (by simp; omega) (fun j hj => (ho1.lt _ hj).1)
  have hbw2 := hb2.size
  have ho2' : w2.ownsRow w.heap.size 5 1 v2 ((pack s.size).length + 2) (u8s (headOf s)) := by rw [HH.out]; simpa using ho2
  clear ho2 hg2 ho1 HH
  go_wp2_with (at_builtin; refine Lib.wpList_append_own_string _ rfl _ _ 22 9 rfl w.heap.size 5 i0 Tryd.underlying22 Tryd.underlying9 hi hz0 hz1 hz2 _ _ _ rfl ho2' s rfl ?e3 ?e4 ?e5 ?_)
  case e3 => unfold maxLen; omega
  case e4 => omega
  case e5 => omega
  intro v3 w3 ho3 hg3 _
  have hb3 : Below w.heap.size w w3 := hb2.grown hg3 hbw2 (fun j hj => (ho2'.lt _ hj).1)
  rw [strCells_nums, ← List.map_append] at ho3
  have hcv := conv_owned ho3
  rw [frame_eq] at hcv
  clear ho3 hg3 ho2'
  go_wp2
  go_ret2
  exact ⟨rfl, hb3⟩
end Go.Proofs.YthbbeflcmnehpaaDoor
