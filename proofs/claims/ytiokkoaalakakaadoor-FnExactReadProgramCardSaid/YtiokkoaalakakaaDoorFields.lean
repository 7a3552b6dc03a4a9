/-
  impl.isBlank, impl.wordsOf: strings.FieldsFunc by the library's contract, laid at this program in plain words (the table of numbers, a field a fact).
-/
import Derived.Shelf.LaysM
import Derived.Shelf.Strings.FieldsFuncAny
import Derived.Test.YtiokkoaalakakaaDoorProg
import Derived.Test.YtiokkoaalakakaaDoorWordsP
import Derived.Test.YtiokkoaalakakaaDoorStrS
namespace Go.Proofs.YtiokkoaalakakaaDoor
open Go.RowKit Go.Shelf

def fieldsRen : Go.Shelf.Ren := ⟨fun | 229 => 63 | n => n, fun | 9 => 9 | 40 => 89 | 31 => 37 | 152 => 112 | 3 => 3 | 0 => 0 | 4 => 4 | 21 => 21 | 154 => 114 | n => n, fun | n => n⟩
theorem fieldsLays : Go.Proofs.Lays.n229 Tryd.prog fieldsRen := {
  mixed := by kernel_rfl
  f229 := Tryd.func63.trans (congrArg some (by kernel_rfl))
  t0 := Tryd.underlying0
  a0 := Tryd.isAgg0
  z0 := Tryd.sizeOf0
  v0 := Tryd.zeroValue0
  t3 := Tryd.underlying3
  a3 := Tryd.isAgg3
  z3 := Tryd.sizeOf3
  v3 := Tryd.zeroValue3
  t4 := Tryd.underlying4
  a4 := Tryd.isAgg4
  z4 := Tryd.sizeOf4
  v4 := Tryd.zeroValue4
  t9 := Tryd.underlying9
  a9 := Tryd.isAgg9
  z9 := Tryd.sizeOf9
  v9 := Tryd.zeroValue9
  t21 := Tryd.underlying21
  a21 := Tryd.isAgg21
  z21 := Tryd.sizeOf21
  v21 := Tryd.zeroValue21
  t31 := Tryd.underlying37
  a31 := Tryd.isAgg37
  z31 := Tryd.sizeOf37
  v31 := Tryd.zeroValue37
  t40 := Tryd.underlying89
  a40 := Tryd.isAgg89
  z40 := Tryd.sizeOf89
  v40 := Tryd.zeroValue89
  t152 := Tryd.underlying112
  a152 := Tryd.isAgg112
  z152 := Tryd.sizeOf112
  v152 := Tryd.zeroValue112
  t154 := Tryd.underlying114
  a154 := Tryd.isAgg114
  z154 := Tryd.sizeOf114
  v154 := Tryd.zeroValue114 }

theorem isBlank_is (r : Int) (w : World) : Calls Tryd.prog 64 #[.int .i32 r] w fun e w' => e = .returned (.bool (r == 32)) ∧ w = w' := by
  go_enter Tryd.func64, Tryd.ntmps64
  go_wp2
  go_ret
  exact ⟨rfl, rfl⟩

theorem isBlank_runes (w : World) : PredAtRunes Tryd.prog 64 #[] isBl w := fun W x _ _ => by
  unfold FnGives
  refine (isBlank_is (x : Int) W).mono ?_
  rintro e w' ⟨rfl, rfl⟩
  refine ⟨?_, 0, rfl⟩
  congr 2
  unfold isBl
  by_cases h : x = 32
  · subst h; rfl
  · rw [beq_eq_false_iff_ne.2 h, beq_eq_false_iff_ne.2 (by omega : (x : Int) ≠ 32)]

set_option maxHeartbeats 1000000 in
theorem wordsOf_is (s : ByteArray) (w : World) (hs : s.size ≤ 4294967296) : Calls Tryd.prog 37 #[.string s] w fun e w' => ∃ v, e = .returned v ∧ w'.ownsRow w.heap.size 9 1 v (wordsT s).length ((wordsT s).map Value.string) ∧ Below w.heap.size w w' := by
  have hC := Any.strings_FieldsFunc_runes fieldsLays 64 #[] (enters_of Tryd.func64 (by kernel_rfl) rfl) isBl s w hs (isBlank_runes w) (by kernel_rfl) (by kernel_rfl)
  change Calls Tryd.prog 63 #[_, .func (.func 64) #[] #[]] _ _ at hC
  change Calls _ _ _ _ fun e w' => ∃ A, e = .returned (.slice (some ⟨A, 0, none⟩) (wordsT s).length (wordsT s).length) ∧ w.heap.size ≤ A ∧ w'.ownsRow w.heap.size 9 1 (.slice (some ⟨A, 0, none⟩) (wordsT s).length (wordsT s).length) (wordsT s).length ((wordsT s).map Value.string) ∧ Below w.heap.size w w' at hC
  go_enter Tryd.func37, Tryd.ntmps37
  go_wp2_with fail
  refine hC.mono ?_
  rintro e w1 ⟨A, rfl, _, ho, hb⟩
  have HO : Hid (w1.ownsRow w.heap.size 9 1 (.slice (some ⟨A, 0, none⟩) (wordsT s).length (wordsT s).length) (wordsT s).length ((wordsT s).map Value.string)) := ho
  clear ho hC
  go_wp2
  go_ret
  exact ⟨_, rfl, HO.out, hb⟩
end Go.Proofs.YtiokkoaalakakaaDoor
