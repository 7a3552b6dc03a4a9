/-
  UnpackNumber, the program's and the specification's, at every text; FnExactUnpackNumber's walk; and what the condition on errors.errorType gives.
-/
import Derived.Test.YthbbeflcmnehpagDoorTakeWalk
import Derived.Test.YthbbeflcmnehpagDoorRows
import Derived.ProofKit
import Derived.LaidMore
import Derived.LaidHandle
import Derived.MakeChecks
namespace Go.Proofs.YthbbeflcmnehpagDoor
open Go.RowKit

theorem specUnpackNumber_long (s : ByteArray) (w : World) (hs : s.size ≤ 1048576) (h : 65536 < s.size) :
    Calls Tryd.prog 10 #[.string s] w fun e w' => e = .returned (.tuple #[.int .i64 0, .int .i64 0, .int .i64 2]) ∧ w = w' := by
  go_enter Tryd.func10, Tryd.ntmps10
  go_wp2
  go_ret3
  exact ⟨rfl, rfl⟩
theorem implUnpackNumber_long (s : ByteArray) (w : World) (hs : s.size ≤ 1048576) (h : 65536 < s.size) :
    Calls Tryd.prog 11 #[.string s] w fun e w' => e = .returned (.tuple #[.int .i64 0, .int .i64 0, .int .i64 2]) ∧ w = w' := by
  go_enter Tryd.func11, Tryd.ntmps11
  go_wp2
  go_ret3
  exact ⟨rfl, rfl⟩

/-- What UnpackNumber answers of a text of at most 65536 bytes. -/
def Unpacked (s : ByteArray) (e : Ending) : Prop := (∃ n k : Nat, Num s 0 n k ∧ e = .returned (.tuple #[.int .i64 n, .int .i64 k, .int .i64 0])) ∨ (NoNum s 0 ∧ e = .returned (.tuple #[.int .i64 0, .int .i64 0, .int .i64 3]))
theorem Unpacked.shape {s : ByteArray} {e : Ending} (h : Unpacked s e) : ∃ a b c : Int, e = .returned (.tuple #[.int .i64 a, .int .i64 b, .int .i64 c]) := by
  rcases h with ⟨n, k, _, rfl⟩ | ⟨_, rfl⟩
  · exact ⟨_, _, _, rfl⟩
  · exact ⟨_, _, _, rfl⟩
theorem Unpacked.same {s : ByteArray} {e f : Ending} (h : Unpacked s e) (g : Unpacked s f) : e = f := by
  rcases h with ⟨n, k, hn, rfl⟩ | ⟨hn, rfl⟩ <;> rcases g with ⟨m, j, hm, rfl⟩ | ⟨hm, rfl⟩
  · obtain ⟨rfl, rfl⟩ := hn.only hm; rfl
  · exact absurd hn (hm n k)
  · exact absurd hm (hn m j)
  · rfl

theorem one_le_of_num {s : ByteArray} {p n k : Nat} (h : Num s p n k) : 1 ≤ k ∧ k ≤ 5 := ⟨h.1.1, h.1.2.1⟩

set_option maxHeartbeats 1000000 in
theorem specUnpackNumber_any (s : ByteArray) (w : World) (hs : s.size ≤ 65536) :
    Calls Tryd.prog 10 #[.string s] w fun e w' => Unpacked s e ∧ w = w' := by
  go_enter Tryd.func10, Tryd.ntmps10
  go_wp2_with fail
  refine (l01Take_any s _ (by omega)).mono ?_
  rintro e w1 ⟨hk, rfl⟩
  rcases hk with ⟨n, k, hn, rfl⟩ | ⟨hn, rfl⟩
  · have hN : Hid (Num s 0 n k) := hn
    have hk0 : ((k : Int) == 0) = false := by have := one_le_of_num hn; simp; omega
    clear hn
    go_wp2
    go_ret3
    exact ⟨.inl ⟨n, k, hN.out, rfl⟩, rfl⟩
  · have hN : Hid (NoNum s 0) := hn
    clear hn
    go_wp2
    go_ret3
    exact ⟨.inr ⟨hN.out, rfl⟩, rfl⟩

set_option maxHeartbeats 1000000 in
theorem implUnpackNumber_any (s : ByteArray) (w : World) (hs : s.size ≤ 65536) (hE : ErrType w) :
    Calls Tryd.prog 11 #[.string s] w fun e w' => Unpacked s e ∧ Below w.heap.size w w' := by
  go_enter Tryd.func11, Tryd.ntmps11
  go_wp2_with fail
  refine (readNumber_any s 0 _ hs (by omega)).mono ?_
  rintro e w1 ⟨hk, hb1⟩
  have hE1 := hE.below hb1
  rcases hk with ⟨n, k, hn, rfl⟩ | ⟨hn, y, rfl⟩
  · have hN : Hid (Num s 0 n k) := hn
    clear hn
    rw [Nat.zero_add]
    go_wp2_with fail
    refine (faultCode_nil _).mono ?_
    rintro e w2 ⟨rfl, hb2⟩
    go_wp2
    go_ret3
    exact ⟨.inl ⟨n, k, hN.out, rfl⟩, sub_trans hb1 hb2⟩
  · have hN : Hid (NoNum s 0) := hn
    clear hn
    go_wp2_with fail
    refine (faultCode_hit 3 y _ hE1).mono ?_
    rintro e w2 ⟨rfl, hb2⟩
    go_wp2
    go_ret3
    exact ⟨.inr ⟨hN.out, rfl⟩, sub_trans hb1 hb2⟩

set_option maxHeartbeats 1000000 in
theorem fnExactUnpackNumber_walk (a0 : ByteArray) (w0 : a0.size ≤ maxLen) (w : World) (hE : ErrType w) :
    Calls Tryd.prog 5 #[.string a0] w fun e w' => e = .returned (.bool true) ∧ Below w.heap.size w w' := by
  unfold maxLen at w0
  by_cases hb : 1048576 < a0.size
  · go_enter Tryd.func5, Tryd.ntmps5
    go_wp2
    go_ret
    exact ⟨rfl, Below.refl _ _⟩
  have hb' : a0.size ≤ 1048576 := by omega
  clear hb w0
  by_cases hl : 65536 < a0.size
  · go_enter Tryd.func5, Tryd.ntmps5
    go_wp2_with fail
    refine (specUnpackNumber_long a0 _ hb' hl).mono ?_
    rintro e w1 ⟨rfl, rfl⟩
    go_wp2_with fail
    refine (implUnpackNumber_long a0 _ hb' hl).mono ?_
    rintro e w2 ⟨rfl, rfl⟩
    go_wp2
    go_ret
    exact ⟨rfl, Below.refl _ _⟩
  · have hl' : a0.size ≤ 65536 := by omega
    clear hl hb'
    go_enter Tryd.func5, Tryd.ntmps5
    go_wp2_with fail
    refine (specUnpackNumber_any a0 _ hl').mono ?_
    rintro e w1 ⟨hu1, rfl⟩
    obtain ⟨a, b, c, rfl⟩ := hu1.shape
    have H1 : Hid (Unpacked a0 (.returned (.tuple #[.int .i64 a, .int .i64 b, .int .i64 c]))) := hu1
    clear hu1
    go_wp2_with fail
    refine (implUnpackNumber_any a0 _ hl' hE).mono ?_
    rintro e w2 ⟨hu2, hb2⟩
    obtain rfl := H1.out.same hu2
    clear hu2 H1
    go_wp2
    go_ret
    exact ⟨rfl, hb2⟩

theorem et_global : Tryd.prog.globalNamed "errors.errorType" = some 1 := by kernel_rfl
theorem et_rt : (Tryd.prog.cutTypes.find? (·.1 == "internal/reflectlite.rtype")).map (·.2) = some 55 := by kernel_rfl
theorem et_size : Tryd.prog.types.size = 98 := by kernel_rfl
theorem et_oneRow : ((List.range 98).filter fun t => Tryd.prog.rowNamed t [101, 114, 114, 111, 114]) = [33] := by kernel_rfl
theorem et_handle : typeHandle Tryd.prog 33 = .pointer (some ⟨2, 33, none⟩) := by kernel_rfl

/-- What the condition on errors.errorType gives a walk: the variable's one cell. -/
theorem errType_of_laid {W : World} {l : List (String × DataW Unit)} (hl : l = [("errors.errorType", Rows.laid_errors_errorType)]) (h : laidMetH Tryd.prog l W) : ErrType W := by
  subst hl
  have h' : laidMet Tryd.prog [] W ∧ handlesMet Tryd.prog [("errors.errorType", Rows.laid_errors_errorType)] W := h
  obtain ⟨name, u, ty, e1, e2, e3, e4, e5⟩ := h'.2 _ (List.mem_singleton.2 rfl)
  have en : name = [101, 114, 114, 111, 114] := (Option.some.inj e1).symm
  subst en
  obtain rfl := Option.some.inj (et_rt.symm.trans e2)
  have hm : ty ∈ (List.range 98).filter fun t => Tryd.prog.rowNamed t [101, 114, 114, 111, 114] := List.mem_filter.2 ⟨List.mem_range.2 (by rw [← et_size]; exact e3), e4⟩
  rw [et_oneRow] at hm
  obtain rfl := List.mem_singleton.1 hm
  rw [et_handle] at e5
  unfold ErrType
  simpa using World.var?_cell et_global e5 0

theorem fnExactUnpackNumber_laid {W : World} (h : laidMetH Tryd.prog Rows.fnExactUnpackNumberRow.laid W) : ErrType W := errType_of_laid rfl h
theorem fnExactUnpackNumber_door_met (os : Os) (args : Array Value) : laidMetH Tryd.prog Rows.fnExactUnpackNumberRow.laid ((World.doorLaid Tryd.prog 400 os).forCall (fun _ _ => 0) ⟨#[], args, []⟩).memory :=
  laidMetH_of_parts3 (fuel := 8) (laidMet_of_run' 8 (by kernel_rfl) (by kernel_rfl)) (by kernel_rfl) (by kernel_rfl)
end Go.Proofs.YthbbeflcmnehpagDoor
