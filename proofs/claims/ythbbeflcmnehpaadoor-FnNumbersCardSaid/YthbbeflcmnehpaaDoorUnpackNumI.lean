/-
  The program's UnpackNumber at every text.
-/
import Derived.Test.YthbbeflcmnehpaaDoorTakeWalk
namespace Go.Proofs.YthbbeflcmnehpaaDoor
open Go.RowKit

theorem implUnpackNumber_long (s : ByteArray) (w : World) (hs : s.size ≤ 1048576) (h : 65536 < s.size) :
    Calls Tryd.prog 11 #[.string s] w fun e w' => e = .returned (.tuple #[.int .i64 0, .int .i64 0, .int .i64 2]) ∧ w = w' := by
  go_enter Tryd.func11, Tryd.ntmps11
  go_wp2
  go_ret3
  exact ⟨rfl, rfl⟩

/-- What UnpackNumber answers of a text of at most 65536 bytes. -/
def Unpacked (s : ByteArray) (e : Ending) : Prop := (∃ n k : Nat, Num s 0 n k ∧ e = .returned (.tuple #[.int .i64 n, .int .i64 k, .int .i64 0])) ∨ (NoNum s 0 ∧ e = .returned (.tuple #[.int .i64 0, .int .i64 0, .int .i64 3]))
theorem Unpacked.shape {s : ByteArray} {e : Ending} (h : Unpacked s e) : ∃ a b c : Int, e = .returned (.tuple #[.int .i64 a, .int .i64 b, .int .i64 c]) := by
  rcases h with ⟨n, k, _, rfl⟩ | ⟨_, rfl⟩
  · exact ⟨_, _, _, rfl⟩
  · exact ⟨_, _, _, rfl⟩
theorem Unpacked.same {s : ByteArray} {e f : Ending} (h : Unpacked s e) (g : Unpacked s f) : e = f := by
  rcases h with ⟨n, k, hn, rfl⟩ | ⟨hn, rfl⟩ <;> rcases g with ⟨m, j, hm, rfl⟩ | ⟨hm, rfl⟩
  · obtain ⟨rfl, rfl⟩ := hn.only hm; rfl
  · exact absurd hn (hm n k)
  · exact absurd hm (hn m j)
  · rfl

theorem one_le_of_num {s : ByteArray} {p n k : Nat} (h : Num s p n k) : 1 ≤ k ∧ k ≤ 5 := ⟨h.1.1, h.1.2.1⟩

set_option maxHeartbeats 1000000 in
theorem implUnpackNumber_any (s : ByteArray) (w : World) (hs : s.size ≤ 65536) (hE : ErrType w) :
    Calls Tryd.prog 11 #[.string s] w fun e w' => Unpacked s e ∧ Below w.heap.size w w' := by
  go_enter Tryd.func11, Tryd.ntmps11
  go_wp2_with fail
  refine (readNumber_any s 0 _ hs (by omega)).mono ?_
  rintro e w1 ⟨hk, hb1⟩
  have hE1 := hE.below hb1
  rcases hk with ⟨n, k, hn, rfl⟩ | ⟨hn, y, rfl⟩
  · have hN : Hid (Num s 0 n k) := hn
    clear hn
    rw [Nat.zero_add]
    go_wp2_with fail
    refine (faultCode_nil _).mono ?_
    rintro e w2 ⟨rfl, hb2⟩
    go_wp2
    go_ret3
    exact ⟨.inl ⟨n, k, hN.out, rfl⟩, sub_trans hb1 hb2⟩
  · have hN : Hid (NoNum s 0) := hn
    clear hn
    go_wp2_with fail
    refine (faultCode_hit 3 y _ hE1).mono ?_
    rintro e w2 ⟨rfl, hb2⟩
    go_wp2
    go_ret3
    exact ⟨.inr ⟨hN.out, rfl⟩, sub_trans hb1 hb2⟩

end Go.Proofs.YthbbeflcmnehpaaDoor
