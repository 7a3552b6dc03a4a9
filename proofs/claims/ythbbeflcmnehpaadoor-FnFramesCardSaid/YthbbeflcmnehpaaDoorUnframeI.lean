/-
  The program's UnframeText at every text.
-/
import Derived.Test.YthbbeflcmnehpaaDoorUnframe
namespace Go.Proofs.YthbbeflcmnehpaaDoor
open Go.RowKit

theorem implUnframeText_long (s : ByteArray) (w : World) (hs : s.size ≤ 1048576) (h : 65536 < s.size) :
    Calls Tryd.prog 17 #[.string s] w fun e w' => e = .returned (.tuple #[.string ByteArray.empty, .int .i64 0, .int .i64 2]) ∧ w = w' := by
  go_enter Tryd.func17, Tryd.ntmps17
  go_wp2
  go_ret3
  exact ⟨rfl, rfl⟩
set_option maxHeartbeats 1000000 in
theorem implUnframeText_any (s : ByteArray) (w : World) (hs : s.size ≤ 65536) (hE : ErrType w) :
    Calls Tryd.prog 17 #[.string s] w fun e w' => Unframed s e ∧ Below w.heap.size w w' := by
  go_enter Tryd.func17, Tryd.ntmps17
  go_wp2_with fail
  refine (readFrame_any s _ hs).mono ?_
  rintro e w1 ⟨hk, hb1⟩
  have hE1 := hE.below hb1
  rcases hk with ⟨n, k, hn, hs1, rfl⟩ | ⟨n, k, hn, hs1, y, rfl⟩ | ⟨hn, y, rfl⟩
  · have HN : Hid (Framed s n k ∧ sumAt s k = sumTo (frameText s n k) (frameText s n k).size) := ⟨hn, hs1⟩
    clear hn hs1
    go_wp2_with fail
    refine (faultCode_nil _).mono ?_
    rintro e w2 ⟨rfl, hb2⟩
    go_wp2
    go_ret3
    exact ⟨.inl ⟨n, k, HN.out.1, HN.out.2, rfl⟩, sub_trans hb1 hb2⟩
  · have HN : Hid (Framed s n k ∧ sumAt s k ≠ sumTo (frameText s n k) (frameText s n k).size) := ⟨hn, hs1⟩
    clear hn hs1
    go_wp2_with fail
    refine (faultCode_hit 9 y _ hE1).mono ?_
    rintro e w2 ⟨rfl, hb2⟩
    go_wp2
    go_ret3
    exact ⟨.inr (.inl ⟨n, k, HN.out.1, HN.out.2, rfl⟩), sub_trans hb1 hb2⟩
  · have HN : Hid (NoFrame s) := hn
    clear hn
    go_wp2_with fail
    refine (faultCode_hit 3 y _ hE1).mono ?_
    rintro e w2 ⟨rfl, hb2⟩
    go_wp2
    go_ret3
    exact ⟨.inr (.inr ⟨HN.out, rfl⟩), sub_trans hb1 hb2⟩
end Go.Proofs.YthbbeflcmnehpaaDoor
