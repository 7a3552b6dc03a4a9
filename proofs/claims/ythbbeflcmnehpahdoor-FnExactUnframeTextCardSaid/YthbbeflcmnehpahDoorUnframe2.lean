/-
  The specification's l01Open and UnframeText, and the program's UnframeText: what they answer at every text of at most 65536 bytes, and beyond.
-/
import Derived.Test.YthbbeflcmnehpahDoorUnframe
namespace Go.Proofs.YthbbeflcmnehpahDoor
open Go.RowKit

set_option maxHeartbeats 4000000 in
set_option maxRecDepth 100000 in
theorem l01Open_any (s : ByteArray) (w : World) (hs : s.size ≤ 65536) :
    Calls Tryd.prog 15 #[.string s] w fun e w' => Unframed s e ∧ Below w.heap.size w w' := by
  go_enter Tryd.func15, Tryd.ntmps15
  go_wp2_with fail
  refine (l01Take_any s _ (by omega)).mono ?_
  rintro e w1 ⟨hk, rfl⟩
  rcases hk with ⟨n, k, hn, rfl⟩ | ⟨hn, rfl⟩
  · have hN : Hid (Num s 0 n k) := hn
    have hk15 : k ≤ 5 := hn.1.2.1
    have hk1' : 1 ≤ k := hn.1.1
    have hk00 : ((k : Int) == 0) = false := by simp; omega
    have hnle : n ≤ 999999999 := hn.2.2.2
    clear hn
    by_cases hc : n ≤ 60000 ∧ k + 2 + n ≤ s.size
    · obtain ⟨h6, hz⟩ := hc
      have hF : Hid (Framed s n k) := ⟨hN.out, h6, hz⟩
      have hk0 : k < s.size := by omega
      have hk1 : k + 1 < s.size := by omega
      have hi0 : (k : Int) < (s.size : Int) := by omega
      have hi1 : (k : Int) + 1 < (s.size : Int) := by omega
      have hb0 : (s[k]'hk0).toNat < 256 := (s[k]'hk0).toNat_lt
      have hb2 : (s[k + 1]'hk1).toNat < 256 := (s[k + 1]'hk1).toNat_lt
      have hsm : Hid (sumAt s k = ((s[k]'hk0).toNat : Int) * 256 + ((s[k + 1]'hk1).toNat : Int)) := by
        rw [Hid, bt_get, bt_get]; rfl
      have hq1 : IntKind.i64.wrap ((s[k]'hk0).toNat : Int) = ((s[k]'hk0).toNat : Int) := IntWalk.i64_in _ ⟨by omega, by omega⟩
      have hq2 : IntKind.i64.wrap (((s[k]'hk0).toNat : Int) * 256) = ((s[k]'hk0).toNat : Int) * 256 := IntWalk.i64_in _ ⟨by omega, by omega⟩
      have hq3 : IntKind.i64.wrap ((k : Int) + 1) = (k : Int) + 1 := IntWalk.i64_in _ ⟨by omega, by omega⟩
      have hq4 : IntKind.i64.wrap ((s[k + 1]'hk1).toNat : Int) = ((s[k + 1]'hk1).toNat : Int) := IntWalk.i64_in _ ⟨by omega, by omega⟩
      have hq5 : IntKind.i64.wrap (((s[k]'hk0).toNat : Int) * 256 + ((s[k + 1]'hk1).toNat : Int)) = ((s[k]'hk0).toNat : Int) * 256 + ((s[k + 1]'hk1).toNat : Int) := IntWalk.i64_in _ ⟨by omega, by omega⟩
      have hix : ∀ W : World, (Instr.index 9 (.string s) (.int .i64 ((k : Int) + 1))).run Tryd.prog W = .ok (.int .u8 ((s[k + 1]'hk1).toNat : Int)) W := fun W => by
        rw [run_index_string (P := Tryd.prog) W 9 s .i64 ((k : Int) + 1) Tryd.underlying9]
        have e1 : ((k : Int) + 1).toNat = k + 1 := by omega
        have e2 : (0 : Int) ≤ (k : Int) + 1 ∧ (k : Int) + 1 < (s.size : Int) := by omega
        simp [e1, e2]
      have hfs : (s.extract (k + 2) (k + 2 + n)).size ≤ 65536 := by simp; omega
      go_wp2
      obtain ⟨f, hf⟩ : ∃ f, f = s.extract (k + 2) (k + 2 + n) := ⟨_, rfl⟩
      have HF : Hid (frameText s n k = f) := by rw [Hid, hf]; rfl
      rw [← hf] at hfs
      rw [← hf]
      clear hf
      go_quiet ((go_at_call 20; exact Calls.quiet_of_same ((l01Sum_any f _ (by omega)).mono fun e w' h => ⟨h.1, h.2.symm⟩)))
      clear hq1 hq2 hq3 hq4 hq5 hix
      rw [← hsm.out]
      obtain ⟨x, hx0⟩ : ∃ x, x = sumAt s k := ⟨_, rfl⟩
      have HX : Hid (x0 s k x) := hx0
      rw [← hx0]
      clear hx0 hsm hN
      by_cases heq : x = sumTo f f.size
      · have hne : (x != sumTo f f.size) = false := by simp [heq]
        have HE : Hid (x = sumTo f f.size) := heq
        clear heq
        go_wp2
        go_ret3
        refine ⟨.inl ⟨n, k, hF.out, ?_, ?_⟩, below_drewN (Below.refl _ _) nq⟩
        · rw [HF.out, ← HE.out]; exact HX.out.symm
        · rw [HF.out]; rfl
      · have hne : (x != sumTo f f.size) = true := by simpa using heq
        have HE : Hid (¬ x = sumTo f f.size) := heq
        clear heq
        go_wp2
        go_ret3
        refine ⟨.inr (.inl ⟨n, k, hF.out, ?_, rfl⟩), below_drewN (Below.refl _ _) nq⟩
        rw [HF.out]
        intro h
        exact HE.out (HX.out.trans h)
    · have hNF : Hid (NoFrame s) := noFrame_of_num hN.out hc
      by_cases h6 : n ≤ 60000
      · have hz : (s.size : Int) < (k : Int) + 2 + (n : Int) := by
          have : ¬ k + 2 + n ≤ s.size := fun h => hc ⟨h6, h⟩
          omega
        clear hc hN
        go_wp2
        go_ret3
        exact ⟨.inr (.inr ⟨hNF.out, rfl⟩), Below.refl _ _⟩
      · clear hc hN
        go_wp2
        go_ret3
        exact ⟨.inr (.inr ⟨hNF.out, rfl⟩), Below.refl _ _⟩
  · have hNF : Hid (NoFrame s) := noFrame_of_noNum hn
    clear hn
    go_wp2
    go_ret3
    exact ⟨.inr (.inr ⟨hNF.out, rfl⟩), Below.refl _ _⟩

theorem specUnframeText_long (s : ByteArray) (w : World) (hs : s.size ≤ 1048576) (h : 65536 < s.size) :
    Calls Tryd.prog 10 #[.string s] w fun e w' => e = .returned (.tuple #[.string ByteArray.empty, .int .i64 0, .int .i64 2]) ∧ w = w' := by
  go_enter Tryd.func10, Tryd.ntmps10
  go_wp2
  go_ret3
  exact ⟨rfl, rfl⟩
theorem implUnframeText_long (s : ByteArray) (w : World) (hs : s.size ≤ 1048576) (h : 65536 < s.size) :
    Calls Tryd.prog 11 #[.string s] w fun e w' => e = .returned (.tuple #[.string ByteArray.empty, .int .i64 0, .int .i64 2]) ∧ w = w' := by
  go_enter Tryd.func11, Tryd.ntmps11
  go_wp2
  go_ret3
  exact ⟨rfl, rfl⟩
theorem specUnframeText_any (s : ByteArray) (w : World) (hs : s.size ≤ 65536) :
    Calls Tryd.prog 10 #[.string s] w fun e w' => Unframed s e ∧ Below w.heap.size w w' := by
  go_enter Tryd.func10, Tryd.ntmps10
  go_wp2_with fail
  refine (l01Open_any s _ hs).mono ?_
  rintro e w1 ⟨hu, hb1⟩
  obtain ⟨x, b, c, rfl⟩ := hu.shape
  have HU : Hid (Unframed s (.returned (.tuple #[.string x, .int .i64 b, .int .i64 c]))) := hu
  clear hu
  go_wp2
  go_ret3
  exact ⟨HU.out, hb1⟩

set_option maxHeartbeats 1000000 in
theorem implUnframeText_any (s : ByteArray) (w : World) (hs : s.size ≤ 65536) (hE : ErrType w) :
    Calls Tryd.prog 11 #[.string s] w fun e w' => Unframed s e ∧ Below w.heap.size w w' := by
  go_enter Tryd.func11, Tryd.ntmps11
  go_wp2_with fail
  refine (readFrame_any s _ hs).mono ?_
  rintro e w1 ⟨hk, hb1⟩
  have hE1 := hE.below hb1
  rcases hk with ⟨n, k, hn, hs1, rfl⟩ | ⟨n, k, hn, hs1, y, rfl⟩ | ⟨hn, y, rfl⟩
  · have HN : Hid (Framed s n k ∧ sumAt s k = sumTo (frameText s n k) (frameText s n k).size) := ⟨hn, hs1⟩
    clear hn hs1
    go_wp2_with fail
    refine (faultCode_nil _).mono ?_
    rintro e w2 ⟨rfl, hb2⟩
    go_wp2
    go_ret3
    exact ⟨.inl ⟨n, k, HN.out.1, HN.out.2, rfl⟩, sub_trans hb1 hb2⟩
  · have HN : Hid (Framed s n k ∧ sumAt s k ≠ sumTo (frameText s n k) (frameText s n k).size) := ⟨hn, hs1⟩
    clear hn hs1
    go_wp2_with fail
    refine (faultCode_hit 9 y _ hE1).mono ?_
    rintro e w2 ⟨rfl, hb2⟩
    go_wp2
    go_ret3
    exact ⟨.inr (.inl ⟨n, k, HN.out.1, HN.out.2, rfl⟩), sub_trans hb1 hb2⟩
  · have HN : Hid (NoFrame s) := hn
    clear hn
    go_wp2_with fail
    refine (faultCode_hit 3 y _ hE1).mono ?_
    rintro e w2 ⟨rfl, hb2⟩
    go_wp2
    go_ret3
    exact ⟨.inr (.inr ⟨HN.out, rfl⟩), sub_trans hb1 hb2⟩
end Go.Proofs.YthbbeflcmnehpahDoor
