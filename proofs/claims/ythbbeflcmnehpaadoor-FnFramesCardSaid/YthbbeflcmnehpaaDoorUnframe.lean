/-
  A frame at the beginning of a text: the program's readFrame and UnframeText, the specification's l01Open and UnframeText: the same text and end, ErrForm where no whole frame is, ErrSum where the sum is not right.
-/
import Derived.Test.YthbbeflcmnehpaaDoorTakeWalk
import Derived.Test.YthbbeflcmnehpaaDoorSum0
import Derived.Test.YthbbeflcmnehpaaDoorClone
import Derived.BigQuiet
import Derived.Deep.QuietTactic
import Derived.RegionTactic
namespace Go.Proofs.YthbbeflcmnehpaaDoor
open Go.RowKit

/-- The text of a frame whose number has k bytes. -/
def frameText (s : ByteArray) (n k : Nat) : ByteArray := s.extract (k + 2) (k + 2 + n)
/-- A whole frame begins the text: its length n, in k bytes. -/
def Framed (s : ByteArray) (n k : Nat) : Prop := Num s 0 n k ∧ n ≤ 60000 ∧ k + 2 + n ≤ s.size
def NoFrame (s : ByteArray) : Prop := ∀ n k, ¬ Framed s n k
def sumAt (s : ByteArray) (k : Nat) : Int := (bt s k : Int) * 256 + (bt s (k + 1) : Int)
/-- What a reader of frames answers: the text and where it ends, or a code. -/
def Unframed (s : ByteArray) (e : Ending) : Prop :=
  (∃ n k, Framed s n k ∧ sumAt s k = sumTo (frameText s n k) (frameText s n k).size ∧ e = .returned (.tuple #[.string (frameText s n k), .int .i64 ((k + 2 + n : Nat) : Int), .int .i64 0])) ∨
  (∃ n k, Framed s n k ∧ sumAt s k ≠ sumTo (frameText s n k) (frameText s n k).size ∧ e = .returned (.tuple #[.string ByteArray.empty, .int .i64 0, .int .i64 9])) ∨
  (NoFrame s ∧ e = .returned (.tuple #[.string ByteArray.empty, .int .i64 0, .int .i64 3]))
theorem Framed.only {s : ByteArray} {n k m j : Nat} (h : Framed s n k) (g : Framed s m j) : n = m ∧ k = j := h.1.only g.1
theorem Unframed.same {s : ByteArray} {e f : Ending} (h : Unframed s e) (g : Unframed s f) : e = f := by
  rcases h with ⟨n, k, hn, hs, rfl⟩ | ⟨n, k, hn, hs, rfl⟩ | ⟨hn, rfl⟩ <;> rcases g with ⟨m, j, hm, ht, rfl⟩ | ⟨m, j, hm, ht, rfl⟩ | ⟨hm, rfl⟩
  · obtain ⟨rfl, rfl⟩ := hn.only hm; rfl
  · obtain ⟨rfl, rfl⟩ := hn.only hm; exact absurd hs ht
  · exact absurd hn (hm n k)
  · obtain ⟨rfl, rfl⟩ := hn.only hm; exact absurd ht hs
  · rfl
  · exact absurd hn (hm n k)
  · exact absurd hm (hn m j)
  · exact absurd hm (hn m j)
  · rfl
theorem Unframed.shape {s : ByteArray} {e : Ending} (h : Unframed s e) : ∃ (x : ByteArray) (b c : Int), e = .returned (.tuple #[.string x, .int .i64 b, .int .i64 c]) := by
  rcases h with ⟨n, k, hn, hs, rfl⟩ | ⟨n, k, hn, hs, rfl⟩ | ⟨hn, rfl⟩
  · exact ⟨_, _, _, rfl⟩
  · exact ⟨_, _, _, rfl⟩
  · exact ⟨_, _, _, rfl⟩
theorem noFrame_of_noNum {s : ByteArray} (h : NoNum s 0) : NoFrame s := fun n k hf => h n k hf.1
theorem noFrame_of_num {s : ByteArray} {n k : Nat} (h : Num s 0 n k) (hn : ¬ (n ≤ 60000 ∧ k + 2 + n ≤ s.size)) : NoFrame s := by
  intro m j hf
  obtain ⟨rfl, rfl⟩ := h.only hf.1
  exact hn hf.2

theorem frameText_size (s : ByteArray) (n k : Nat) (h : k + 2 + n ≤ s.size) : (frameText s n k).size = n := by simp [frameText]; omega

def x0 (s : ByteArray) (k : Nat) (x : Int) : Prop := x = sumAt s k
/-- What readFrame answers: as Unframed, the code in the program's error. -/
def ReadFrame (s : ByteArray) (e : Ending) : Prop :=
  (∃ n k, Framed s n k ∧ sumAt s k = sumTo (frameText s n k) (frameText s n k).size ∧ e = .returned (.tuple #[.string (frameText s n k), .int .i64 ((k + 2 + n : Nat) : Int), .nilIface])) ∨
  (∃ n k, Framed s n k ∧ sumAt s k ≠ sumTo (frameText s n k) (frameText s n k).size ∧ ∃ y : Int, e = .returned (.tuple #[.string ByteArray.empty, .int .i64 0, .iface 65 (.agg #[.int .i64 9, .int .i64 y])])) ∨
  (NoFrame s ∧ ∃ y : Int, e = .returned (.tuple #[.string ByteArray.empty, .int .i64 0, .iface 65 (.agg #[.int .i64 3, .int .i64 y])]))

set_option maxHeartbeats 4000000 in
set_option maxRecDepth 100000 in
theorem readFrame_any (s : ByteArray) (w : World) (hs : s.size ≤ 65536) :
    Calls Tryd.prog 32 #[.string s] w fun e w' => ReadFrame s e ∧ Below w.heap.size w w' := by
  go_enter Tryd.func32, Tryd.ntmps32
  go_wp2_with fail
  refine (readNumber_any s 0 _ hs (by omega)).mono ?_
  rintro e w1 ⟨hk, hb1⟩
  rcases hk with ⟨n, k, hn, rfl⟩ | ⟨hn, y, rfl⟩
  · rw [Nat.zero_add]
    have hN : Hid (Num s 0 n k) := hn
    have hk15 : k ≤ 5 := hn.1.2.1
    have hnle : n ≤ 999999999 := hn.2.2.2
    clear hn
    by_cases hc : n ≤ 60000 ∧ k + 2 + n ≤ s.size
    · obtain ⟨h6, hz⟩ := hc
      have hF : Hid (Framed s n k) := ⟨hN.out, h6, hz⟩
      have hk0 : k < s.size := by omega
      have hk1 : k + 1 < s.size := by omega
      have hi0 : (k : Int) < (s.size : Int) := by omega
      have hi1 : (k : Int) + 1 < (s.size : Int) := by omega
      have hb0 : (s[k]'hk0).toNat < 256 := (s[k]'hk0).toNat_lt
      have hb2 : (s[k + 1]'hk1).toNat < 256 := (s[k + 1]'hk1).toNat_lt
      have hx := frameText_size s n k hz
      have hsm : Hid (sumAt s k = ((s[k]'hk0).toNat : Int) * 256 + ((s[k + 1]'hk1).toNat : Int)) := by
        rw [Hid, bt_get, bt_get]; rfl
      have hq1 : IntKind.i64.wrap ((s[k]'hk0).toNat : Int) = ((s[k]'hk0).toNat : Int) := IntWalk.i64_in _ ⟨by omega, by omega⟩
      have hq2 : IntKind.i64.wrap (((s[k]'hk0).toNat : Int) * 256) = ((s[k]'hk0).toNat : Int) * 256 := IntWalk.i64_in _ ⟨by omega, by omega⟩
      have hq3 : IntKind.i64.wrap ((k : Int) + 1) = (k : Int) + 1 := IntWalk.i64_in _ ⟨by omega, by omega⟩
      have hq4 : IntKind.i64.wrap ((s[k + 1]'hk1).toNat : Int) = ((s[k + 1]'hk1).toNat : Int) := IntWalk.i64_in _ ⟨by omega, by omega⟩
      have hq5 : IntKind.i64.wrap (((s[k]'hk0).toNat : Int) * 256 + ((s[k + 1]'hk1).toNat : Int)) = ((s[k]'hk0).toNat : Int) * 256 + ((s[k + 1]'hk1).toNat : Int) := IntWalk.i64_in _ ⟨by omega, by omega⟩
      have hix : ∀ W : World, (Instr.index 9 (.string s) (.int .i64 ((k : Int) + 1))).run Tryd.prog W = .ok (.int .u8 ((s[k + 1]'hk1).toNat : Int)) W := fun W => by
        rw [run_index_string (P := Tryd.prog) W 9 s .i64 ((k : Int) + 1) Tryd.underlying9]
        have e1 : ((k : Int) + 1).toNat = k + 1 := by omega
        have e2 : (0 : Int) ≤ (k : Int) + 1 ∧ (k : Int) + 1 < (s.size : Int) := by omega
        simp [e1, e2]
      go_wp2
      go_quiet (fail)
      clear hq1 hq2 hq3 hq4 hq5 hix
      rw [← hsm.out]
      obtain ⟨x, hx0⟩ : ∃ x, x = sumAt s k := ⟨_, rfl⟩
      have HX : Hid (x0 s k x) := hx0
      rw [← hx0]
      clear hx0
      have hF' : Hid (Framed s n k ∧ x0 s k x) := ⟨hF.out, HX.out⟩
      clear hsm hF HX hN
      go_wp2_with fail
      refine (implSumOf_any _ _ (by simp; omega)).mono ?_
      rintro e w2 ⟨rfl, rfl⟩
      have hfs : (s.extract (k + 2) (k + 2 + n)).size ≤ 65536 := by simp; omega
      obtain ⟨f, hf⟩ : ∃ f, f = s.extract (k + 2) (k + 2 + n) := ⟨_, rfl⟩
      have HF : Hid (frameText s n k = f) := by rw [Hid, hf]; rfl
      rw [← hf] at hfs
      rw [← hf]
      have HE0 : Hid (s.extract (k + 2) (k + 2 + n) = f) := hf.symm
      clear hf
      by_cases heq : x = sumTo f f.size
      · have hne : (x != sumTo f f.size) = false := by simp [heq]
        have HE : Hid (x = sumTo f f.size) := heq
        clear heq
        go_wp2_with fail
        rw [HE0.out]
        refine (strings_Clone _ _ (by omega)).mono ?_
        rintro e w3 ⟨rfl, hb3⟩
        go_wp2
        go_ret3
        refine ⟨.inl ⟨n, k, hF'.out.1, ?_, ?_⟩, ?_⟩
        · rw [HF.out, ← HE.out]; exact hF'.out.2.symm
        · rw [HF.out]; rfl
        · exact (below_drewN hb1 nq).trans (hb3.mono hb1.size)
      · have hne : (x != sumTo f f.size) = true := by simpa using heq
        have HE : Hid (¬ x = sumTo f f.size) := heq
        clear heq
        go_wp2
        go_ret3
        refine ⟨.inr (.inl ⟨n, k, hF'.out.1, ?_, _, rfl⟩), hb1.trans ⟨rfl, rfl, rfl, Nat.le_refl _, fun _ _ => rfl⟩⟩
        rw [HF.out]
        intro h
        exact HE.out (hF'.out.2.trans h)
    · have hNF : Hid (NoFrame s) := noFrame_of_num hN.out hc
      by_cases h6 : n ≤ 60000
      · have hz : (s.size : Int) < (k : Int) + 2 + (n : Int) := by
          have : ¬ k + 2 + n ≤ s.size := fun h => hc ⟨h6, h⟩
          omega
        clear hc hN
        go_wp2
        go_ret3
        exact ⟨.inr (.inr ⟨hNF.out, _, rfl⟩), hb1⟩
      · clear hc hN
        go_wp2
        go_ret3
        exact ⟨.inr (.inr ⟨hNF.out, _, rfl⟩), hb1⟩
  · have hNF : Hid (NoFrame s) := noFrame_of_noNum hn
    clear hn
    go_wp2
    go_ret3
    exact ⟨.inr (.inr ⟨hNF.out, _, rfl⟩), hb1⟩
end Go.Proofs.YthbbeflcmnehpaaDoor
