/-
  Joined: StoI.
-/
import Derived.Test.YtdojjmkpelgcaaaDoorX45

namespace Go.Proofs.YtdojjmkpelgcaaaDoor
set_option maxRecDepth 100000
open Go.RowKit
set_option linter.unusedVariables false
set_option linter.unusedSimpArgs false

def AsksB (F : Nat) (lb : Array Value) (p : Int → Bool) (w : World) (Z : List Int) : Prop := ∀ W, Below w.heap.size w W → ∀ j ∈ Z, Calls Tryd.prog F (#[.int .i64 j] ++ lb) W fun e W' => e = .returned (.bool (p j)) ∧ Below W.heap.size W W'

set_option maxHeartbeats 1000000 in
theorem indexB_is (F : Nat) (lb : Array Value) (p : Int → Bool) (eg : ∀ args w, (callFunc F args).run Tryd.prog w = .ok (.enter F args) w) (B g n cap : Nat) (Z : List Int) (w : World)
  (hq : w.ownsRow B 3 1 (.slice (some ⟨g, 0, none⟩) n cap) n (Z.map (Value.int .i64))) (hl : Z.length = n) (hn : n ≤ 1000000) (hf : AsksB F lb p w Z) :
  Calls Tryd.prog 80 #[.slice (some ⟨g, 0, none⟩) n cap, .func (.func F) #[] lb] w fun e w' => Idx7 e p Z ∧ Below w.heap.size w w' := by
 have HF0 : Hid ((Z.take 0).filter (fun z => !p z) = Z.take 0) := by rw [Hid]; simp
 have HI := Ints.of_owns hq
 clear hq
 go_enter Tryd.func80, Tryd.ntmps80
 go_wp2_with fail
 go_loopw [8] (fun si wr => ∃ k : Nat, k ≤ n ∧ si = .int .i64 k ∧ Hid ((Z.take k).filter (fun z => !p z) = Z.take k) ∧ Below w.heap.size w wr) (fun si _ => n - (intOf si).toNat)
 case atStart => exact ⟨0, by omega, rfl, HF0, Below.refl _ _⟩
 case round =>
  clear HF0
  obtain ⟨k, hk, rfl, HF, bw⟩ := hrel
  by_cases hlt : k < n
  ·have hz : Z.getD k 0 ∈ Z := by simp [List.getD, show k < Z.length by omega]
   have kF := hf wr bw (Z.getD k 0) hz
   have ht := take_snoc7 (Z := Z) (k := k) (by omega)
   obtain ⟨_, _, _, hcase⟩ := HI.below bw
   rcases hcase with e0 | ⟨b, off, hb9, hb, hc⟩
   ·omega
   cases hb9
   have d0 := hc k hlt
   clear hc hb hz
   generalize Z.getD k 0 = x at d0 kF ht
   have HT : Hid (Z.take (k + 1) = Z.take k ++ [x]) := ht
   clear ht
   have hlt' : (k : Int) < (n : Int) := by omega
   have hk0 : (0 : Int) ≤ (k : Int) := by omega
   have hkl : k < Z.length := by omega
   rw [Nat.zero_add] at d0
   cases hp : p x with
   | true =>
    have HG : Hid ((Z.take (k + 1)).filter (fun z => !p z) = Z.take k) := by rw [Hid, HT.out, List.filter_append, HF.out]; simp [hp]
    rw [hp] at kF
    clear HF HT hp
    go_wp2_with (go_at_fn F; refine kF.mono ?_; rintro e w2 ⟨rfl, hb2⟩)
    go_ret
    exact ⟨⟨k, rfl, .inr ⟨k, rfl, hkl, HG.out⟩⟩, bel_trans bw hb2⟩
   | false =>
    have HG : Hid ((Z.take (k + 1)).filter (fun z => !p z) = Z.take (k + 1)) := by rw [Hid, HT.out, List.filter_append, HF.out]; simp [hp]
    rw [hp] at kF
    clear HF HT hp
    go_wp2_with (go_at_fn F; refine kF.mono ?_; rintro e w2 ⟨rfl, hb2⟩)
    go_roundw
    case rel => exact ⟨k + 1, by omega, by go_num, HG, bel_trans bw hb2⟩
    case measure => simp [intOf]; omega
  ·obtain rfl : k = n := by omega
   have HG : Hid (Z.filter (fun z => !p z) = Z) := by
    have := HF.out
    rw [List.take_of_length_le (by omega)] at this
    exact this
   clear HF
   go_wp2
   go_ret
   exact ⟨⟨-1, rfl, .inl ⟨rfl, HG.out⟩⟩, bw⟩

theorem idx_any {p : Int → Bool} {Z : List Int} {r : Int} (h : (r = -1 ∧ Z.filter (fun z => !p z) = Z) ∨ ∃ k : Nat, r = k ∧ k < Z.length ∧ (Z.take (k + 1)).filter (fun z => !p z) = Z.take k) : decide (0 ≤ r) = Z.any p := by
 rcases h with ⟨rfl, h⟩ | ⟨k, rfl, hk, h⟩
 ·have ha : ∀ z ∈ Z, p z = false := fun z hz => by
   rw [← h] at hz
   simpa using (List.mem_filter.1 hz).2
  have : Z.any p = false := by
   rw [List.any_eq_false]
   exact fun z hz => by simp [ha z hz]
  rw [this]; rfl
 ·have : Z.any p = true := by
   rw [List.any_eq_true]
   apply Classical.byContradiction
   intro hn
   have ha : ∀ z ∈ Z.take (k + 1), (!p z) = true := fun z hz => by
    cases hp : p z
    ·rfl
    ·exact absurd ⟨z, List.mem_of_mem_take hz, hp⟩ hn
   rw [List.filter_eq_self.2 ha] at h
   have := congrArg List.length h
   rw [List.length_take, List.length_take] at this
   omega
  rw [this]
  simp

set_option maxHeartbeats 1000000 in
theorem containsFunc_is (F : Nat) (lb : Array Value) (p : Int → Bool) (eg : ∀ args w, (callFunc F args).run Tryd.prog w = .ok (.enter F args) w) (B g n cap : Nat) (Z : List Int) (w : World)
  (hq : w.ownsRow B 3 1 (.slice (some ⟨g, 0, none⟩) n cap) n (Z.map (Value.int .i64))) (hl : Z.length = n) (hn : n ≤ 1000000) (hf : AsksB F lb p w Z) :
  Calls Tryd.prog 47 #[.slice (some ⟨g, 0, none⟩) n cap, .func (.func F) #[] lb] w fun e w' => e = .returned (.bool (Z.any p)) ∧ Below w.heap.size w w' := by
 have kI := indexB_is F lb p eg B g n cap Z w hq hl hn hf
 clear hf hq eg
 have HA : Hid (∀ r : Int, ((r = -1 ∧ Z.filter (fun z => !p z) = Z) ∨ ∃ k : Nat, r = k ∧ k < Z.length ∧ (Z.take (k + 1)).filter (fun z => !p z) = Z.take k) → decide (0 ≤ r) = Z.any p) := fun r h => idx_any h
 go_enter Tryd.func47, Tryd.ntmps47
 go_wp2_with fail
 refine kI.mono ?_
 rintro e w1 ⟨⟨r, rfl, hr⟩, hb⟩
 have H9 : Hid (decide (r ≥ 0) = Z.any p) := HA.out r hr
 clear kI hr HA
 go_wp2
 go_ret
 exact ⟨by rw [← H9.out]; rfl, hb⟩

set_option maxHeartbeats 1000000 in
theorem isOut_is (j : Int) (w : World) : Calls Tryd.prog 45 #[.int .i64 j] w fun e w' => e = .returned (.bool (!inB j 0 2)) ∧ Below w.heap.size w w' := by
 have kT := isThreadX j w
 generalize inB j 0 2 = b at *
 go_enter Tryd.func45, Tryd.ntmps45
 go_wp2_with fail
 refine kT.mono ?_
 rintro e w1 ⟨rfl, rfl⟩
 clear kT
 cases b
 ·go_wp2
  go_ret
  exact ⟨rfl, Below.refl _ _⟩
 ·go_wp2
  go_ret
  exact ⟨rfl, Below.refl _ _⟩

set_option maxHeartbeats 1000000 in
theorem isDoneF_is {w : World} {g : Nat} {cs : Sl × Sl × Sl} {rows : List (List I3)} {m : V4} (h : MachAt w g cs rows m) {j : Nat} (hj : j < 3) : Calls Tryd.prog 48 #[.int .i64 j, .pointer (some ⟨g, 0, none⟩)] w fun e w' => e = .returned (.bool (doneM rows m j)) ∧ Below w.heap.size w w' := by
 have kD := doneT_is h hj
 have hj3 : (j : Int) < 3 := by omega
 clear h
 go_enter Tryd.func48, Tryd.ntmps48
 go_wp2_with fail
 refine kD.mono ?_
 rintro e w3 ⟨rfl, d, rfl⟩
 clear kD
 go_wp2
 go_ret
 exact ⟨rfl, below_dN _⟩

def StoGot (e : Ending) (w : World) (B : Nat) (rows : List (List I3)) (m : V4) (h k : Nat) : Prop := ∃ v, e = .returned (.tuple #[v, .int .i64 (if doneM rows m h || doneM rows m k then 10 else 0)]) ∧ (doneM rows m h = false → doneM rows m k = false → w.ownsRow B 3 1 v (stillM rows m [(h : Int)] (k : Int)).length ((stillM rows m [(h : Int)] (k : Int)).map (Value.int .i64)))

set_option maxHeartbeats 2000000 in
theorem implStillSleeps_one (a : Option Addr) (len cap : Nat) (rows : List (List I3)) (s : S4) (m : V4) (k j g c B9 : Nat) (w : World) (hC : Codes w a len cap rows) (h : Vmem w s m) (hV : VmShape w) (hp : progOk rows = true) (hs : shapeOk m = true) (hk : k < 3) (hj : j < 3) (hq : w.ownsRow B9 3 1 (.slice (some ⟨g, 0, none⟩) 1 c) 1 [.int .i64 (j : Int)]) :
  Calls Tryd.prog 14 #[.agg #[.slice a len cap], s.val, .slice (some ⟨g, 0, none⟩) 1 c, .int .i64 k] w fun e w' => StoGot e w' w.heap.size rows m j k ∧ Below w.heap.size w w' := by
 obtain ⟨-, cs, hR⟩ := hC.rowsAt hp
 have hM := fun (W : World) (hb : Below w.heap.size w W) => h.below hb
 have kM := fun (W : World) (b : Below w.heap.size w W) => threadAt_ok a len cap rows s m k W (hC.below b) (hM W b) (hV.below b) hp hs hk cs (hR.below b)
 obtain ⟨⟨a0, n0, c0⟩, ⟨a1, n1, c1⟩, ⟨a2, n2, c2⟩, ⟨a3, n3, c3⟩⟩ := s
 have uA : S4.val ((a0, n0, c0), (a1, n1, c1), (a2, n2, c2), (a3, n3, c3)) = .agg #[.slice a0 n0 c0, .slice a1 n1 c1, .slice a2 n2 c2, .slice a3 n3 c3] := rfl
 simp only [uA] at *
 clear uA h
 have bw : Below w.heap.size w ((w.alloc (.cells #[.slice a len cap] 25)).alloc (.cells #[.slice a0 n0 c0, .slice a1 n1 c1, .slice a2 n2 c2, .slice a3 n3 c3] 29)) := by go_grown
 have pP : Blk ((w.alloc (.cells #[.slice a len cap] 25)).alloc (.cells #[.slice a0 n0 c0, .slice a1 n1 c1, .slice a2 n2 c2, .slice a3 n3 c3] 29)) w.heap.size 25 [.slice a len cap] := blkOld _ (blkAt _ _ _ rfl)
 have pS : Blk ((w.alloc (.cells #[.slice a len cap] 25)).alloc (.cells #[.slice a0 n0 c0, .slice a1 n1 c1, .slice a2 n2 c2, .slice a3 n3 c3] 29)) (w.heap.size + 1) 29 [.slice a0 n0 c0, .slice a1 n1 c1, .slice a2 n2 c2, .slice a3 n3 c3] := blkAt _ _ _ (by simp)
 go_enter Tryd.func14, Tryd.ntmps14
 go_wp2_with (first | refine wpList_load_blk rfl 25 _ rfl w.heap.size rfl pP _ Tryd.underlying25 rfl (by kernel_rfl) ?_ | refine wpList_load_blk rfl 29 _ rfl (w.heap.size + 1) rfl pS _ Tryd.underlying29 rfl (by kernel_rfl) ?_)
 refine (kM _ bw).mono ?_
 rintro e w1 ⟨rfl, hb⟩
 replace bw := bel_trans bw hb
 clear hb kM hM hV hC pP pS
 have pN := Blk.new w1 76 [.slice none 0 0, .int .i64 0, .int .i64 0, .int .i64 0, .slice none 0 0, .int .i64 0, .int .i64 0, .int .i64 0, .slice none 0 0, .int .i64 0, .int .i64 0, .int .i64 0, .int .i64 0, .int .i64 0, .int .i64 0, .int .i64 0, .int .i64 0, .int .i64 0]
 have bN : Below w1.heap.size w1 (w1.alloc (.cells #[.slice none 0 0, .int .i64 0, .int .i64 0, .int .i64 0, .slice none 0 0, .int .i64 0, .int .i64 0, .int .i64 0, .slice none 0 0, .int .i64 0, .int .i64 0, .int .i64 0, .int .i64 0, .int .i64 0, .int .i64 0, .int .i64 0, .int .i64 0, .int .i64 0] 76)) := by go_grown
 go_wp2_with (refine wpList_store_blk rfl 76 _ _ rfl w1.heap.size (machCells cs.1.val cs.2.1.val cs.2.2.val m) rfl rfl pN (by kernel_rfl) rfl rfl ?_)
 intro w2 pM g2
 have hb2 : Below w1.heap.size w1 w2 := bN.grown g2 bN.size (fun x hx => by cases hx; exact Nat.le_refl _)
 replace bw := bel_trans bw hb2
 have pM2 := pM.out
 clear g2 bN pN hb2 pM
 generalize w1.heap.size = gM at *
 have hMA := (hR.below bw).mach pM2
 have hq2 := owns_below hq bw
 have hgl : g < w2.heap.size := (own_lt3 hq2 rfl).2
 have hgw : g < w.heap.size := (own_lt3 hq rfl).2
 have hin : inB (j : Int) 0 2 = true := inB_true.2 (by omega)
 have e1 : ∀ args w, (callFunc 45 args).run Tryd.prog w = .ok (.enter 45 args) w := enters_of Tryd.func45 (by kernel_rfl) rfl
 have e2 : ∀ args w, (callFunc 48 args).run Tryd.prog w = .ok (.enter 48 args) w := enters_of Tryd.func48 (by kernel_rfl) rfl
 have kO := containsFunc_is 45 #[] (fun j => !inB j 0 2) e1 B9 g 1 c [(j : Int)] w2 hq2 rfl (by omega) (fun W gW z hz => by rw [List.mem_singleton] at hz; subst hz; exact isOut_is _ W)
 rw [show ([(j : Int)].any fun j => !inB j 0 2) = false by simp [hin]] at kO
 go_wp2_with fail
 refine kO.mono ?_
 rintro e w3 ⟨rfl, hb⟩
 replace bw := bel_trans bw hb
 have hMA3 := hMA.below hb
 have hq3 := owns_below hq2 hb
 clear kO hb hMA hq2 pM2 e1
 have kD := containsFunc_is 48 #[.pointer (some ⟨gM, 0, none⟩)] (fun z => doneM rows m z.toNat) e2 B9 g 1 c [(j : Int)] w3 hq3 rfl (by omega) (fun W b z hz => by
  rw [List.mem_singleton] at hz
  subst hz
  simp only [Int.toNat_natCast]
  exact isDoneF_is (hMA3.below b) hj)
 rw [show ([(j : Int)].any fun z => doneM rows m z.toNat) = doneM rows m j by simp] at kD
 have kK := fun (W : World) (b : Below w3.heap.size w3 W) => isDoneF_is (hMA3.below b) hk
 have kA := fun (hdj : doneM rows m j = false) (hdk : doneM rows m k = false) (W : World) (b : Below w3.heap.size w3 W) => stillAsleep_is (hMA3.below b) hp hs hk hdk (some ⟨g, 0, none⟩) 1 c [(j : Int)] (Ints.of_owns (owns_below hq3 b)) (by omega) (fun z hz => ⟨j, by rw [List.mem_singleton] at hz; exact hz, hj, hdj⟩)
 clear e2 hMA3 hq3 hin hgl hgw
 cases hdj : doneM rows m j with
 | true =>
  rw [hdj] at kD
  have HG : Hid (∀ e W, e = .returned (.tuple #[.slice none 0 0, .int .i64 10]) → StoGot e W w.heap.size rows m j k) := fun e W he => ⟨_, by rw [hdj]; exact he, fun h => by rw [hdj] at h; cases h⟩
  clear hdj kA kK
  go_wp2_with fail
  refine kD.mono ?_
  rintro e w4 ⟨rfl, hb⟩
  replace bw := bel_trans bw hb
  clear kD hb
  go_wp2
  go_ret2
  exact ⟨HG.out _ _ rfl, bw⟩
 | false =>
  rw [hdj] at kD
  cases hdk : doneM rows m k with
  | true =>
   rw [hdk] at kK
   have HG : Hid (∀ e W, e = .returned (.tuple #[.slice none 0 0, .int .i64 10]) → StoGot e W w.heap.size rows m j k) := fun e W he => ⟨_, by rw [hdj, hdk]; exact he, fun _ h => by rw [hdk] at h; cases h⟩
   clear hdj kA hdk
   go_wp2_with fail
   refine kD.mono ?_
   rintro e w4 ⟨rfl, hb⟩
   have kKx := kK w4 hb
   replace bw := bel_trans bw hb
   clear kD hb kK
   go_wp2_with fail
   refine kKx.mono ?_
   rintro e w5 ⟨rfl, hb⟩
   replace bw := bel_trans bw hb
   clear kKx hb
   go_wp2
   go_ret2
   exact ⟨HG.out _ _ rfl, bw⟩
  | false =>
   rw [hdk] at kK
   have kAx := kA hdj hdk
   have HG : Hid (∀ e W v, e = .returned (.tuple #[v, .int .i64 0]) → W.ownsRow w.heap.size 3 1 v (stillM rows m [(j : Int)] (k : Int)).length ((stillM rows m [(j : Int)] (k : Int)).map (Value.int .i64)) → StoGot e W w.heap.size rows m j k) := fun e W v he ho => ⟨_, by rw [hdj, hdk]; exact he, fun _ _ => ho⟩
   clear hdj hdk kA
   go_wp2_with fail
   refine kD.mono ?_
   rintro e w4 ⟨rfl, hb⟩
   have kKx := kK w4 hb
   replace bw := bel_trans bw hb
   have b34 := hb
   clear kD hb kK
   go_wp2_with fail
   refine kKx.mono ?_
   rintro e w5 ⟨rfl, hb⟩
   replace bw := bel_trans bw hb
   replace b34 := bel_trans b34 hb
   have kAy := kAx w5 b34
   clear kKx hb kAx b34
   go_wp2_with fail
   refine kAy.mono ?_
   rintro e w6 ⟨⟨v, rfl, qv⟩, hb⟩
   have q9 := own_lowerB (B' := w.heap.size) qv bw.size
   replace bw := bel_trans bw hb
   clear kAy hb qv
   go_wp2
   go_ret2
   exact ⟨HG.out _ _ v rfl q9, bw⟩
end Go.Proofs.YtdojjmkpelgcaaaDoor
