/-
  FnNumbers: numbers and lists are read back from their bytes, and from no others: the law's walk over the contracts, at every two codes.
-/
import Derived.Test.YthbbeflcmnehpaaDoorNumbersPlain
import Derived.Test.YthbbeflcmnehpaaDoorPackList2
import Derived.Test.YthbbeflcmnehpaaDoorUnpackList2
import Derived.Test.YthbbeflcmnehpaaDoorUnpackNumI
import Derived.Test.YthbbeflcmnehpaaDoorPackNumI
import Derived.Test.YthbbeflcmnehpaaDoorSameInts
import Derived.Test.YthbbeflcmnehpaaDoorDrawn2
import Derived.Test.YthbbeflcmnehpaaDoorAt
import Derived.Test.YthbbeflcmnehpaaDoorRowBelow
import Derived.Test.YthbbeflcmnehpaaDoorErrLaid
namespace Go.Proofs.YthbbeflcmnehpaaDoor
open Go.RowKit

theorem isUnpacked_of_listed {s : ByteArray} {zs ns : List Nat} {c : Int} (h : IsUnpacked s zs c) (hl : Listed s ns) : ns = zs ∧ c = 0 := by
  rcases h with ⟨rfl, h⟩ | ⟨_, h, _⟩
  · exact ⟨hl.only h, rfl⟩
  · exact absurd hl (h _)
theorem isUnpacked_of_noList {s : ByteArray} {zs : List Nat} {c : Int} (h : IsUnpacked s zs c) (hl : NoList s) : zs = [] ∧ c = 3 := by
  rcases h with ⟨_, h⟩ | ⟨rfl, _, rfl⟩
  · exact absurd h (hl _)
  · exact ⟨rfl, rfl⟩
theorem unpacked_of_num {s : ByteArray} {n k : Nat} {e : Ending} (h : Unpacked s e) (hn : Num s 0 n k) : e = .returned (.tuple #[.int .i64 n, .int .i64 k, .int .i64 0]) := by
  rcases h with ⟨m, j, hm, rfl⟩ | ⟨hm, _⟩
  · obtain ⟨rfl, rfl⟩ := hn.only hm; rfl
  · exact absurd hn (hm _ _)
theorem unpacked_of_noNum {s : ByteArray} {e : Ending} (h : Unpacked s e) (hn : NoNum s 0) : e = .returned (.tuple #[.int .i64 0, .int .i64 0, .int .i64 3]) := by
  rcases h with ⟨m, j, hm, _⟩ | ⟨_, rfl⟩
  · exact absurd hm (hn _ _)
  · rfl
theorem str_ne {xs : List Int} (h : 0 < xs.length) : (strOfNums xs).toList.isEmpty = false := by
  rw [← decide_eq_emptyBytes]
  simp
  intro e
  have := congrArg ByteArray.size e
  rw [strOfNums_size] at this
  simp at this
  rw [this] at h
  simp at h

/-- A round of the law's loop: the i-th number packed, and read back. -/
theorem errType_drew {w : World} (h : ErrType w) (d : Nat) : ErrType (w.drewN d) := h

set_option maxHeartbeats 8000000 in
set_option maxRecDepth 100000 in
theorem fnNumbers_walk (a0 : Option Addr) (len0 cap0 : Nat) (z0 : List Int) (a1 : Option Addr) (len1 cap1 : Nat) (z1 : List Int) (w : World) (h0 : IsRow .u8 w a0 len0 cap0 z0) (h1 : IsRow .u8 w a1 len1 cap1 z1) (hE : ErrType w) :
    Calls Tryd.prog 3 #[.slice a0 len0 cap0, .slice a1 len1 cap1] w fun e w' => e = .returned (.bool true) ∧ Below w.heap.size w w' := by
  have m0 := h0.len_le
  have m1 := h1.len_le
  unfold maxLen at m0 m1
  by_cases hb0 : 1048576 < len0
  · go_enter Tryd.func3, Tryd.ntmps3
    go_wp2
    go_ret
    exact ⟨rfl, Below.refl _ _⟩
  by_cases hb1 : 1048576 < len1
  · go_enter Tryd.func3, Tryd.ntmps3
    go_wp2
    go_ret
    exact ⟨rfl, Below.refl _ _⟩
  have l0 : len0 ≤ 1048576 := by omega
  have l1 : len1 ≤ 1048576 := by omega
  clear hb0 hb1 m0 m1
  go_enter Tryd.func3, Tryd.ntmps3
  go_wp2_with fail
  refine (numbersDrawn_any _ _ _ z0 _ h0 l0).mono ?_
  rintro e w1 ⟨⟨v, ys, hy7, hyb, rfl, ho⟩, b1⟩
  obtain ⟨ns, hns, hnb⟩ := nats_of hyb
  have hlen : ys.length = ns.length := by rw [hns, List.length_map]
  obtain ⟨a, cap, rfl, hO⟩ := Own.of_owns ho
  have hI1 : Ints .i64 w1 a ns.length cap (ofNats ns) := by
    have := hO.ints
    rw [hlen, hns] at this
    simpa using this
  rw [hlen]
  have hn7 : ns.length ≤ 7 := by omega
  have HB : Hid (∀ n ∈ ns, n ≤ 999999999) := hnb
  have hok : allOk (ofNats ns) := by
    have e : ofNats ns = ys := hns.symm
    rw [e]; exact hyb
  have hE1 := hE.below b1
  have r1 := h1.below b1
  obtain ⟨N, hN⟩ : ∃ N, N = ns.length := ⟨_, rfl⟩
  rw [← hN] at hI1 hn7
  rw [← hN]
  have HN : Hid (N = ns.length) := hN
  clear hN ho hO hns hlen hyb hy7 hnb h0 h1 hE
  have HT : Hid (packL (ofNats ns) = pack ns.length ++ packsN ns) := packL_nats ns
  go_wp2_with fail
  refine (implPackList_any _ _ _ (ofNats ns) _ hI1 (by omega)).mono ?_
  rintro e w2 ⟨he, b2⟩
  obtain rfl : e = .returned (.tuple #[.string (strOfNums (packL (ofNats ns))), .int .i64 0]) := by
    rcases he with ⟨_, he⟩ | ⟨hn, _⟩
    · exact he
    · exact absurd hok hn
  clear he
  have hI2 := hI1.below b2
  have hE2 := hE1.below b2
  have r2 := r1.below b2
  go_wp2_with fail
  refine (specPackList_ok _ _ _ (ofNats ns) _ hI2 (by omega) hok).mono ?_
  rintro e w3 ⟨rfl, b3⟩
  have hI3 := hI2.below b3
  have hE3 := hE2.below b3
  have r3 := r2.below b3
  obtain ⟨t, ht⟩ : ∃ t, t = strOfNums (packL (ofNats ns)) := ⟨_, rfl⟩
  rw [← ht]
  have hts : t.size ≤ 60 := by
    rw [ht, HT.out, strOfNums_size, List.length_append]
    have q1 := (pack_len ns.length).2
    have q2 := packs_len (ofNats ns)
    have q3 : packsN ns = packs (ofNats ns) := by
      have := HT.out
      unfold packL at this
      rw [List.length_map] at this
      exact (List.append_cancel_left this).symm
    rw [q3]
    simp only [List.length_map] at q2
    have := HN.out
    omega
  have HL : Hid (Listed t ns) := by rw [Hid, ht, HT.out]; exact listed_pack HB.out (by have := HN.out; omega)
  have HX : Hid (NoList (t ++ ⟨#[120]⟩)) := by rw [Hid, ht, HT.out]; exact noList_longer HB.out (by have := HN.out; omega) _ (by decide)
  clear ht HT hok
  go_wp2_with fail
  refine (implUnpackList_any t _ (by omega) hE3).mono ?_
  rintro e w4 ⟨⟨a4, cap4, zs4, c4, hU4, rfl, hO4⟩, b4⟩
  obtain ⟨rfl, rfl⟩ := isUnpacked_of_listed hU4 HL.out
  clear hU4
  rw [← HN.out] at hO4
  rw [← HN.out]
  have hI4 := hI3.below b4
  have hE4 := hE3.below b4
  have r4 := r3.below b4
  have B4 := hO4.ints
  have hadd := fun W => run_string_add_sum (P := Tryd.prog) W t ⟨#[120]⟩ (by have : (⟨#[120]⟩ : ByteArray).size = 1 := rfl; omega)
  have htx : (t ++ ⟨#[120]⟩).size ≤ 65536 := by rw [ByteArray.size_append]; have : (⟨#[120]⟩ : ByteArray).size = 1 := rfl; omega
  go_wp2_with fail
  refine (implUnpackList_any _ _ htx hE4).mono ?_
  rintro e w5 ⟨⟨a5, cap5, zs5, c5, hU5, rfl, hO5⟩, b5⟩
  obtain ⟨rfl, rfl⟩ := isUnpacked_of_noList hU5 HX.out
  clear hU5 hO5 hadd htx
  have hI5 := hI4.below b5
  have hE5 := hE4.below b5
  have r5 := r4.below b5
  have B5 := B4.below b5
  go_wp2_with fail
  refine (implUnpackList_any _ _ (by decide) hE5).mono ?_
  rintro e w6 ⟨⟨a6, cap6, zs6, c6, hU6, rfl, hO6⟩, b6⟩
  obtain ⟨rfl, rfl⟩ := isUnpacked_of_noList hU6 noList_empty
  clear hU6 hO6
  have hI6 := hI5.below b6
  have hE6 := hE5.below b6
  have r6 := r5.below b6
  have B6 := B5.below b6
  go_wp2_with fail
  refine (sameInts_same _ _ _ _ _ (ofNats ns) _ B6 hI6).mono ?_
  rintro e w7 ⟨rfl, d, rfl⟩
  have hI7 : Ints .i64 (w6.drewN d) a N cap (ofNats ns) := hI6
  have hE7 := errType_drew hE6 d
  have r7 := r6.drew d
  have B7 : Below w.heap.size w (w6.drewN d) := below_drewN (sub_trans (sub_trans (sub_trans (sub_trans (sub_trans b1 b2) b3) b4) b5) b6) d
  clear hI1 hI2 hI3 hI4 hI5 hI6 hE1 hE2 hE3 hE4 hE5 hE6 r1 r2 r3 r4 r5 r6 B4 B5 B6 hO4 b1 b2 b3 b4 b5 b6 HL HX hts
  generalize w6.drewN d = W at *
  have hsh : N = 0 ∨ ∃ b off, a = some ⟨b, off, none⟩ := by
    rcases hI7.2.2.2 with h | ⟨b, off, ha, _⟩
    · exact .inl h
    · exact .inr ⟨b, off, ha⟩
  rcases hsh with hN0 | ⟨b, off, ha⟩
  all_goals
    first
      | (rw [ha]
         have HA : Hid (a = some ⟨b, off, none⟩) := ha
         clear ha)
      | skip
    go_wp2
    go_loopw [16] (fun si wr => ∃ j : Nat, j ≤ N ∧ si = .int .i64 j ∧ Ints .i64 wr a N cap (ofNats ns) ∧ ErrType wr ∧ IsRow .u8 wr a1 len1 cap1 z1 ∧ Below w.heap.size w wr) (fun si _ => N - (intOf si).toNat)
    case atStart => exact ⟨0, by omega, rfl, hI7, hE7, r7, B7⟩
    case round =>
      obtain ⟨j, hj, rfl, hIr, hEr, rr, Br⟩ := hrel
      clear hI7 hE7 r7 B7
      by_cases hlt : j < N
      · first
          | (exfalso; omega)
          | skip
        all_goals
          have hcells : ∀ t, t < N → wr.cell? ⟨b, off + t, none⟩ = some (.int .i64 ((ofNats ns).getD t 0)) := by
            rcases hIr.2.2.2 with h | ⟨b', off', ha', _, hc⟩
            · omega
            · rw [HA.out] at ha'
              cases ha'
              exact hc
          have hjn : j < ns.length := by have := HN.out; omega
          obtain ⟨n, hnj⟩ : ∃ n : Nat, n = ns[j] := ⟨_, rfl⟩
          have hnb : n ≤ 999999999 := by rw [hnj]; exact HB.out _ (List.getElem_mem hjn)
          have hget : (ofNats ns).getD j 0 = (n : Int) := by simp [hnj, hjn]
          have hc := hcells j hlt
          rw [hget] at hc
          clear hcells hget hnj hjn
          go_wp2_with fail
          refine (implPackNumber_yes n _ hnb).mono ?_
          rintro e w8 ⟨rfl, b8⟩
          have hbw := lt_of_cell hc
          have hc8 : w8.cell? ⟨b, off + j, none⟩ = some (.int .i64 (n : Int)) := by rw [b8.cell (p := ⟨b, off + j, none⟩) hbw]; exact hc
          have hE8 := hEr.below b8
          have hI8 := hIr.below b8
          have r8 := rr.below b8
          have B8 := sub_trans Br b8
          have hemp := str_ne (xs := pack n) (by have := (pack_len n).1; omega)
          obtain ⟨s, hs⟩ : ∃ s, s = strOfNums (pack n) := ⟨_, rfl⟩
          have hsz : Hid (s.size = (pack n).length) := by rw [Hid, hs]; exact strOfNums_size _
          have hs5 : s.size ≤ 5 := by rw [hsz.out]; exact (pack_len n).2
          have hs1 : 1 ≤ s.size := by rw [hsz.out]; exact (pack_len n).1
          have HR : Hid (Num (s ++ ⟨#[114, 101, 115, 116]⟩) 0 n s.size) := by rw [Hid, hsz.out, hs]; exact num_rest hnb _
          have HF : Hid (NoNum (s.extract 0 (s.size - 1)) 0) := by rw [Hid, hsz.out, hs]; exact noNum_fewer hnb
          rw [← hs] at hemp
          rw [← hs]
          clear hs hsz hc hEr hIr rr Br b8
          have hrs : (⟨#[114, 101, 115, 116]⟩ : ByteArray).size = 4 := rfl
          have hadd := fun W => run_string_add_sum (P := Tryd.prog) W s ⟨#[114, 101, 115, 116]⟩ (by omega)
          have hads : (s ++ ⟨#[114, 101, 115, 116]⟩).size ≤ 65536 := by rw [ByteArray.size_append]; omega
          go_wp2_with fail
          refine (implUnpackNumber_any _ _ hads hE8).mono ?_
          rintro e w9 ⟨hu9, b9⟩
          obtain rfl := unpacked_of_num hu9 HR.out
          have hc9 : w9.cell? ⟨b, off + j, none⟩ = some (.int .i64 (n : Int)) := by rw [b9.cell (p := ⟨b, off + j, none⟩) (lt_of_cell hc8)]; exact hc8
          have hE9 := hE8.below b9
          have hI9 := hI8.below b9
          have r9 := r8.below b9
          have B9 := sub_trans B8 b9
          clear hu9 HR hadd hads hc8 hE8 hI8 r8 B8 b9 hrs
          have hsub : ((s.size : Int) - 1).toNat = s.size - 1 := by omega
          go_wp2_with fail
          refine (implUnpackNumber_any _ _ (by simp; omega) hE9).mono ?_
          rintro e w10 ⟨hu10, b10⟩
          obtain rfl := unpacked_of_noNum hu10 HF.out
          have hc10 : w10.cell? ⟨b, off + j, none⟩ = some (.int .i64 (n : Int)) := by rw [b10.cell (p := ⟨b, off + j, none⟩) (lt_of_cell hc9)]; exact hc9
          have hE10 := hE9.below b10
          have hI10 := hI9.below b10
          have r10 := r9.below b10
          have B10 := sub_trans B9 b10
          have hne1 : ((n : Int) != (n : Int)) = false := by simp
          have hne2 : ((s.size : Int) != (s.size : Int)) = false := by simp
          clear hu10 HF hc9 hE9 hI9 r9 B9 b10 hsub
          go_wp2
          go_roundw
          case rel => exact ⟨j + 1, by omega, by go_num, hI10, hE10, r10, B10⟩
          case measure => simp [intOf]; omega
      · obtain rfl : j = N := by omega
        go_wp2_with fail
        refine (at_any _ _ _ z1 0 9 _ rr l1 (by omega) (by omega) (by omega)).mono ?_
        rintro e w8 ⟨⟨c8, hc8, rfl⟩, d8, rfl⟩
        have hc9 : c8 ≤ 9 := by omega
        have r8 := rr.drew d8
        have hE8 := errType_drew hEr d8
        have B8 := below_drewN Br d8
        clear hIr rr hEr Br hc8
        generalize wr.drewN d8 = W8 at *
        go_wp2_with fail
        refine (textOf_any _ _ _ c8 z1 _ r8 l1 (by omega)).mono ?_
        rintro e w9 ⟨⟨ys, hyl, hyb, rfl⟩, b9⟩
        have hE9 := hE8.below b9
        have hxs : (strOfNums ys).size ≤ 65536 := by rw [strOfNums_size]; omega
        clear hyl hyb hE8 r8
        generalize strOfNums ys = x at *
        go_wp2_with fail
        refine (implUnpackList_any x _ hxs hE9).mono ?_
        rintro e w10 ⟨⟨a10, cap10, zs10, c10, hU10, rfl, hO10⟩, b10⟩
        have HU : Hid (IsUnpacked x zs10 c10) := hU10
        clear hU10 hE9
        go_wp2_with fail
        refine (specUnpackList_any x _ hxs).mono ?_
        rintro e w11 ⟨⟨a11, cap11, zs11, c11, hU11, rfl, hO11⟩, b11⟩
        obtain ⟨e1, e2⟩ := HU.out.same hU11
        subst e1 e2
        clear hU11 HU
        have hIy := hO10.ints.below b11
        have hIz := hO11.ints
        have BB : Below w.heap.size w w11 := sub_trans (sub_trans (sub_trans B8 b9) b10) b11
        obtain ⟨M, hM⟩ : ∃ M, M = zs10.length := ⟨_, rfl⟩
        rw [← hM] at hIy hIz
        rw [← hM]
        clear hM hO10 hO11 b9 b10 b11 B8
        go_wp2_with (go_at_call 9; refine (sameInts_same _ _ _ _ _ (ofNats zs10) _ hIy hIz).mono ?_; rintro e w12 ⟨rfl, d12, rfl⟩)
        go_ret
        exact ⟨rfl, below_drewN BB d12⟩
theorem fnNumbers_laid {W : World} (h : laidMetH Tryd.prog Rows.fnNumbersRow.laid W) : ErrType W := errType_of_laid rfl h
theorem fnNumbers_door_met (os : Os) (args : Array Value) : laidMetH Tryd.prog Rows.fnNumbersRow.laid ((World.doorLaid Tryd.prog 400 os).forCall (fun _ _ => 0) ⟨#[], args, []⟩).memory :=
  laidMetH_of_parts3 (fuel := 8) (laidMet_of_run' 8 (by kernel_rfl) (by kernel_rfl)) (by kernel_rfl) (by kernel_rfl)
end Go.Proofs.YthbbeflcmnehpaaDoor
