/-
  FnProgram, part 31 of 50 (Num, PackNum0, PackList, NumbersPlain).
-/
import Derived.Test.YtiokkoaalakakaaGreatDoorJ05
import Derived.Test.YtiokkoaalakakaaGreatDoorProg
import Derived.WalkKit
import Derived.WalkSpells
import Derived.WalkLawsBesides
import Derived.Laws.BytesArg
import Derived.Test.YtiokkoaalakakaaGreatDoorJ03
import Derived.Test.YtiokkoaalakakaaGreatDoorJ24
import Derived.Test.YtiokkoaalakakaaGreatDoorJ01
import Derived.Test.YtiokkoaalakakaaGreatDoorJ30
/-
  The bytes of a number: the program's appendNumber and the specification's l01Number lay the same bytes ('pack'), by contracts.
-/
namespace Go.Proofs.YtiokkoaalakakaaGreatDoor
open Go.RowKit

set_option maxHeartbeats 1000000 in
set_option maxRecDepth 100000 in
theorem appendNumber_any (base m : Nat) (v : Value) (xs : List Int) (n : Nat) (w : World) (hn : n ≤ 999999999) (hown : w.ownsRow base 5 1 v m (u8s xs)) (hb : base ≤ w.heap.size) (hm : m ≤ 1099511627776) :
    Calls Tryz.prog 48 #[v, .int .i64 n] w fun e w' => ∃ v', e = .returned v' ∧ w'.ownsRow base 5 1 v' (m + (pack n).length) (u8s (xs ++ pack n)) ∧ Below base w w' := by
  obtain ⟨i0, hi, hz0, hz1, hz2⟩ := info_parts info_u8
  go_enter Tryz.func48, Tryz.ntmps48
  go_wp2
  go_loopw [0, 1] (fun sv si wr => ∃ (k : Nat) (ys : List Int), k ≤ 999999999 ∧ si = .int .i64 k ∧ wr.ownsRow base 5 1 sv (m + ys.length) (u8s (xs ++ ys)) ∧ Hid (ys ++ pack k = pack n) ∧ Below base w wr) (fun _ si _ => (intOf si).toNat)
  case atStart => exact ⟨n, [], hn, rfl, by simpa using hown, by simp [Hid], Below.refl _ _⟩
  case round =>
    obtain ⟨k, ys, hk, rfl, ho, HY, hbel⟩ := hrel
    have hlen : ys.length ≤ 4 := by
      have h1 := congrArg List.length HY.out
      have h2 := pack_len k
      have h3 := pack_len n
      simp at h1; omega
    have hbw : base ≤ wr.heap.size := by have := hbel.size; omega
    by_cases hlt : 128 ≤ k
    · go_wp2_with (at_builtin; refine wpList_append_own _ rfl _ _ 22 rfl base 5 i0 (.int .u8 0) 1 1 Tryz.underlying22 hi hz0 hz1 hz2 rfl (by decide) _ _ _ rfl (ho.alloc _) ⟨wr.heap.size, 0, none⟩ 1 1 [.int .u8 ((k : Int) % 128 + 128)] rfl rfl (cell_one_new _ _ _) (one_u8 _) ?c3 ?c4 ?c5 ?_)
      case c3 => unfold maxLen; omega
      case c4 => omega
      case c5 => simp; omega
      intro v' w1 hown' hgrow _
      have R : w1.ownsRow base 5 1 v' (m + (ys ++ [(k : Int) % 128 + 128]).length) (u8s (xs ++ (ys ++ [(k : Int) % 128 + 128]))) := by simpa [Nat.add_assoc] using hown'
      have hb1 : Below base w w1 := (hbel.alloc hbw _).grown hgrow (by simp; omega) (fun j hj => (ho.lt _ hj).1)
      clear hown' hgrow ho
      go_wp2
      go_roundw
      case rel => exact ⟨k / 128, ys ++ [(k : Int) % 128 + 128], by omega, by go_num, R, by rw [Hid, List.append_assoc, List.singleton_append, ← pack_step hlt (by omega)]; exact HY.out, hb1⟩
      case measure => simp [intOf]; omega
    · go_wp2_with (at_builtin; refine wpList_append_own _ rfl _ _ 22 rfl base 5 i0 (.int .u8 0) 1 1 Tryz.underlying22 hi hz0 hz1 hz2 rfl (by decide) _ _ _ rfl (ho.alloc _) ⟨wr.heap.size, 0, none⟩ 1 1 [.int .u8 (k : Int)] rfl rfl (cell_one_new _ _ _) (one_u8 _) ?d3 ?d4 ?d5 ?_)
      case d3 => unfold maxLen; omega
      case d4 => omega
      case d5 => simp; omega
      intro v' w1 hown' hgrow _
      have hb1 : Below base w w1 := (hbel.alloc hbw _).grown hgrow (by simp; omega) (fun j hj => (ho.lt _ hj).1)
      have hp : pack n = ys ++ [(k : Int)] := by rw [← HY.out, pack_small (by omega)]
      have R : w1.ownsRow base 5 1 v' (m + (pack n).length) (u8s (xs ++ pack n)) := by rw [hp]; simpa [Nat.add_assoc] using hown'
      clear hown' hgrow ho hp HY
      go_wp2
      go_ret
      exact ⟨v', rfl, R, hb1⟩
end Go.Proofs.YtiokkoaalakakaaGreatDoor

/-
  The specification's l01Number lays the bytes 'pack n' of a number.
-/
namespace Go.Proofs.YtiokkoaalakakaaGreatDoor
open Go.RowKit

set_option maxHeartbeats 1000000 in
set_option maxRecDepth 100000 in
theorem l01Number_any (n : Nat) (w : World) (hn : n ≤ 999999999) :
    Calls Tryz.prog 58 #[.int .i64 n] w fun e w' => e = .returned (.string (strOfNums (pack n))) ∧ Below w.heap.size w w' := by
  obtain ⟨i0, hi, hz0, hz1, hz2⟩ := info_parts info_u8
  go_enter Tryz.func58, Tryz.ntmps58
  go_wp2
  go_loopw [0, 3] (fun si sv wr => ∃ (k : Nat) (ys : List Int), k ≤ 999999999 ∧ si = .int .i64 k ∧ wr.ownsRow w.heap.size 5 1 sv ys.length (u8s ys) ∧ Hid (ys ++ pack k = pack n) ∧ Below w.heap.size w wr) (fun si _ _ => (intOf si).toNat)
  case atStart => exact ⟨n, [], hn, rfl, World.ownsRow_lit w #[] 0 (Nat.le_refl _) (by unfold maxLen; omega) rfl, by simp [Hid], (Below.refl _ _).alloc (Nat.le_refl _) _⟩
  case round =>
    obtain ⟨k, ys, hk, rfl, ho, HY, hbel⟩ := hrel
    have hlen : ys.length ≤ 4 := by
      have h1 := congrArg List.length HY.out
      have h2 := pack_len k
      have h3 := pack_len n
      simp at h1; omega
    have hbw : w.heap.size ≤ wr.heap.size := hbel.size
    by_cases hlt : 128 ≤ k
    · go_wp2_with (at_builtin; refine wpList_append_own _ rfl _ _ 22 rfl w.heap.size 5 i0 (.int .u8 0) 1 1 Tryz.underlying22 hi hz0 hz1 hz2 rfl (by decide) _ _ _ rfl (ho.alloc _) ⟨wr.heap.size, 0, none⟩ 1 1 [.int .u8 (128 + (k : Int) % 128)] rfl rfl (cell_one_new _ _ _) (one_u8 _) ?c3 ?c4 ?c5 ?_)
      case c3 => unfold maxLen; omega
      case c4 => omega
      case c5 => simp; omega
      intro v' w1 hown' hgrow _
      have hcomm : (128 + (k : Int) % 128) = (k : Int) % 128 + 128 := by omega
      rw [hcomm] at hown'
      clear hcomm
      have R : w1.ownsRow w.heap.size 5 1 v' (ys ++ [(k : Int) % 128 + 128]).length (u8s (ys ++ [(k : Int) % 128 + 128])) := by simpa [Nat.add_assoc] using hown'
      have hb1 : Below w.heap.size w w1 := (hbel.alloc hbw _).grown hgrow (by simp; omega) (fun j hj => (ho.lt _ hj).1)
      clear hown' hgrow ho
      go_wp2
      go_roundw
      case rel => exact ⟨k / 128, ys ++ [(k : Int) % 128 + 128], by omega, by go_num, R, by rw [Hid, List.append_assoc, List.singleton_append, ← pack_step hlt (by omega)]; exact HY.out, hb1⟩
      case measure => simp [intOf]; omega
    · go_wp2_with (at_builtin; refine wpList_append_own _ rfl _ _ 22 rfl w.heap.size 5 i0 (.int .u8 0) 1 1 Tryz.underlying22 hi hz0 hz1 hz2 rfl (by decide) _ _ _ rfl (ho.alloc _) ⟨wr.heap.size, 0, none⟩ 1 1 [.int .u8 (k : Int)] rfl rfl (cell_one_new _ _ _) (one_u8 _) ?d3 ?d4 ?d5 ?_)
      case d3 => unfold maxLen; omega
      case d4 => omega
      case d5 => simp; omega
      intro v' w1 hown' hgrow _
      have hb1 : Below w.heap.size w w1 := (hbel.alloc hbw _).grown hgrow (by simp; omega) (fun j hj => (ho.lt _ hj).1)
      have hp : pack n = ys ++ [(k : Int)] := by rw [← HY.out, pack_small (by omega)]
      have R : w1.ownsRow w.heap.size 5 1 v' (ys.length + 1) (u8s (pack n)) := by rw [hp]; simpa [Nat.add_assoc] using hown'
      have hcv := conv_owned R
      clear hown' hgrow ho hp HY R
      go_wp2
      go_ret
      exact ⟨rfl, hb1⟩

end Go.Proofs.YtiokkoaalakakaaGreatDoor

/-
  PackList, the program's and the specification's: both answer the length's bytes and then each number's; ErrLong of more than 4096 numbers, ErrRange where one is out of its bounds; the list is only read. FnExactPackList's walk.
-/
namespace Go.Proofs.YtiokkoaalakakaaGreatDoor
open Go.RowKit

def allOk (zs : List Int) : Prop := ∀ z ∈ zs, 0 ≤ z ∧ z ≤ 999999999
def packs (zs : List Int) : List Int := zs.flatMap fun z => pack z.toNat
/-- The bytes of a list. -/
def packL (zs : List Int) : List Int := pack zs.length ++ packs zs

theorem packs_len : ∀ zs : List Int, (packs zs).length ≤ 5 * zs.length
  | [] => by simp [packs]
  | z :: zs => by
    have h := packs_len zs
    have h2 := (pack_len z.toNat).2
    simp only [packs, List.flatMap_cons, List.length_append, List.length_cons] at h ⊢
    omega
theorem packs_snoc (zs : List Int) (k : Nat) (h : k < zs.length) : packs (zs.take (k + 1)) = packs (zs.take k) ++ pack (zs.getD k 0).toNat := by
  have g : zs.getD k 0 = zs[k] := by simp [List.getElem?_eq_getElem h]
  rw [g, List.take_succ_eq_append_getElem h]
  unfold packs
  rw [List.flatMap_append]
  simp only [List.flatMap_cons, List.flatMap_nil, List.append_nil]
theorem getD_mem {zs : List Int} {k : Nat} (h : k < zs.length) : zs.getD k 0 ∈ zs := by
  simp [List.getElem?_eq_getElem h]
theorem bad_of_not {zs : List Int} (h : ¬ allOk zs) : ∃ k, k < zs.length ∧ ¬ (0 ≤ zs.getD k 0 ∧ zs.getD k 0 ≤ 999999999) := by
  apply Classical.byContradiction
  intro hn
  apply h
  intro z hz
  obtain ⟨k, hk, rfl⟩ := List.getElem_of_mem hz
  apply Classical.byContradiction
  intro hb
  exact hn ⟨k, hk, by simpa [List.getElem?_eq_getElem hk] using hb⟩

set_option maxHeartbeats 1000000 in
set_option maxRecDepth 100000 in
theorem l01List_any (a : Option Addr) (len cap : Nat) (zs : List Int) (w : World) (h : Ints .i64 w a len cap zs) (hlen : len ≤ 4096) (hok : allOk zs) :
    Calls Tryz.prog 50 #[.slice a len cap] w fun e w' => e = .returned (.string (strOfNums (packL zs))) ∧ Below w.heap.size w w' := by
  obtain ⟨hl, hlc, hcm, hcase⟩ := h
  unfold maxLen at hcm
  rcases hcase with h0 | ⟨b, off, rfl, hblt, hcell⟩
  · subst h0
    have hz : zs = [] := by simpa using hl
    subst hz
    go_enter Tryz.func50, Tryz.ntmps50
    go_wp2_with fail
    refine (l01Number_any 0 _ (by omega)).mono ?_
    rintro e w1 ⟨rfl, hb1⟩
    go_wp2
    refine wp_loop_rounds 1 ?_
    rw [rounds_succ]
    go_wp2
    go_ret
    exact ⟨rfl, hb1⟩
  · go_enter Tryz.func50, Tryz.ntmps50
    go_wp2_with fail
    refine (l01Number_any len _ (by omega)).mono ?_
    rintro e w1 ⟨rfl, hb1⟩
    go_wp2
    go_loopw [3, 4] (fun st si wr => ∃ k : Nat, k ≤ len ∧ si = .int .i64 k ∧ st = .string (strOfNums (pack len ++ packs (zs.take k))) ∧ Below w.heap.size w wr) (fun _ si _ => len - (intOf si).toNat)
    case atStart => exact ⟨0, by omega, rfl, by simp [packs], hb1⟩
    case round =>
      obtain ⟨k, hk, rfl, rfl, hbel⟩ := hrel
      by_cases hlt : k < len
      · have hc : wr.cell? ⟨b, off + k, none⟩ = some (.int .i64 (zs.getD k 0)) := by rw [hbel.cell (p := ⟨b, off + k, none⟩) hblt]; exact hcell k hlt
        have hx := hok _ (getD_mem (k := k) (by omega))
        have hsn := packs_snoc zs k (by omega)
        have hpl := packs_len (zs.take k)
        have hp5 := (pack_len len).2
        have hq5 := (pack_len (zs.getD k 0).toNat).2
        have htl : (zs.take k).length ≤ 4096 := by simp; omega
        generalize zs.getD k 0 = x at hc hx hsn hq5
        obtain ⟨n, rfl⟩ := Int.eq_ofNat_of_zero_le hx.1
        have hn : n ≤ 999999999 := by omega
        rw [Int.toNat_natCast] at hsn hq5
        have R : Hid (strOfNums (pack len ++ packs (zs.take k)) ++ strOfNums (pack n) = strOfNums (pack len ++ packs (zs.take (k + 1)))) := by
          rw [Hid, hsn, ← str_append, List.append_assoc]
        have hsum : (strOfNums (pack len ++ packs (zs.take k))).size + (strOfNums (pack n)).size ≤ 9223372036854775807 := by
          rw [strOfNums_size, strOfNums_size, List.length_append]; omega
        have hadd := fun W => run_string_add_sum (P := Tryz.prog) W _ _ hsum
        clear hsn hpl hp5 hq5 htl hsum hx
        generalize strOfNums (pack len ++ packs (zs.take k)) = sk at hadd R
        go_wp2_with (go_at_call 58; refine (l01Number_any n _ hn).mono ?_; rintro e w2 ⟨rfl, hb2⟩)
        go_roundw
        case rel => exact ⟨k + 1, by omega, by go_num, by rw [R.out], hbel.trans (hb2.mono hbel.size)⟩
        case measure => simp [intOf]; omega
      · obtain rfl : k = len := by omega
        go_wp2
        go_ret
        exact ⟨by unfold packL; rw [List.take_of_length_le (Nat.le_of_eq hl), hl]; rfl, hbel⟩
end Go.Proofs.YtiokkoaalakakaaGreatDoor

/-
  Plain mathematics for FnNumbers: a list's bytes are that list, with a byte more they are none, no bytes are none; a number's bytes with others behind are that number, with one fewer none.
-/
namespace Go.Proofs.YtiokkoaalakakaaGreatDoor

theorem nats_of {zs : List Int} (h : ∀ z ∈ zs, 0 ≤ z ∧ z ≤ 999999999) : ∃ ns : List Nat, zs = ns.map (fun z : Nat => (z : Int)) ∧ ∀ n ∈ ns, n ≤ 999999999 := by
  refine ⟨zs.map Int.toNat, ?_, ?_⟩
  · rw [List.map_map]
    conv => lhs; rw [← List.map_id zs]
    apply List.map_congr_left
    intro z hz
    have := h z hz
    simp only [id, Function.comp]
    omega
  · intro n hn
    obtain ⟨z, hz, rfl⟩ := List.mem_map.1 hn
    have := h z hz
    omega
theorem packL_nats (ns : List Nat) : packL (ns.map (fun z : Nat => (z : Int))) = pack ns.length ++ packsN ns := by
  unfold packL packs packsN
  rw [List.length_map]
  congr 1
  induction ns with
  | nil => rfl
  | cons n ns ih => simp [List.flatMap_cons, ih]
theorem packsN_byte {ns : List Nat} (h : ∀ n ∈ ns, n ≤ 999999999) : ∀ x ∈ packsN ns, 0 ≤ x ∧ x ≤ 255 := by
  intro x hx
  obtain ⟨n, hn, hx⟩ := List.mem_flatMap.1 hx
  exact pack_byte n (by have := h n hn; omega) x hx
theorem packL_byte {ns : List Nat} (h : ∀ n ∈ ns, n ≤ 999999999) (hl : ns.length ≤ 4096) : ∀ x ∈ pack ns.length ++ packsN ns, 0 ≤ x ∧ x ≤ 255 := by
  intro x hx
  rcases List.mem_append.1 hx with hx | hx
  · exact pack_byte _ (by omega) x hx
  · exact packsN_byte h x hx
theorem listed_pack {ns : List Nat} (h : ∀ n ∈ ns, n ≤ 999999999) (hl : ns.length ≤ 4096) : Listed (strOfNums (pack ns.length ++ packsN ns)) ns := by
  have hb := bytesAt_str _ (packL_byte h hl)
  have hn := num_of_bytes (by omega) (bytesAt_left hb)
  refine listed_of hn hl (numsAt_of_bytes h ?_) rfl ?_
  · simpa using bytesAt_right hb
  · rw [strOfNums_size, List.length_append]
theorem noList_longer {ns : List Nat} (h : ∀ n ∈ ns, n ≤ 999999999) (hl : ns.length ≤ 4096) (b : ByteArray) (hb : 0 < b.size) : NoList (strOfNums (pack ns.length ++ packsN ns) ++ b) := by
  have hb' := bytesAt_app (b := b) (bytesAt_str _ (packL_byte h hl))
  have hn := num_of_bytes (by omega) (bytesAt_left hb')
  refine noList_more hn (numsAt_of_bytes h (by simpa using bytesAt_right hb')) rfl ?_
  rw [ByteArray.size_append, strOfNums_size, List.length_append]
  omega
theorem noNum_empty : NoNum ⟨#[]⟩ 0 := noNum_of_noEnd (fun i _ hs => by
  have : (⟨#[]⟩ : ByteArray).size = 0 := rfl
  omega)
theorem noList_empty : NoList ⟨#[]⟩ := noList_of_noNum noNum_empty
theorem num_rest {n : Nat} (hn : n ≤ 999999999) (b : ByteArray) : Num (strOfNums (pack n) ++ b) 0 n (pack n).length :=
  num_of_bytes hn (bytesAt_app (bytesAt_str _ (pack_byte n (by omega))))
theorem noNum_fewer {n : Nat} (hn : n ≤ 999999999) : NoNum ((strOfNums (pack n)).extract 0 ((pack n).length - 1)) 0 := by
  have hN := num_of_bytes (s := strOfNums (pack n)) (p := 0) hn (bytesAt_str _ (pack_byte n (by omega)))
  have hl := pack_len n
  have hsz : (strOfNums (pack n)).size = (pack n).length := strOfNums_size _
  refine noNum_of_noEnd (fun i hi hs => ?_)
  have hi' : i < (pack n).length - 1 := by simp [hsz] at hs; omega
  rw [Nat.zero_add, bt_head _ _ _ hi' (by omega)]
  have := hN.1.2.2.2.1 i (by omega)
  rwa [Nat.zero_add] at this
end Go.Proofs.YtiokkoaalakakaaGreatDoor
