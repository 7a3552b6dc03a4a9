/-
  Plain mathematics for FnNumbers: a list's bytes are that list, with a byte more they are none, no bytes are none; a number's bytes with others behind are that number, with one fewer none.
-/
import Derived.Test.YtiokkoaalakakaaPackRead
import Derived.Test.YtiokkoaalakakaaPackList
namespace Go.Proofs.Ytiokkoaalakakaa

theorem nats_of {zs : List Int} (h : ∀ z ∈ zs, 0 ≤ z ∧ z ≤ 999999999) : ∃ ns : List Nat, zs = ns.map (fun z : Nat => (z : Int)) ∧ ∀ n ∈ ns, n ≤ 999999999 := by
  refine ⟨zs.map Int.toNat, ?_, ?_⟩
  · rw [List.map_map]
    conv => lhs; rw [← List.map_id zs]
    apply List.map_congr_left
    intro z hz
    have := h z hz
    simp only [id, Function.comp]
    omega
  · intro n hn
    obtain ⟨z, hz, rfl⟩ := List.mem_map.1 hn
    have := h z hz
    omega
theorem packL_nats (ns : List Nat) : packL (ns.map (fun z : Nat => (z : Int))) = pack ns.length ++ packsN ns := by
  unfold packL packs packsN
  rw [List.length_map]
  congr 1
  induction ns with
  | nil => rfl
  | cons n ns ih => simp [List.flatMap_cons, ih]
theorem packsN_byte {ns : List Nat} (h : ∀ n ∈ ns, n ≤ 999999999) : ∀ x ∈ packsN ns, 0 ≤ x ∧ x ≤ 255 := by
  intro x hx
  obtain ⟨n, hn, hx⟩ := List.mem_flatMap.1 hx
  exact pack_byte n (by have := h n hn; omega) x hx
theorem packL_byte {ns : List Nat} (h : ∀ n ∈ ns, n ≤ 999999999) (hl : ns.length ≤ 4096) : ∀ x ∈ pack ns.length ++ packsN ns, 0 ≤ x ∧ x ≤ 255 := by
  intro x hx
  rcases List.mem_append.1 hx with hx | hx
  · exact pack_byte _ (by omega) x hx
  · exact packsN_byte h x hx
theorem listed_pack {ns : List Nat} (h : ∀ n ∈ ns, n ≤ 999999999) (hl : ns.length ≤ 4096) : Listed (strOfNums (pack ns.length ++ packsN ns)) ns := by
  have hb := bytesAt_str _ (packL_byte h hl)
  have hn := num_of_bytes (by omega) (bytesAt_left hb)
  refine listed_of hn hl (numsAt_of_bytes h ?_) rfl ?_
  · simpa using bytesAt_right hb
  · rw [strOfNums_size, List.length_append]
theorem noList_longer {ns : List Nat} (h : ∀ n ∈ ns, n ≤ 999999999) (hl : ns.length ≤ 4096) (b : ByteArray) (hb : 0 < b.size) : NoList (strOfNums (pack ns.length ++ packsN ns) ++ b) := by
  have hb' := bytesAt_app (b := b) (bytesAt_str _ (packL_byte h hl))
  have hn := num_of_bytes (by omega) (bytesAt_left hb')
  refine noList_more hn (numsAt_of_bytes h (by simpa using bytesAt_right hb')) rfl ?_
  rw [ByteArray.size_append, strOfNums_size, List.length_append]
  omega
theorem noNum_empty : NoNum ⟨#[]⟩ 0 := noNum_of_noEnd (fun i _ hs => by
  have : (⟨#[]⟩ : ByteArray).size = 0 := rfl
  omega)
theorem noList_empty : NoList ⟨#[]⟩ := noList_of_noNum noNum_empty
theorem num_rest {n : Nat} (hn : n ≤ 999999999) (b : ByteArray) : Num (strOfNums (pack n) ++ b) 0 n (pack n).length :=
  num_of_bytes hn (bytesAt_app (bytesAt_str _ (pack_byte n (by omega))))
theorem noNum_fewer {n : Nat} (hn : n ≤ 999999999) : NoNum ((strOfNums (pack n)).extract 0 ((pack n).length - 1)) 0 := by
  have hN := num_of_bytes (s := strOfNums (pack n)) (p := 0) hn (bytesAt_str _ (pack_byte n (by omega)))
  have hl := pack_len n
  have hsz : (strOfNums (pack n)).size = (pack n).length := strOfNums_size _
  refine noNum_of_noEnd (fun i hi hs => ?_)
  have hi' : i < (pack n).length - 1 := by simp [hsz] at hs; omega
  rw [Nat.zero_add, bt_head _ _ _ hi' (by omega)]
  have := hN.1.2.2.2.1 i (by omega)
  rwa [Nat.zero_add] at this
end Go.Proofs.Ytiokkoaalakakaa
