/-
  FnBugs, part 36 of 50 (SplB, CodeOf2).
-/
import Derived.Shelf.Strings.Split
import Derived.Test.YtkmnnmgopnoffaaDoorJ16
import Derived.Test.YtkmnnmgopnoffaaDoorJ20
import Derived.Test.YtkmnnmgopnoffaaDoorJ10
import Derived.Test.YtkmnnmgopnoffaaDoorJ34

/-
  A text cut at its blanks: strings.Split by the library's contract (laid in plain words), the specification's l00Cut; both give the same pieces.
-/
namespace Go.Proofs.YtkmnnmgopnoffaaDoor
open Go.RowKit Go.Shelf Go.Lib
set_option linter.unusedVariables false
set_option linter.unusedSimpArgs false

def splitS_ren : Go.Shelf.Ren := ⟨fun | 146 => 87 | 221 => 125 | 268 => 154 | 138 => 155 | 143 => 156 | 195 => 175 | 197 => 176 | 218 => 177 | 219 => 178 | 260 => 188 | 217 => 189 | 225 => 190 | 224 => 191 | 267 => 192 | 266 => 198 | 314 => 199 | n => n, fun | 9 => 9 | 31 => 117 | 3 => 3 | 4 => 4 | 0 => 0 | 105 => 209 | 21 => 21 | 5 => 5 | 46 => 182 | 119 => 233 | 139 => 236 | 138 => 235 | 146 => 237 | 51 => 204 | n => n, fun | 1 => 2 | 3 => 4 | 4 => 5 | n => n⟩
theorem splitS : Go.Proofs.Lays.n146 Tryd.prog splitS_ren := {
  mixed := by kernel_rfl
  f138 := Tryd.func155.trans (congrArg some (by kernel_rfl))
  f143 := Tryd.func156.trans (congrArg some (by kernel_rfl))
  f146 := Tryd.func87.trans (congrArg some (by kernel_rfl))
  f195 := Tryd.func175.trans (congrArg some (by kernel_rfl))
  f197 := Tryd.func176.trans (congrArg some (by kernel_rfl))
  f217 := Tryd.func189.trans (congrArg some (by kernel_rfl))
  f218 := Tryd.func177.trans (congrArg some (by kernel_rfl))
  f219 := Tryd.func178.trans (congrArg some (by kernel_rfl))
  f221 := Tryd.func125.trans (congrArg some (by kernel_rfl))
  f224 := Tryd.func191.trans (congrArg some (by kernel_rfl))
  f225 := Tryd.func190.trans (congrArg some (by kernel_rfl))
  f260 := Tryd.func188.trans (congrArg some (by kernel_rfl))
  f266 := Tryd.func198.trans (congrArg some (by kernel_rfl))
  f267 := Tryd.func192.trans (congrArg some (by kernel_rfl))
  f268 := Tryd.func154.trans (congrArg some (by kernel_rfl))
  f314 := Tryd.func199.trans (congrArg some (by kernel_rfl))
  t0 := Tryd.underlying0
  a0 := Tryd.isAgg0
  z0 := Tryd.sizeOf0
  v0 := Tryd.zeroValue0
  t3 := Tryd.underlying3
  a3 := Tryd.isAgg3
  z3 := Tryd.sizeOf3
  v3 := Tryd.zeroValue3
  t4 := Tryd.underlying4
  a4 := Tryd.isAgg4
  z4 := Tryd.sizeOf4
  v4 := Tryd.zeroValue4
  t5 := Tryd.underlying5
  a5 := Tryd.isAgg5
  z5 := Tryd.sizeOf5
  v5 := Tryd.zeroValue5
  t9 := Tryd.underlying9
  a9 := Tryd.isAgg9
  z9 := Tryd.sizeOf9
  v9 := Tryd.zeroValue9
  t21 := Tryd.underlying21
  a21 := Tryd.isAgg21
  z21 := Tryd.sizeOf21
  v21 := Tryd.zeroValue21
  t31 := Tryd.underlying117
  a31 := Tryd.isAgg117
  z31 := Tryd.sizeOf117
  v31 := Tryd.zeroValue117
  t46 := Tryd.underlying182
  a46 := Tryd.isAgg182
  z46 := Tryd.sizeOf182
  v46 := Tryd.zeroValue182
  t51 := Tryd.underlying204
  a51 := Tryd.isAgg204
  z51 := Tryd.sizeOf204
  v51 := Tryd.zeroValue204
  t105 := Tryd.underlying209
  a105 := Tryd.isAgg209
  z105 := Tryd.sizeOf209
  v105 := Tryd.zeroValue209
  t119 := Tryd.underlying233
  a119 := Tryd.isAgg233
  z119 := Tryd.sizeOf233
  t138 := Tryd.underlying235
  a138 := Tryd.isAgg235
  z138 := Tryd.sizeOf235
  v138 := Tryd.zeroValue235
  t139 := Tryd.underlying236
  a139 := Tryd.isAgg236
  z139 := Tryd.sizeOf236
  v139 := Tryd.zeroValue236
  t146 := Tryd.underlying237
  a146 := Tryd.isAgg237
  z146 := Tryd.sizeOf237
  v146 := Tryd.zeroValue237
  g1 := by kernel_rfl
  g3 := by kernel_rfl
  g4 := by kernel_rfl }



/-- The pieces of a row of bytes, between blanks. -/
def splitL : List UInt8 → List (List UInt8)
  | [] => [[]]
  | b :: l => if b = 32 then [] :: splitL l else match splitL l with
    | [] => [[b]]
    | p :: ps => (b :: p) :: ps
theorem splitL_ne : ∀ l, splitL l ≠ []
  | [] => by simp [splitL]
  | b :: l => by
    have ih := splitL_ne l
    unfold splitL
    split
    · simp
    · cases h : splitL l with
      | nil => exact absurd h ih
      | cons p ps => simp
theorem splitK_is : ∀ l : List UInt8, splitK [32] 0 (l.count 32) l = splitL l
  | [] => rfl
  | b :: l => by
    have ih := splitK_is l
    unfold splitL
    by_cases h : b = 32
    · subst h
      rw [if_pos rfl, List.count_cons_self]
      have hi : index (32 :: l) [32] = 0 := by rw [index_one]; simp [indexByte]
      unfold splitK
      rw [hi]
      simp [ih]
    · rw [if_neg h, List.count_cons_of_ne (by simpa using h)]
      have hi : index (b :: l) [32] = if index l [32] == -1 then -1 else index l [32] + 1 := by rw [index_one, index_one]; simp [indexByte, h]
      generalize l.count 32 = k at *
      rw [← ih]
      cases k with
      | zero => simp [splitK]
      | succ k =>
        unfold splitK
        rw [hi]
        by_cases h1 : index l [32] = -1
        · simp [h1]
        · have h0 := index_ge l [32]
          have h2 : (index l [32] == -1) = false := by simp [h1]
          have h3 : (index l [32] + 1 == -1) = false := by simp; omega
          simp only [h2, Bool.false_eq_true, if_false, h3, Nat.add_zero]
          have h4 : (index l [32] + 1).toNat = (index l [32]).toNat + 1 := by omega
          rw [h4]
          simp
/-- The pieces of a text. -/
def pcs (s : ByteArray) : List ByteArray := splitB ⟨#[32]⟩ 0 (countB s ⟨#[32]⟩) s
theorem pcs_data (s : ByteArray) : (pcs s).map (·.data.toList) = splitL s.data.toList := by
  unfold pcs
  rw [splitB_data]
  have hc : countB s ⟨#[32]⟩ = s.data.toList.count 32 := by
    show Lib.count s.data.toList [32] = _
    rw [count_one]
  rw [hc]
  exact splitK_is _
theorem pcs_len (s : ByteArray) : (pcs s).length = countB s ⟨#[32]⟩ + 1 := splitB_all _ (by decide) 0 _ s rfl
theorem pcs_le (s : ByteArray) : (pcs s).length ≤ s.size + 1 := by rw [pcs_len]; have := countB_le ⟨#[32]⟩ (by decide) s.size s (Nat.le_refl _); omega
theorem data_inj : ∀ {a b : List ByteArray}, a.map (·.data.toList) = b.map (·.data.toList) → a = b
  | [], [], _ => rfl
  | [], _ :: _, h => by simp at h
  | _ :: _, [], h => by simp at h
  | x :: a, y :: b, h => by
    simp only [List.map_cons, List.cons.injEq] at h
    rw [data_inj h.2]
    obtain ⟨⟨x⟩⟩ := x
    obtain ⟨⟨y⟩⟩ := y
    simp at h
    rw [h.1]
theorem mem_size {s p : ByteArray} (h : p ∈ pcs s) : p.size ≤ s.size := by
  have hall : ∀ l : List UInt8, ∀ q ∈ splitL l, q.length ≤ l.length := by
    intro l
    induction l with
    | nil => intro q hq; simp [splitL] at hq; subst hq; simp
    | cons b l ih =>
      intro q hq
      unfold splitL at hq
      split at hq
      · rcases List.mem_cons.1 hq with e | e
        · subst e; simp
        · have := ih q e; simp; omega
      · cases hs : splitL l with
        | nil => exact absurd hs (splitL_ne l)
        | cons p ps =>
          rw [hs] at hq ih
          rcases List.mem_cons.1 hq with e | e
          · subst e
            have := ih p (by simp)
            simp; omega
          · have := ih q (by simp [e])
            simp; omega
  have h1 : p.data.toList ∈ (pcs s).map (·.data.toList) := List.mem_map.2 ⟨p, h, rfl⟩
  rw [pcs_data] at h1
  have h2 := hall _ _ h1
  rw [Array.length_toList, Array.length_toList] at h2
  exact h2

theorem info_strS : (Tryd.prog.info? 9).map (fun i => (i.zero, i.size, i.bytes)) = some (some (.string ByteArray.empty), 1, 16) := by kernel_rfl
set_option maxHeartbeats 1000000 in
theorem split_is (s : ByteArray) (w : World) (hs : s.size ≤ 1048576) :
    Calls Tryd.prog 87 #[.string s, .string ⟨#[32]⟩] w fun e w' => (∃ v, e = .returned v ∧ w'.ownsRow w.heap.size 9 1 v (pcs s).length ((pcs s).map Value.string)) ∧ Below w.heap.size w w' := by
  have L := splitS
  have hle := countB_le ⟨#[32]⟩ (by decide) s.size s (Nat.le_refl _)
  have hlen := pcs_len s
  have hI : ∀ (x : ByteArray) (c : Array Value), x.size ≤ s.size → Calls Tryd.prog 156 #[.string x, .string ⟨#[32]⟩] (w.alloc (.cells c 9)) fun e w' => e = .returned (.int .i64 (indexB x ⟨#[32]⟩)) ∧ w' = w.alloc (.cells c 9) := fun x c _ => by
    refine Calls.mono (Any.strings_Index_one (P := Tryd.prog) (ρ := splitS_ren) { L with } x 32 _) ?_
    rintro e w' ⟨rfl, rfl⟩
    refine ⟨?_, rfl⟩
    show _ = Ending.returned (Value.int .i64 (index x.data.toList [32]))
    rw [index_one]
  have hC : Calls Tryd.prog 155 #[.string s, .string ⟨#[32]⟩] w fun e w' => e = .returned (.int .i64 (countB s ⟨#[32]⟩)) ∧ w' = w := by
    refine Calls.mono (Any.strings_Count_one (P := Tryd.prog) (ρ := splitS_ren) { L with } s 32 w) ?_
    rintro e w' ⟨rfl, rfl⟩
    refine ⟨?_, rfl⟩
    show _ = Ending.returned (Value.int .i64 ((Lib.count s.data.toList [32] : Nat) : Int))
    rw [count_one]
    rfl
  have c := Any.strings_genSplit_core (P := Tryd.prog) (ρ := splitS_ren) { L with } info_strS s ⟨#[32]⟩ 0 (-1) (countB s ⟨#[32]⟩ + 1) w (by omega) (by decide) (Nat.zero_le _) hI hC (by decide) (by decide) (by rw [if_pos (by decide)]; omega)
  rw [Nat.add_sub_cancel] at c
  change Calls Tryd.prog 125 _ _ _ at c
  have e1 : splitB ⟨#[32]⟩ 0 (countB s ⟨#[32]⟩) s = pcs s := rfl
  rw [e1, hlen] at c
  have e2 : cellsOf (pcs s) (countB s ⟨#[32]⟩ + 1) = ((pcs s).map Value.string).toArray := by rw [← hlen]; exact cellsOf_full _
  rw [e2] at c
  have hq : (w.alloc (.cells ((pcs s).map Value.string).toArray 9)).ownsRow w.heap.size 9 1 (.slice (some ⟨w.heap.size, 0, none⟩) (countB s ⟨#[32]⟩ + 1) (countB s ⟨#[32]⟩ + 1)) (pcs s).length ((pcs s).map Value.string) := by
    have h9 := World.ownsRow_lit (e := 9) (size := 1) w ((pcs s).map Value.string).toArray (countB s ⟨#[32]⟩ + 1) (Nat.le_refl _) (by unfold maxLen; omega) (by simp [hlen])
    rw [hlen]
    simpa using h9
  have hb : Below w.heap.size w (w.alloc (.cells ((pcs s).map Value.string).toArray 9)) := by go_grown
  clear hI hC e1 e2
  generalize ((pcs s).map Value.string).toArray = cs at *
  generalize countB s ⟨#[32]⟩ + 1 = nn at *
  have HQ : Hid ((w.alloc (.cells cs 9)).ownsRow w.heap.size 9 1 (.slice (some ⟨w.heap.size, 0, none⟩) nn nn) (pcs s).length ((pcs s).map Value.string)) := hq
  clear hq
  go_enter Tryd.func87, Tryd.ntmps87
  go_wp2_with fail
  refine c.mono ?_
  rintro e w' ⟨rfl, rfl⟩
  go_wp2
  go_ret
  exact ⟨⟨_, rfl, HQ.out⟩, hb⟩

/-- In front of the first piece. -/
def headL (q : List UInt8) : List (List UInt8) → List (List UInt8)
  | [] => [q]
  | p :: ps => (q ++ p) :: ps
/-- How far l00Cut is: its pieces, and where the last one begins. -/
def CutAt (s : ByteArray) (i f : Nat) (ps : List ByteArray) : Prop := f ≤ i ∧ i ≤ s.size ∧ splitL s.data.toList = ps.map (·.data.toList) ++ headL ((s.extract f i).data.toList) (splitL (s.data.toList.drop i))
theorem ext_data (s : ByteArray) (f i : Nat) : (s.extract f i).data.toList = (s.data.toList.drop f).take (i - f) := by
  rw [ByteArray.data_extract]
  simp [List.take_drop]
  try rw [show f + (i - f) = max f i by omega]
theorem CutAt.start (s : ByteArray) : CutAt s 0 0 [] := by
  refine ⟨Nat.le_refl _, Nat.zero_le _, ?_⟩
  rw [ext_data]
  simp
  cases h : splitL s.data.toList with
  | nil => exact absurd h (splitL_ne _)
  | cons p ps => simp [headL]
theorem drop_at (s : ByteArray) {i : Nat} (hi : i < s.size) : s.data.toList.drop i = s.data[i] :: s.data.toList.drop (i + 1) := by
  have h : i < s.data.toList.length := by simpa using hi
  rw [List.drop_eq_getElem_cons h]
  simp
theorem ext_snoc (s : ByteArray) {f i : Nat} (hf : f ≤ i) (hi : i < s.size) : (s.extract f (i + 1)).data.toList = (s.extract f i).data.toList ++ [s.data[i]] := by
  rw [ext_data, ext_data, show i + 1 - f = (i - f) + 1 by omega, List.take_add_one]
  congr 1
  rw [List.getElem?_drop, show f + (i - f) = i by omega]
  have h : i < s.data.toList.length := by simpa using hi
  rw [List.getElem?_eq_getElem h]
  simp
theorem CutAt.blank {s : ByteArray} {i f : Nat} {ps : List ByteArray} (h : CutAt s i f ps) (hi : i < s.size) (hb : s.data[i] = 32) : CutAt s (i + 1) (i + 1) (ps ++ [s.extract f i]) := by
  obtain ⟨h1, h2, h3⟩ := h
  refine ⟨Nat.le_refl _, by omega, ?_⟩
  rw [h3, drop_at s hi, hb]
  have e : splitL (32 :: s.data.toList.drop (i + 1)) = [] :: splitL (s.data.toList.drop (i + 1)) := by rw [splitL, if_pos rfl]
  rw [e, ext_data s (i + 1) (i + 1)]
  simp only [headL, List.append_nil, Nat.sub_self, List.take_zero, List.map_append, List.map_cons, List.map_nil, List.append_assoc]
  cases hq : splitL (s.data.toList.drop (i + 1)) with
  | nil => exact absurd hq (splitL_ne _)
  | cons p qs => simp [headL]
theorem CutAt.other {s : ByteArray} {i f : Nat} {ps : List ByteArray} (h : CutAt s i f ps) (hi : i < s.size) (hb : s.data[i] ≠ 32) : CutAt s (i + 1) f ps := by
  obtain ⟨h1, h2, h3⟩ := h
  refine ⟨by omega, by omega, ?_⟩
  rw [h3, drop_at s hi, ext_snoc s h1 hi]
  rw [splitL, if_neg hb]
  cases hq : splitL (s.data.toList.drop (i + 1)) with
  | nil => exact absurd hq (splitL_ne _)
  | cons p qs => simp [headL]
theorem CutAt.done {s : ByteArray} {f : Nat} {ps : List ByteArray} (h : CutAt s s.size f ps) : ps ++ [s.extract f s.size] = pcs s := by
  obtain ⟨h1, h2, h3⟩ := h
  apply data_inj
  rw [pcs_data, h3]
  have hd : s.data.toList.drop s.size = [] := List.drop_of_length_le (by rw [Array.length_toList]; exact Nat.le_refl _)
  rw [hd]
  simp [splitL, headL]
theorem one_stB (t : ByteArray) : ∀ u ∈ [Value.string t], u.oneCell' = true := by intro u hu; simp at hu; subst hu; rfl
theorem one_cell_stB (w : World) (x : Value) (t : TypeId) : ∀ j u, [x][j]? = some u → (w.alloc (.cells #[x] t)).cell? ((⟨w.heap.size, 0, none⟩ : Addr).add j) = some u := by
  intro j u hj
  match j, hj with
  | 0, hj => simp at hj; subst hj; simp [Addr.add]
  | (j + 1), hj => simp at hj

set_option maxHeartbeats 4000000 in
set_option maxRecDepth 100000 in
theorem l00Cut_is (s : ByteArray) (w : World) (hs : s.size ≤ 1048576) :
    Calls Tryd.prog 139 #[.string s, .int .u8 32] w fun e w' => (∃ v, e = .returned v ∧ w'.ownsRow w.heap.size 9 1 v (pcs s).length ((pcs s).map Value.string)) ∧ Below w.heap.size w w' := by
  obtain ⟨i0, hi, hz0, hz1, hz2⟩ := info_parts info_strS
  have h0 : (w.alloc (.cells #[] 9)).ownsRow w.heap.size 9 1 (.slice (some ⟨w.heap.size, 0, none⟩) 0 0) 0 [] := World.ownsRow_lit w #[] 0 (Nat.le_refl _) (by unfold maxLen; omega) rfl
  go_enter Tryd.func139, Tryd.ntmps139
  go_wp2
  go_loopw [5, 6, 7] (fun so sa si wr => ∃ (i a : Nat) (ps : List ByteArray), i ≤ s.size ∧ ps.length ≤ i ∧ a ≤ i ∧ si = .int .i64 i ∧ sa = .int .i64 a ∧ Hid (CutAt s i a ps) ∧ wr.ownsRow w.heap.size 9 1 so ps.length (ps.map Value.string) ∧ Below w.heap.size w wr) (fun _ _ si _ => s.size - (RowKit.intOf si).toNat)
  case atStart => exact ⟨0, 0, [], by omega, by simp, by omega, rfl, rfl, CutAt.start s, by simpa using h0, by go_grown⟩
  case round =>
    clear h0
    obtain ⟨i, a, ps, hil, hal, hai, rfl, rfl, hW, hr, hbel⟩ := hrel
    have hbs := hbel.size
    by_cases hlt : i < s.size
    · have hlt2 : (i : Int) < (s.size : Int) := by omega
      have hai2 : (a : Int) ≤ (i : Int) := by omega
      by_cases hb : s.data[i] = 32
      · have hb2 : ((s[i]'hlt).toNat : Int) = 32 := by
          show ((s.data[i]).toNat : Int) = 32
          rw [hb]
          rfl
        have HW2 : Hid (CutAt s (i + 1) (i + 1) (ps ++ [s.extract a i])) := hW.out.blank hlt hb
        have HL : Hid ((ps ++ [s.extract a i]).length ≤ i + 1) := by rw [Hid]; simp; omega
        clear hb hW
        generalize hpl : ps.length = pl at *
        go_wp2_with (at_builtin; refine wpList_append_own _ rfl _ _ 117 rfl w.heap.size 9 i0 (.string ByteArray.empty) 1 16 Tryd.underlying117 hi hz0 hz1 hz2 rfl (by decide) _ _ _ rfl (hr.alloc _) ⟨wr.heap.size, 0, none⟩ 1 1 [.string (s.extract a i)] rfl rfl (one_cell_stB _ _ _) (one_stB _) ?c3 ?c4 ?c5 ?_)
        case c3 => unfold maxLen; omega
        case c4 => omega
        case c5 => simp; omega
        intro v2 w2 hown2 hgrow2 _
        have hb3 : Below w.heap.size w w2 := (hbel.alloc hbs _).grown hgrow2 (by simp; omega) (fun j hj => (hr.lt _ hj).1)
        have hr2 : w2.ownsRow w.heap.size 9 1 v2 (ps ++ [s.extract a i]).length ((ps ++ [s.extract a i]).map Value.string) := by
          rw [List.length_append, hpl]
          simpa using hown2
        clear hown2 hgrow2 hr hbel
        generalize ps ++ [s.extract a i] = ps2 at *
        go_wp2
        go_roundw
        case rel => exact ⟨i + 1, i + 1, ps2, by omega, HL.out, by omega, by go_num, by go_num, HW2, hr2, hb3⟩
        case measure => simp [RowKit.intOf]; omega
      · have HW2 : Hid (CutAt s (i + 1) a ps) := hW.out.other hlt hb
        have hb2 : (((s[i]'hlt).toNat : Int) == 32) = false := by
          show (((s.data[i]).toNat : Int) == 32) = false
          refine beq_eq_false_iff_ne.2 fun e => hb ?_
          have h9 : (s.data[i]).toNat = 32 := by omega
          exact UInt8.toNat_inj.1 (by rw [h9]; rfl)
        clear hb hW
        go_wp2
        go_roundw
        case rel => exact ⟨i + 1, a, ps, by omega, by omega, by omega, by go_num, rfl, HW2, hr, hbel⟩
        case measure => simp [RowKit.intOf]; omega
    · obtain rfl : i = s.size := by omega
      have HD : Hid (ps ++ [s.extract a s.size] = pcs s) := hW.out.done
      have hai2 : (a : Int) ≤ (s.size : Int) := by omega
      clear hW
      generalize hpl : ps.length = pl at *
      go_wp2_with (at_builtin; refine wpList_append_own _ rfl _ _ 117 rfl w.heap.size 9 i0 (.string ByteArray.empty) 1 16 Tryd.underlying117 hi hz0 hz1 hz2 rfl (by decide) _ _ _ rfl (hr.alloc _) ⟨wr.heap.size, 0, none⟩ 1 1 [.string (s.extract a s.size)] rfl rfl (one_cell_stB _ _ _) (one_stB _) ?c3 ?c4 ?c5 ?_)
      case c3 => unfold maxLen; omega
      case c4 => omega
      case c5 => simp; omega
      intro v2 w2 hown2 hgrow2 _
      have hb3 : Below w.heap.size w w2 := (hbel.alloc hbs _).grown hgrow2 (by simp; omega) (fun j hj => (hr.lt _ hj).1)
      have HQ : Hid (w2.ownsRow w.heap.size 9 1 v2 (pcs s).length ((pcs s).map Value.string)) := by
        rw [Hid, ← HD.out, List.length_append, hpl]
        simpa using hown2
      clear hown2 hgrow2 hr hbel HD
      go_wp2
      go_ret
      exact ⟨⟨_, rfl, HQ.out⟩, hb3⟩
end Go.Proofs.YtkmnnmgopnoffaaDoor


/-
  CodeOf, the program's and the specification's: the first code whose word is the text, -1 of any other text.
-/
namespace Go.Proofs.YtkmnnmgopnoffaaDoor
open Go.RowKit

/-- The word of code k is the text s. -/
def isWord (k : Nat) (s : ByteArray) : Prop := (wordB k).toList = s.toList
/-- c is the code of the text s, or -1 where no word is s. -/
def IsCode (s : ByteArray) (c : Int) : Prop := (∃ k : Nat, k < 20 ∧ c = k ∧ isWord k s ∧ ∀ j, j < k → ¬ isWord j s) ∨ (c = -1 ∧ ∀ j, j < 20 → ¬ isWord j s)
theorem IsCode.same {s : ByteArray} {c d : Int} (h : IsCode s c) (k : IsCode s d) : c = d := by
  rcases h with ⟨a, ha, rfl, ha1, ha2⟩ | ⟨rfl, ha⟩ <;> rcases k with ⟨b, hb, rfl, hb1, hb2⟩ | ⟨rfl, hb⟩
  · rcases Nat.lt_trichotomy a b with h | h | h
    · exact absurd ha1 (hb2 a h)
    · rw [h]
    · exact absurd hb1 (ha2 b h)
  · exact absurd ha1 (hb a ha)
  · exact absurd hb1 (ha b hb)
  · rfl
/-- No word ahead of code k is s. -/
def noneTo (s : ByteArray) (k : Nat) : Prop := ∀ j, j < k → ¬ isWord j s
theorem noneTo_succ {s : ByteArray} {k : Nat} (h : noneTo s k) (hk : ¬ isWord k s) : noneTo s (k + 1) := by
  intro j hj
  rcases Nat.lt_or_ge j k with h' | h'
  · exact h j h'
  · obtain rfl : j = k := by omega
    exact hk

set_option maxHeartbeats 1000000 in
theorem specCodeOf_any (s : ByteArray) (w : World) :
    Calls Tryd.prog 141 #[.string s] w fun e w' => (∃ c, e = .returned (.int .i64 c) ∧ IsCode s c) ∧ Below w.heap.size w w' := by
  go_enter Tryd.func141, Tryd.ntmps141
  go_wp2
  go_loopw [3] (fun i wr => ∃ k : Nat, k ≤ 20 ∧ i = .int .i64 k ∧ noneTo s k ∧ Below w.heap.size w wr) (fun i _ => 20 - (intOf i).toNat)
  case atStart => exact ⟨0, by omega, rfl, fun j hj => by omega, Below.refl _ _⟩
  case round =>
    obtain ⟨k, hk, rfl, hno, hbel⟩ := hrel
    by_cases hlt : k < 20
    · by_cases he : isWord k s
      · have hs : ((wordB k).toList == s.toList) = true := beq_iff_eq.2 he
        go_wp2_with (go_at_call 137; refine (specCodeWord_yes k hlt _).mono ?_; rintro e w1 ⟨rfl, hb1⟩)
        go_ret
        exact ⟨⟨_, rfl, .inl ⟨k, hlt, rfl, he, hno⟩⟩, hbel.trans (hb1.mono hbel.size)⟩
      · have hs : ((wordB k).toList == s.toList) = false := beq_eq_false_iff_ne.2 he
        go_wp2_with (go_at_call 137; refine (specCodeWord_yes k hlt _).mono ?_; rintro e w1 ⟨rfl, hb1⟩)
        go_roundw
        case rel => exact ⟨k + 1, by omega, by go_num, noneTo_succ hno he, hbel.trans (hb1.mono hbel.size)⟩
        case measure => simp [intOf]; omega
    · obtain rfl : k = 20 := by omega
      go_wp2
      go_ret
      exact ⟨⟨_, rfl, .inr ⟨rfl, hno⟩⟩, hbel⟩

theorem tab_index (k : Nat) (hk : k < 20) (w : World) : (Instr.index 184 (.agg wordCells.toArray) (.int .i64 k)).run Tryd.prog w = .ok (.string (wordB k)) w :=
  match k, hk with
  | 0, _ => by kernel_rfl
  | 1, _ => by kernel_rfl
  | 2, _ => by kernel_rfl
  | 3, _ => by kernel_rfl
  | 4, _ => by kernel_rfl
  | 5, _ => by kernel_rfl
  | 6, _ => by kernel_rfl
  | 7, _ => by kernel_rfl
  | 8, _ => by kernel_rfl
  | 9, _ => by kernel_rfl
  | 10, _ => by kernel_rfl
  | 11, _ => by kernel_rfl
  | 12, _ => by kernel_rfl
  | 13, _ => by kernel_rfl
  | 14, _ => by kernel_rfl
  | 15, _ => by kernel_rfl
  | 16, _ => by kernel_rfl
  | 17, _ => by kernel_rfl
  | 18, _ => by kernel_rfl
  | 19, _ => by kernel_rfl
  | k + 20, hk => absurd hk (by omega)

set_option maxHeartbeats 1000000 in
theorem implCodeOf_any (s : ByteArray) (w : World) (hT : Table w) :
    Calls Tryd.prog 123 #[.string s] w fun e w' => (∃ c, e = .returned (.int .i64 c) ∧ IsCode s c) ∧ w = w' := by
  obtain ⟨tt, fr, hg⟩ := hT
  have hsz : (Tryd.prog.info? 184).map (·.size) = some wordCells.toArray.size := by kernel_rfl
  have hix := fun k hk W => tab_index k hk W
  generalize wordCells.toArray = tb at hg hsz hix
  go_enter Tryd.func123, Tryd.ntmps123
  go_wp2_with (refine wpList_load_row rfl 184 _ rfl 1 rfl tt _ fr _ hg Tryd.underlying184 rfl hsz ?_)
  clear hg hsz
  go_loop [6] (fun i => ∃ k : Nat, k ≤ 20 ∧ i = .int .i64 k ∧ noneTo s k) (fun i => 20 - (intOf i).toNat)
  case atStart => exact ⟨0, by omega, rfl, fun j hj => by omega⟩
  case round =>
    obtain ⟨k, hk, rfl, hno⟩ := hrel
    by_cases hlt : k < 20
    · have hi := fun W => hix k hlt W
      clear hix
      by_cases he : isWord k s
      · have hs : ((wordB k).toList == s.toList) = true := beq_iff_eq.2 he
        go_wp2
        go_ret
        exact ⟨⟨_, rfl, .inl ⟨k, hlt, rfl, he, hno⟩⟩, rfl⟩
      · have hs : ((wordB k).toList == s.toList) = false := beq_eq_false_iff_ne.2 he
        go_wp2
        go_round
        case rel => exact ⟨k + 1, by omega, by go_num, noneTo_succ hno he⟩
        case measure => simp [intOf]; omega
    · obtain rfl : k = 20 := by omega
      go_wp2
      go_ret
      exact ⟨⟨_, rfl, .inr ⟨rfl, hno⟩⟩, rfl⟩

end Go.Proofs.YtkmnnmgopnoffaaDoor
