/-
  Right programs whose packed texts are one are one.
-/
import Derived.Test.YtiokkoaalakakaaPackWalk
import Derived.Test.YtiokkoaalakakaaNumbersPlain
namespace Go.Proofs.Ytiokkoaalakakaa

theorem rowNums_inj : ∀ {xs ys : List I3}, rowNums xs = rowNums ys → xs = ys
  | [], [], _ => rfl
  | [], y :: ys, h => by simp [rowNums] at h
  | x :: xs, [], h => by simp [rowNums] at h
  | x :: xs, y :: ys, h => by
    simp only [rowNums, List.flatMap_cons, List.cons_append, List.nil_append, List.cons.injEq] at h
    obtain ⟨h0, h1, h2, h3⟩ := h
    obtain ⟨a, b, c⟩ := x
    obtain ⟨d, e, f⟩ := y
    simp only [] at h0 h1 h2
    rw [h0, h1, h2, rowNums_inj (show rowNums xs = rowNums ys from h3)]
theorem progNums_inj : ∀ {ra rb : List (List I3)}, ra.length = rb.length → progNums ra = progNums rb → ra = rb
  | [], [], _, _ => rfl
  | [], y :: ys, h, _ => by simp at h
  | x :: xs, [], h, _ => by simp at h
  | x :: xs, y :: ys, hl, h => by
    simp only [progNums, List.flatMap_cons, List.cons_append, List.cons.injEq] at h
    obtain ⟨h0, h1⟩ := h
    have hlen : x.length = y.length := by omega
    obtain ⟨h2, h3⟩ := List.append_inj h1 (by rw [rowNums_length, rowNums_length, hlen])
    rw [rowNums_inj h2, progNums_inj (by simpa using hl) (show progNums xs = progNums ys from h3)]
theorem pack_inj {ra rb : List (List I3)} (ha : progOk ra = true) (hb : progOk rb = true) (h : strOfNums (packL (progNums ra)) = strOfNums (packL (progNums rb))) : ra = rb := by
  obtain ⟨la, hra⟩ := progOk_parts ha
  obtain ⟨lb, hrb⟩ := progOk_parts hb
  obtain ⟨na, ea, ma⟩ := nats_of (progNums_ok ha)
  obtain ⟨nb, eb, mb⟩ := nats_of (progNums_ok hb)
  have pa := progNums_len (rows := ra) (fun r hr => (hra r hr).1)
  have pb := progNums_len (rows := rb) (fun r hr => (hrb r hr).1)
  have la' : na.length = (progNums ra).length := by rw [ea]; simp
  have lb' : nb.length = (progNums rb).length := by rw [eb]; simp
  have La := listed_pack ma (by omega)
  have Lb := listed_pack mb (by omega)
  rw [← packL_nats, ← ea] at La
  rw [← packL_nats, ← eb, ← h] at Lb
  have hn := La.only Lb
  exact progNums_inj (by omega) (by rw [ea, eb, hn])
end Go.Proofs.Ytiokkoaalakakaa
