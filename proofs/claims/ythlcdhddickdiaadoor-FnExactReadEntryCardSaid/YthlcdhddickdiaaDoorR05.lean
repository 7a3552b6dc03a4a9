/-
  Joined: MarkP, Prog4, MarkH.
-/
import Derived.Test.YthlcdhddickdiaaDoorR04

namespace Go.Proofs.YthlcdhddickdiaaDoor
set_option maxRecDepth 100000
set_option maxHeartbeats 16000000
open Go.RowKit

theorem owns_ne {w:World} {B B' e e' s s' n n':Nat} {v v':Value} {xs xs':List Value} (h:w.ownsRow B e s v n xs) (h':w.ownsRow B' e' s' v' n' xs') (he:e≠e'):v.ownBlock=none∨v.ownBlock≠v'.ownBlock:=by
 rcases h.2 with ⟨rfl,_⟩ | ⟨g,cap,cur,rfl,_,hg,_⟩
 ·exact .inl rfl
 ·rcases h'.2 with ⟨rfl,_⟩ | ⟨g',cap',cur',rfl,_,hg',_⟩
  ·exact .inr (by simp [Value.ownBlock])
  ·refine .inr ?_
   simp only [Value.ownBlock,ne_eq,Option.some.injEq]
   rintro rfl
   rw [hg] at hg'
   simp at hg'
   exact he hg'.2

def mkI:Int→List I3→Nat→List I3
 | _,xs,0=>xs
 | _,[],_+1=>[]
 | k,_::xs,j+1=>(k,k+1,k+2)::mkI (k+3) xs j
theorem mkI_len:∀ (k:Int) (xs:List I3) (j:Nat),(mkI k xs j).length=xs.length
 | _,xs,0=>by simp [mkI]
 | _,[],_+1=>by simp [mkI]
 | k,_::xs,j+1=>by simp [mkI,mkI_len]
theorem mkI_set:∀ (k:Int) (xs:List I3) (j:Nat),j<xs.length →
  (((flat (mkI k xs j)).set (j*3) (.int .i64 (k+j*3))).set (j*3+1) (.int .i64 (k+j*3+1))).set (j*3+2) (.int .i64 (k+j*3+2))=flat (mkI k xs (j+1))
 | _,[],j,h=>by simp at h
 | k,x::xs,0,_=>by simp [mkI,flat,I3.cells]
 | k,x::xs,j+1,h=>by
  have ih:=mkI_set (k+3) xs j (by simpa using h)
  have e1:k+((j+1:Nat):Int)*3=k+3+(j:Int)*3:=by omega
  rw [e1]
  have e2:(j+1)*3=j*3+1+1+1:=by omega
  simp only [mkI,flat,List.flatMap_cons,I3.cells,List.cons_append,List.nil_append] at ih ⊢
  rw [e2]
  simp only [List.set_cons_succ]
  rw [ih]
theorem mkI_get:∀ (k:Int) (xs:List I3) (j i:Nat),i<j→j≤xs.length→(mkI k xs j).getD i (0,0,0)=(k+i*3,k+i*3+1,k+i*3+2)
 | _,xs,0,i,h,_=>by omega
 | _,[],j+1,i,_,h=>by simp at h
 | k,x::xs,j+1,0,_,_=>by simp [mkI]
 | k,x::xs,j+1,i+1,h,hl=>by
  have ih:=mkI_get (k+3) xs j i (by omega) (by simpa using hl)
  have e:k+((i+1:Nat):Int)*3=k+3+(i:Int)*3:=by omega
  rw [e,← ih]
  simp [mkI]

theorem grownBy_set (w:World) (g j:Nat) (u:Value):w.grownBy (w.setCell ⟨g,j,none⟩ u) (some g):=
 ⟨rfl,rfl,rfl,by simp [World.setCell],fun k _ hk=>Below.heap_setCell _ _ _ _ (fun e=>hk (by rw [e]))⟩
theorem grownBy_tr {a b c:World} {row:Option Nat} (h:a.grownBy b row) (k:b.grownBy c row):a.grownBy c row:=
 ⟨k.os.trans h.os,k.tape.trans h.tape,k.output.trans h.output,Nat.le_trans h.size k.size,fun i hi hne=>(k.block i (by have:=h.size;omega) hne).trans (h.block i hi hne)⟩

def KeptBut (t:TypeId) (w w':World):Prop:=∀ (j:Nat) (cur:Array Value) (e:TypeId) (fz:Nat × Nat),w.heap[j]?=some (Obj.cells cur e fz)→e≠t→w'.heap[j]?=some (Obj.cells cur e fz)
theorem KeptBut.refl (t:TypeId) (w:World):KeptBut t w w:=fun _ _ _ _ h _=>h
theorem KeptBut.trans {t:TypeId} {a b c:World} (h:KeptBut t a b) (k:KeptBut t b c):KeptBut t a c:=fun j cur e fz h0 he=>k j cur e fz (h j cur e fz h0 he) he


theorem cells_kept {w w':World} (h:Below w.heap.size w w'):∀ (p:Addr) (v:Value),w.cell? p=some v→w'.cell? p=some v:=by
 intro p v hv
 have hlt:p.block<w.heap.size:=by
  rcases Nat.lt_or_ge p.block w.heap.size with h' | h'
  ·exact h'
  ·simp [World.cell?,Array.getElem?_eq_none h'] at hv
 rw [h.cell hlt]
 exact hv


theorem flat_at {xs:List I3} {t:Nat} (ht:t<xs.length):(flat xs)[t*3]?=some (.int .i64 (xs.getD t (0,0,0)).1)∧(flat xs)[t*3+1]?=some (.int .i64 (xs.getD t (0,0,0)).2.1)∧(flat xs)[t*3+2]?=some (.int .i64 (xs.getD t (0,0,0)).2.2):=by
 have hsplit:flat xs=flat (xs.take t)++((xs.getD t (0,0,0)).cells++flat (xs.drop (t+1))):=by
  rw [← List.append_assoc,← flat_take_succ ht]
  unfold flat
  rw [← List.flatMap_append,List.take_append_drop]
 have hlt:(flat (xs.take t)).length=t*3:=by rw [flat_length,List.length_take];rw [Nat.min_eq_left (by omega)]
 have h:∀ j,j<3→(flat xs)[t*3+j]?=((xs.getD t (0,0,0)).cells)[j]?:=fun j hj=>by
  rw [hsplit,List.getElem?_append_right (by omega),hlt,Nat.add_sub_cancel_left,List.getElem?_append_left (by simp [I3.cells];omega)]
 exact ⟨by simpa [I3.cells] using h 0 (by omega),by simpa [I3.cells] using h 1 (by omega),by simpa [I3.cells] using h 2 (by omega)⟩

end Go.Proofs.YthlcdhddickdiaaDoor
