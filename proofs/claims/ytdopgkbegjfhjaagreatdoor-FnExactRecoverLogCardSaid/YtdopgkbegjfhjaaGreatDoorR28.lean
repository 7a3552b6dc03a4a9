/-
  Joined: RdsI#1.
-/
import Derived.Laws.AppendOwnNone
import Derived.Deep.Cut
import Derived.Test.YtdopgkbegjfhjaaGreatDoorR22

namespace Go.Proofs.YtdopgkbegjfhjaaGreatDoor
set_option maxRecDepth 100000
set_option maxHeartbeats 16000000
open Go.RowKit
set_option linter.unusedVariables false
set_option linter.unusedSimpArgs false

def RdGB (t:ByteArray) (x:Ending) (w':World) (B:Nat):Prop:=(∃ (e:E3) (s:Sl2),RdOk t e∧x=.returned (.tuple #[entV e.1 s,.bool true])∧OwnE w' B (.slice s.1.1 s.1.2.1 s.1.2.2) (.slice s.2.1 s.2.2.1 s.2.2.2) e)∨((∀ e,¬ RdOk t e)∧x=(.returned (.tuple #[.agg #[.string ⟨#[]⟩,.slice none 0 0,.slice none 0 0],.bool false])))
def CutR (w2:World) (kk:ByteArray) (fz:List Int) (s7:Value) (W:World):Prop:=∃ (X gb:Nat) (fa:Option Addr) (fc:Nat),s7=.pointer (some ⟨X,0,none⟩)∧w2.heap.size≤X∧Blk W X 74 [.string kk,.slice (some ⟨gb,0,none⟩) 0 0,.slice fa fz.length fc]∧W.ownsRow w2.heap.size 112 3 (.slice (some ⟨gb,0,none⟩) 0 0) 0 []∧W.ownsRow w2.heap.size 3 1 (.slice fa fz.length fc) fz.length (fz.map (Value.int .i64))∧Below w2.heap.size w2 W
theorem CutR.mk9 {w2 W:World} {kk:ByteArray} {fz:List Int} {s7:Value} (X gb:Nat) (fa:Option Addr) (fc:Nat) (h0:s7=.pointer (some ⟨X,0,none⟩)) (h1:w2.heap.size≤X) (h2:Blk W X 74 [.string kk,.slice (some ⟨gb,0,none⟩) 0 0,.slice fa fz.length fc]) (h3:W.ownsRow w2.heap.size 112 3 (.slice (some ⟨gb,0,none⟩) 0 0) 0 []) (h4:W.ownsRow w2.heap.size 3 1 (.slice fa fz.length fc) fz.length (fz.map (Value.int .i64))) (h5:Below w2.heap.size w2 W):CutR w2 kk fz s7 W:=⟨X,gb,fa,fc,h0,h1,h2,h3,h4,h5⟩
theorem step_store_boxR {P:Program} {ops:Array Oper} {o:Oper} {a:Act} {w:World} {K:Act→World→Prop} {Q:Exit→Act→World→Prop} {E:Prop} (hgd:o.guard=none) (ty:TypeId) (x y:Operand) (ho:o.op=.store ty x y) (g:Nat) (vs:List Value) (hx:a.eval x=.pointer (some ⟨g,0,none⟩)) (hy:a.eval y=.agg vs.toArray) {t:Nat} {cs:List Value} (hB:Blk w g t cs)
  (hi:(P.info? ty).map (·.size)=some vs.length) (hl:cs.length=vs.length) (h1:vs.all (·.oneCell')=true)
  (h:∀ w',Hid (Blk w' g t vs)→w.grownBy w' (some g)→K (a.put o.dst undef) w'):if Region.wanted o (yielded ops a.tmps)=true then Oper.wp P o a w K Q else E:=by
 have hw:Region.wanted o (yielded ops a.tmps)=true:=by simp [Region.wanted,hgd]
 rw [if_pos hw]
 exact wp_store_row ty x y ho g vs.toArray hx hy t cs.toArray hB (by simpa using hi) (by simpa using hl) (by simpa using h1) (h _ (blk_setRow vs hB) (grown_setRow _ _ _))
theorem setP9 {w:World} {B e s n X j t:Nat} {v:Value} {xs cs:List Value} (h:w.ownsRow B e s v n xs) (hX:Blk w X t cs) (he:e≠t) (u:Value):(w.setCell ⟨X,j,none⟩ u).ownsRow B e s v n xs:=h.kept (grownBy_set w X j u) (.inr (own_ne_blk9' h hX he))
theorem bel_R {B:Nat} {a b c:World} (h:Below B a b) (k:Below B b c):Below B a c:=⟨k.os.trans h.os,k.tape.trans h.tape,k.output.trans h.output,Nat.le_trans h.size k.size,fun j hj=>(k.block j hj).trans (h.block j hj)⟩
theorem getD_cut1 {l:List Int} {k j:Nat} (h:j<k):((l.drop 1).take k).getD j 0=l.getD (j+1) 0:=by rw [List.getD,List.getElem?_take_of_lt h,List.getElem?_drop,Nat.add_comm 1 j,List.getD]
theorem getD_8 {α:Type} {zs:List α} {t:Nat} {d:α} (h:t<zs.length):zs.getD t d=zs[t]:=by rw [List.getD,List.getElem?_eq_getElem h];rfl

end Go.Proofs.YtdopgkbegjfhjaaGreatDoor
