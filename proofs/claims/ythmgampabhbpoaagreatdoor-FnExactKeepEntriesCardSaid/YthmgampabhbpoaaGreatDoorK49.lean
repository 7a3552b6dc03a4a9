/-
  Joined: KpeE, Vars.
-/
import Derived.WalkSmall
import Derived.ChangeOld
import Derived.Test.YthmgampabhbpoaaGreatDoorK23
import Derived.Test.YthmgampabhbpoaaGreatDoorK47
import Derived.Test.YthmgampabhbpoaaGreatDoorK48

namespace Go.Proofs.YthmgampabhbpoaaGreatDoor
set_option maxRecDepth 100000
set_option maxHeartbeats 16000000
open Go.RowKit

theorem fnExactKeepEntries_walk (a0:Option Addr) (n0 c0:Nat) (z0:List E3) (a1:Option Addr) (n1 c1:Nat) (z1:List Int) (w:World) (h0:Ents w a0 n0 c0 z0) (r1:IsRow .i64 w a1 n1 c1 z1) (hG:VmShape w) :
  Calls Tryz.prog 5 #[.agg #[.slice a0 n0 c0],.slice a1 n1 c1] w fun e w'=>e=.returned (.bool true)∧Below w.heap.size w w':=
 by
 have hk:memOk (kpeM z0 (z1.take n1))=true:=by
  unfold kpeM
  split
  ·rename_i h;exact keepE_ok h.2.1 _
  ·exact memOk_nil
 have hf:∀ e ∈ kpeM z0 (z1.take n1),e.fits:=by
  unfold kpeM
  split
  ·intro e he;exact h0.fits e (List.mem_filter.1 he).1
  ·intro e he;simp at he
 exact fnExactKeepEntries_of a0 n0 c0 z0 a1 n1 c1 (z1.take n1) (kpeM z0 (z1.take n1)) hf (memOk_cnt hk).1 (memOk_cnt hk).2 (kpeC z0 (z1.take n1)) w h0 (Ints.of_isRow r1) hG
  (fun hn a n c a' c' w hE hI=>specKeepEntries_is a n c z0 a' n1 c' (z1.take n1) w hE hI hn (isRow_wfs r1))
  (fun hn a n c a' c' w hE hI hV=>implKeepEntries_is a n c z0 a' n1 c' (z1.take n1) w hE hI hn (isRow_wfs r1) hV)

theorem fnExactKeepEntries_laid {W:World} (h:laidMetH Tryz.prog Rows.fnExactKeepEntriesRow.laid W):VmShape W:=vmShape_of_laid rfl h
theorem fnExactKeepEntries_door_met (os:Os) (args:Array Value):laidMetH Tryz.prog Rows.fnExactKeepEntriesRow.laid ((World.doorLaid Tryz.prog 400 os).forCall (fun _ _=>0) ⟨#[],args,[]⟩).memory:=
 laidMetH_of_parts3 (fuel:=8) (laidMet_of_run' 8 (by kernel_rfl) (by kernel_rfl)) (by kernel_rfl) (by kernel_rfl)


def varsFit (P:Program) (ns:List String):Bool:=ns.all fun n =>
 match P.globalNamed n with
 | some g=>match (P.globals[g]?).map (·.type) with
  | some t=>P.readableRec t && decide (t<P.types.size)
  | none=>false
 | none=>false

theorem var?_lt {P:Program} {W:World} {n:String} {g:Nat} {cs:Array Value} (hg:P.globalNamed n=some g) (hv:W.var? P n=some cs):g<W.heap.size:=by
 rcases Nat.lt_or_ge g W.heap.size with h | h
 ·exact h
 ·unfold World.var? at hv
  simp [hg,Array.getElem?_eq_none h] at hv

theorem vars_below {H:Type} {enc:TypeId × Value→H} {P:Program} {W W':World} (hl:laidOutB P=true) (bel:Below W.heap.size W W') :
  ∀ {ns:List String} {gs:List (DataW H)} {ps:List MemPlace},varsFit P ns=true→DataW.TrodVars enc P W (fun _=>true) ns gs ps→DataW.TrodVars enc P W' (fun b=>decide (b<W.heap.size)) ns gs ps
 | [],[],ps,_,h=>h
 | [],_::_,_,_,h=>by cases h
 | _::_,[],_,_,h=>by cases h
 | n::ns,d::ds,ps,hf,h=>by
  obtain ⟨g,t,cs,fuel,p,q,hg,ht,hv,hd,hr,e⟩:=h
  simp only [varsFit,List.all_cons,Bool.and_eq_true] at hf
  obtain ⟨hf1,hf2⟩:=hf
  rw [hg] at hf1
  simp only [ht,Bool.and_eq_true,decide_eq_true_eq] at hf1
  obtain ⟨fuel',hd'⟩:=Below.trod hl hf1.1 hf1.2 (v:=.agg cs) (⟨fuel,by simpa [Value.cells] using hd⟩:DataW.Trod enc P W 0 (fun _=>true) true t (.agg cs) d p) bel (DataW.trod_lt fuel _ _ _ hd)
  exact ⟨g,t,cs,fuel',p,q,hg,ht,var?_below bel hg (var?_lt hg hv) hv,by simpa [Value.cells] using hd',vars_below hl bel hf2 hr,e⟩

theorem vars_len {H:Type} {enc:TypeId × Value→H} {P:Program} {W:World} {spare:Nat→Bool}:∀ {ns:List String} {gs:List (DataW H)} {ps:List MemPlace},DataW.TrodVars enc P W spare ns gs ps→gs.length=ns.length
 | [],[],_,_=>rfl
 | [],_::_,_,h=>by cases h
 | _::_,[],_,h=>by cases h
 | _::_,_::_,_,h=>by
  obtain ⟨_,_,_,_,_,_,_,_,_,_,hr,_⟩:=h
  simp [vars_len hr]
end Go.Proofs.YthmgampabhbpoaaGreatDoor
