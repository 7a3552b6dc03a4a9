/-
  Joined: RsEnd, Vars.
-/
import Derived.WalkSmall
import Derived.ChangeOld
import Derived.Test.YtjgffnlmjmibgaaGreatDoorE44
import Derived.Test.YtjgffnlmjmibgaaGreatDoorE47
import Derived.Test.YtjgffnlmjmibgaaGreatDoorE48

namespace Go.Proofs.YtjgffnlmjmibgaaGreatDoor
set_option maxRecDepth 100000
set_option maxHeartbeats 16000000
open Go.RowKit

theorem fnExactRunSchedule_walk (a0:Option Addr) (n0 c0:Nat) (r0:List (List I3)) (a1:Option Addr) (n1 c1:Nat) (z1:List Int) (w:World) (h0:Codes w a0 n0 c0 r0) (h1:IsRow .i64 w a1 n1 c1 z1) (hG:VmShape w) :
  Calls Tryz.prog 7 #[.agg #[.slice a0 n0 c0],.slice a1 n1 c1] w fun e w'=>e=.returned (.bool true)∧Below w.heap.size w w':=
 fnExactRunSchedule_of a0 n0 c0 r0 a1 n1 c1 (z1.take n1) (runZ r0 (z1.take n1)) (runZ_ok _ _).1 (runZ_ok _ _).2 (runF r0 (z1.take n1)) (fun x hx=>okB_fitsQ ((runF_okJ _ _).1 x hx)) (by have:=(runF_okJ r0 (z1.take n1)).2;omega) (runC r0 (z1.take n1)) w h0 (Ints.of_isRow h1) hG
  (fun a n c la ln lc w hC hL=>specRunSchedule_is a n c r0 la ln lc _ w hC hL)
  (fun a n c la ln lc w hC hL hV=>implRunSchedule_is a n c r0 la ln lc _ w hC hV hL)

theorem fnExactRunSchedule_laid {W:World} (h:laidMetH Tryz.prog Rows.fnExactRunScheduleRow.laid W):VmShape W:=vmShape_of_laid rfl h
theorem fnExactRunSchedule_door_met (os:Os) (args:Array Value):laidMetH Tryz.prog Rows.fnExactRunScheduleRow.laid ((World.doorLaid Tryz.prog 400 os).forCall (fun _ _=>0) ⟨#[],args,[]⟩).memory:=
 laidMetH_of_parts3 (fuel:=8) (laidMet_of_run' 8 (by kernel_rfl) (by kernel_rfl)) (by kernel_rfl) (by kernel_rfl)


def varsFit (P:Program) (ns:List String):Bool:=ns.all fun n =>
 match P.globalNamed n with
 | some g=>match (P.globals[g]?).map (·.type) with
  | some t=>P.readableRec t && decide (t<P.types.size)
  | none=>false
 | none=>false

theorem var?_lt {P:Program} {W:World} {n:String} {g:Nat} {cs:Array Value} (hg:P.globalNamed n=some g) (hv:W.var? P n=some cs):g<W.heap.size:=by
 rcases Nat.lt_or_ge g W.heap.size with h | h
 ·exact h
 ·unfold World.var? at hv
  simp [hg,Array.getElem?_eq_none h] at hv

theorem vars_below {H:Type} {enc:TypeId × Value→H} {P:Program} {W W':World} (hl:laidOutB P=true) (bel:Below W.heap.size W W') :
  ∀ {ns:List String} {gs:List (DataW H)} {ps:List MemPlace},varsFit P ns=true→DataW.TrodVars enc P W (fun _=>true) ns gs ps→DataW.TrodVars enc P W' (fun b=>decide (b<W.heap.size)) ns gs ps
 | [],[],ps,_,h=>h
 | [],_::_,_,_,h=>by cases h
 | _::_,[],_,_,h=>by cases h
 | n::ns,d::ds,ps,hf,h=>by
  obtain ⟨g,t,cs,fuel,p,q,hg,ht,hv,hd,hr,e⟩:=h
  simp only [varsFit,List.all_cons,Bool.and_eq_true] at hf
  obtain ⟨hf1,hf2⟩:=hf
  rw [hg] at hf1
  simp only [ht,Bool.and_eq_true,decide_eq_true_eq] at hf1
  obtain ⟨fuel',hd'⟩:=Below.trod hl hf1.1 hf1.2 (v:=.agg cs) (⟨fuel,by simpa [Value.cells] using hd⟩:DataW.Trod enc P W 0 (fun _=>true) true t (.agg cs) d p) bel (DataW.trod_lt fuel _ _ _ hd)
  exact ⟨g,t,cs,fuel',p,q,hg,ht,var?_below bel hg (var?_lt hg hv) hv,by simpa [Value.cells] using hd',vars_below hl bel hf2 hr,e⟩

theorem vars_len {H:Type} {enc:TypeId × Value→H} {P:Program} {W:World} {spare:Nat→Bool}:∀ {ns:List String} {gs:List (DataW H)} {ps:List MemPlace},DataW.TrodVars enc P W spare ns gs ps→gs.length=ns.length
 | [],[],_,_=>rfl
 | [],_::_,_,h=>by cases h
 | _::_,[],_,h=>by cases h
 | _::_,_::_,_,h=>by
  obtain ⟨_,_,_,_,_,_,_,_,_,_,hr,_⟩:=h
  simp [vars_len hr]
end Go.Proofs.YtjgffnlmjmibgaaGreatDoor
