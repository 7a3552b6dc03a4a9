/-
  Joined: RdeE.
-/
import Derived.Test.YthlcdhddickdiaaDoorR19
import Derived.Test.YthlcdhddickdiaaDoorR41
import Derived.Test.YthlcdhddickdiaaDoorR46
import Derived.Test.YthlcdhddickdiaaDoorR47

namespace Go.Proofs.YthlcdhddickdiaaDoor
set_option maxRecDepth 100000
set_option maxHeartbeats 16000000
open Go.RowKit

theorem fnExactReadEntry_walk (t:ByteArray) (hk:t.size≤maxLen) (w:World) (hGG:VmShape w∧ErrType w) :
  Calls Tryd.prog 4 #[.string t] w fun e w'=>e=.returned (.bool true)∧Below w.heap.size w w':=by
 obtain ⟨hG,hG1⟩:=hGG
 by_cases h:∃ e,RdOk t e
 ·obtain ⟨e,he⟩:=h
  have l1:=entOk_bugs he.ok
  have l2:=entOk_foot he.ok
  refine fnExactReadEntry_of t hk e he.fits (by omega) (by omega) 0 w hG hG1 (fun hs w=>?_) (fun hs w hV hE=>?_)
  ·refine (specReadEntry_is t w hs).mono ?_
   rintro x w' ⟨h9 | ⟨h9,_⟩,hb⟩
   ·obtain ⟨e',s,he',hx,hO⟩:=h9
    have:=he.only he'
    subst this
    exact ⟨⟨s,hx,hO⟩,hb⟩
   ·exact absurd he (h9 e)
  ·refine (implReadEntry_is t w hs hV hE).mono ?_
   rintro x w' ⟨h9 | ⟨h9,_⟩,hb⟩
   ·obtain ⟨e',s,he',hx,hO⟩:=h9
    have:=he.only he'
    subst this
    exact ⟨⟨s,hx,hO⟩,hb⟩
   ·exact absurd he (h9 e)
 ·have hn:∀ e,¬ RdOk t e:=fun e he=>h ⟨e,he⟩
  refine fnExactReadEntry_of t hk e3d ⟨by show (0:Nat)≤maxLen;omega,by simp [e3d],by simp [e3d]⟩ (by simp [e3d]) (by simp [e3d]) (rdC t) w hG hG1 (fun hs w=>?_) (fun hs w hV hE=>?_)
  ·refine (specReadEntry_is t w hs).mono ?_
   rintro x w' ⟨h9 | ⟨_,hx⟩,hb⟩
   ·obtain ⟨e',_,he',_⟩:=h9
    exact absurd he' (hn e')
   ·exact ⟨⟨((none,0,0),(none,0,0)),hx,OwnE.nil9 _ _ _⟩,hb⟩
  ·refine (implReadEntry_is t w hs hV hE).mono ?_
   rintro x w' ⟨h9 | ⟨_,hx⟩,hb⟩
   ·obtain ⟨e',_,he',_⟩:=h9
    exact absurd he' (hn e')
   ·exact ⟨⟨((none,0,0),(none,0,0)),hx,⟨World.ownsRow_nil _ _ _ _,fun y hy=>by simp [Value.ownBlock] at hy,OwnO.nil9 _ _ _⟩⟩,hb⟩

theorem laid_two {W:World} {d e:String × DataW Unit} (hd:d.2.handleName?.isSome=true) (he:e.2.handleName?=none) (h:laidMetH Tryd.prog [d,e] W):laidMetH Tryd.prog [d] W∧laidMetH Tryd.prog [e] W:=by
 have f1:([d,e].filter fun x=>x.2.handleName?.isNone)=[e]:=by
  cases hdd:d.2.handleName? with
  | none=>rw [hdd] at hd;cases hd
  | some n=>simp [List.filter,he,hdd]
 have f2:([d,e].filter fun x=>x.2.handleName?.isSome)=[d]:=by
  cases hdd:d.2.handleName? with
  | none=>rw [hdd] at hd;cases hd
  | some n=>simp [List.filter,he,hdd]
 have f3:([d].filter fun x=>x.2.handleName?.isNone)=[]:=by
  cases hdd:d.2.handleName? with
  | none=>rw [hdd] at hd;cases hd
  | some n=>simp [List.filter,hdd]
 have f4:([d].filter fun x=>x.2.handleName?.isSome)=[d]:=by simp [List.filter,hd]
 have f6:([e].filter fun x=>x.2.handleName?.isSome)=[]:=by simp [List.filter,he]
 unfold laidMetH at h ⊢
 rw [f2] at h
 rw [f4,f6]
 simp only at h ⊢
 rw [f1] at h
 rw [f3]
 exact ⟨⟨h.1.tail,h.2⟩,h.1⟩
theorem fnExactReadEntry_laid {W:World} (h:laidMetH Tryd.prog Rows.fnExactReadEntryRow.laid W):VmShape W∧ErrType W:=by
 have h':=laid_two (W:=W) rfl rfl h
 exact ⟨vmShape_of_laid rfl h'.2,errType_of_laid rfl h'.1⟩
theorem fnExactReadEntry_door_met (os:Os) (args:Array Value):laidMetH Tryd.prog Rows.fnExactReadEntryRow.laid ((World.doorLaid Tryd.prog 400 os).forCall (fun _ _=>0) ⟨#[],args,[]⟩).memory:=
 laidMetH_of_parts3 (fuel:=8) (laidMet_of_run' 8 (by kernel_rfl) (by kernel_rfl)) (by kernel_rfl) (by kernel_rfl)
end Go.Proofs.YthlcdhddickdiaaDoor
