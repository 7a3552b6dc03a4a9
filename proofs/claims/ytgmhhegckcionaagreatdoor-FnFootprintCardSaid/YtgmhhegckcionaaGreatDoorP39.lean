/-
  Joined: VisB, CkfS, TruS, EtrS, SameVmI.
-/
import Derived.Lib.Strings
import Derived.Lib.Walk
import Derived.Lib.BufferWrite
import Derived.Lib.UnsafeStr
import Derived.Laws.MakeOwn
import Derived.Shelf.Small.Strs
import Derived.Deep.CutRange
import Derived.Test.YtgmhhegckcionaaGreatDoorP30

namespace Go.Proofs.YtgmhhegckcionaaGreatDoor
set_option maxRecDepth 100000
set_option maxHeartbeats 16000000
open Go.RowKit
set_option linter.unusedVariables false
set_option linter.unusedSimpArgs false

theorem step_store_blkV {P:Program} {ops:Array Oper} {o:Oper} {a:Act} {w:World} {K:Act→World→Prop} {Q:Exit→Act→World→Prop} {E:Prop} (hgd:o.guard=none) (ty:TypeId) (x y:Operand) (ho:o.op=.store ty x y) (g:Nat) (vs:List Value) (hx:a.eval x=.pointer (some ⟨g,0,none⟩)) (hy:a.eval y=.agg vs.toArray) {t:Nat} {cs:List Value} (hB:Blk w g t cs)
  (hi:(P.info? ty).map (·.size)=some vs.length) (hl:cs.length=vs.length) (h1:vs.all (·.oneCell')=true)
  (h:∀ w',Hid (Blk w' g t vs)→w.grownBy w' (some g)→K (a.put o.dst undef) w'):if Region.wanted o (yielded ops a.tmps)=true then Oper.wp P o a w K Q else E:=by
 have hw:Region.wanted o (yielded ops a.tmps)=true:=by simp [Region.wanted,hgd]
 rw [if_pos hw]
 exact wp_store_row ty x y ho g vs.toArray hx hy t cs.toArray hB (by simpa using hi) (by simpa using hl) (by simpa using h1) (h _ (blk_setRow vs hB) (grown_setRow _ _ _))
def NoInt (cs:List Value):Prop:=∀ u ∈ cs,∀ k v,u≠Value.int k v
theorem noInt_ent (k:ByteArray) (s:Sl2):NoInt (entC k s):=by
 intro u hu q v e
 unfold entC at hu
 simp only [List.mem_cons,List.not_mem_nil,or_false] at hu
 rcases hu with rfl | rfl | rfl<;>cases e
theorem blk_noint {w:World} {X T b o:Nat} {cs:List Value} (hB:Blk w X T cs) (hn:NoInt cs) {k:IntKind} {v:Int} (h:w.cell? ⟨b,o,none⟩=some (.int k v)):b≠X:=by
 rintro rfl
 rw [hB.cell] at h
 exact hn _ (List.mem_of_getElem? h) _ _ rfl
theorem Ints.box {k:IntKind} {w w':World} {a:Option Addr} {n c X T:Nat} {zs:List Int} {cs:List Value} (h:Ints k w a n c zs) (hB:Blk w X T cs) (hn:NoInt cs) (hg:w.grownBy w' (some X)):Ints k w' a n c zs:=by
 obtain ⟨h1,h2,h3,h4⟩:=h
 refine ⟨h1,h2,h3,?_⟩
 rcases h4 with h4 | ⟨b,off,ha,hlt,hc⟩
 ·exact .inl h4
 ·exact .inr ⟨b,off,ha,by have:=hg.size;omega,fun t ht=>grown8 hg (hc t ht) (fun e=>blk_noint hB hn (hc t ht) (by cases e;rfl))⟩
theorem Instrs.box {w w':World} {a:Option Addr} {n c X T:Nat} {xs:List I3} {cs:List Value} (h:Instrs w a n c xs) (hB:Blk w X T cs) (hn:NoInt cs) (hg:w.grownBy w' (some X)):Instrs w' a n c xs:=by
 obtain ⟨h1,h2,h3,h0,h4⟩:=h
 refine ⟨h1,h2,h3,h0,?_⟩
 rcases h4 with h4 | ⟨b,off,ha,hlt,hc⟩
 ·exact .inl h4
 ·exact .inr ⟨b,off,ha,by have:=hg.size;omega,fun t ht=>⟨grown8 hg (hc t ht).1 (fun e=>blk_noint hB hn (hc t ht).1 (by cases e;rfl)),grown8 hg (hc t ht).2.1 (fun e=>blk_noint hB hn (hc t ht).2.1 (by cases e;rfl)),grown8 hg (hc t ht).2.2 (fun e=>blk_noint hB hn (hc t ht).2.2 (by cases e;rfl))⟩⟩
theorem Emem.box {w w':World} {s:Sl2} {e:E3} {X T:Nat} {cs:List Value} (h:Emem w s e) (hB:Blk w X T cs) (hn:NoInt cs) (hg:w.grownBy w' (some X)):Emem w' s e:=⟨h.1,h.2.1.box hB hn hg,h.2.2.1.box hB hn hg,h.2.2.2⟩
def OffX (a:Option Addr) (n X:Nat):Prop:=n=0∨∀ b o,a=some ⟨b,o,none⟩→b≠X
theorem Ents.box {w w':World} {a:Option Addr} {n c X T:Nat} {es:List E3} {cs:List Value} (h:Ents w a n c es) (hX:OffX a n X) (hB:Blk w X T cs) (hn:NoInt cs) (hg:w.grownBy w' (some X)):Ents w' a n c es:=by
 obtain ⟨h1,h2,h3,h4⟩:=h
 refine ⟨h1,h2,h3,?_⟩
 rcases h4 with h4 | ⟨b,off,ha,hlt,hc⟩
 ·exact .inl h4
 ·refine .inr ⟨b,off,ha,by have:=hg.size;omega,fun t ht=>?_⟩
  have hne:b≠X:=by
   rcases hX with h9 | h9
   ·omega
   ·exact h9 b off ha
  obtain ⟨s,c0,c1,c2,hm⟩:=hc t ht
  exact ⟨s,grown8 hg c0 (fun e=>hne (by cases e;rfl)),grown8 hg c1 (fun e=>hne (by cases e;rfl)),grown8 hg c2 (fun e=>hne (by cases e;rfl)),hm.box hB hn hg⟩
theorem Emem.zero9 (w:World):Emem w ((none,0,0),(none,0,0)) e3d:=⟨⟨by unfold maxLen;decide,fun _=>rfl,fun _=>rfl⟩,⟨rfl,Nat.le_refl _,Nat.zero_le _,by simp [e3d],.inl rfl⟩,⟨rfl,Nat.le_refl _,Nat.zero_le _,.inl rfl⟩,by simp [e3d]⟩


theorem OwnE.keptV {w w':World} {B X t:Nat} {vb vf:Value} {e:E3} {cs:List Value} (h:OwnE w B vb vf e) (hg:w.grownBy w' (some X)) (hX:Blk w X t cs) (h1:103≠t) (h2:3≠t):OwnE w' B vb vf e:=⟨h.1.kept hg (.inr (own_ne_blk9' h.1 hX h1)),h.2.kept hg (.inr (own_ne_blk9' h.2 hX h2))⟩
theorem OwnM.keptV {w w':World} {B X t:Nat} {v:Value} {es:List E3} {cs:List Value} (h:OwnM w B v es) (hg:w.grownBy w' (some X)) (hX:Blk w X t cs) (h0:45≠t) (h1:103≠t) (h2:3≠t):OwnM w' B v es:=by
 obtain ⟨cs',r,q,h3⟩:=h
 exact ⟨cs',r.kept hg (.inr (own_ne_blk9' r hX h0)),fun t ht=>⟨(q t ht).1,(q t ht).2.keptV hg hX h1 h2⟩,h3⟩
def freR (rows:List (List I3)):E3 × Vs11 × Bool:=visM rows 19 zeroV ([],0)
def freC (rows:List (List I3)):Int:=if progOk rows=true then (if (freR rows).2.2=true then 0 else 15) else 1
def freB (rows:List (List I3)):List I3:=if freC rows=0 then (freR rows).1.2.1 else []
def freN (rows:List (List I3)):Nat:=if freC rows=0 then (freR rows).2.1.2 else 0
def freE (rows:List (List I3)):List E3:=if freC rows=0 then (freR rows).2.1.1 else []


def truR (rows:List (List I3)) (e:E3):E3 × Vs11 × Bool:=visM rows 19 (bytesV e.1) ([],0)
def truE (rows:List (List I3)) (e:E3):Bool:=(truR rows e).2.2 && decide ((truR rows e).1=e)
theorem trueM_nil (rows:List (List I3)):TrueM rows []:=⟨rfl,by simp⟩
theorem keyOk_parts {k:ByteArray} (h:keyOk9 k=true):k.size=15∧shapeOk (bytesV k)=true:=by
 unfold keyOk9 at h
 simpa using h


def etB (rows:List (List I3)) (e:E3):Bool:=progOk rows && (entOk e && truE rows e)
def etC (rows:List (List I3)) (e:E3):Int:=if (progOk rows && entOk e)=true then 0 else 1


theorem bel_dN (w:World) (n:Nat):Below w.heap.size w (w.drewN n):=⟨rfl,rfl,rfl,Nat.le_refl _,fun _ _=>rfl⟩

theorem equalI_is (a a':Option Addr) (len cap cap':Nat) (xs ys:List Int) (w:World) (h:Ints .i64 w a len cap xs) (h':Ints .i64 w a' len cap' ys) (hpos:len≠0) :
  Calls Tryz.prog 70 #[.slice a len cap,.slice a' len cap'] w fun e w'=>e=.returned (.bool (decide (xs=ys)))∧Below w.heap.size w w':=by
 obtain ⟨hl,hlc,hcm,hcase⟩:=h
 obtain ⟨hl',hlc',hcm',hcase'⟩:=h'
 unfold maxLen at hcm hcm'
 rcases hcase with h0' | ⟨b,off,rfl,hblt,hcell⟩
 ·exact absurd h0' hpos
 rcases hcase' with h0' | ⟨b',off',rfl,hblt',hcell'⟩
 ·exact absurd h0' hpos
 have hne:((len:Int) != (len:Int))=false:=by simp
 obtain ⟨fin,hfin⟩:∃ fin,fin=decide (xs=ys):=⟨_,rfl⟩
 rw [← hfin]
 have HF:Hid (fin=decide (xs=ys)):=hfin
 clear hfin
 go_enter Tryz.func70,Tryz.ntmps70
 go_wp2
 go_loopw [13] (fun si wr=>∃ (k:Nat),k≤len∧si=.int .i64 k∧Hid (xs.take k=ys.take k)∧Below w.heap.size w wr) (fun si _=>len - (intOf si).toNat)
 case atStart=>exact ⟨0,by omega,rfl,by simp [Hid],Below.refl _ _⟩
 case round =>
  obtain ⟨k,hk,rfl,hH',hbel⟩:=hrel
  by_cases hlt:k<len
  ·have c0:=hcell k hlt
   have e0:=hcell' k hlt
   rw [← hbel.cell (p:=⟨b,_,none⟩) hblt] at c0
   rw [← hbel.cell (p:=⟨b',_,none⟩) hblt'] at e0
   have hlt':(k:Int)<(len:Int):=by omega
   have hk0:(0:Int)≤(k:Int):=by omega
   have hxg:Hid (xs.getD k 0=xs[k]'(by omega)∧ys.getD k 0=ys[k]'(by omega)):=⟨by simp [List.getD,hl,hlt],by simp [List.getD,hl',hlt]⟩
   by_cases hxy:xs.getD k 0=ys.getD k 0
   ·have hH2:Hid (xs.take (k+1)=ys.take (k+1)):=by
     rw [Hid,List.take_succ_eq_append_getElem (by omega),List.take_succ_eq_append_getElem (by omega),hH'.out,← hxg.out.1,← hxg.out.2,hxy]
    rw [← hxy] at e0
    clear hcell hcell' hxg hxy hH'
    generalize xs.getD k 0=x at c0 e0
    have hxx:(x != x)=false:=by simp
    go_wp2_with fail
    go_quiet (fail)
    have hb2:Below w.heap.size w (wr.drewN nq):=bel_trans hbel (bel_dN _ _)
    go_wp2
    go_roundw
    case rel=>exact ⟨k+1,by omega,by go_num,hH2,hb2⟩
    case measure=>simp [intOf];omega
   ·obtain rfl:fin=false:=by
     rw [HF.out,decide_eq_false_iff_not]
     intro h
     subst h
     exact hxy rfl
    clear hcell hcell' hxg hH' HF
    generalize xs.getD k 0=x at c0 hxy
    generalize ys.getD k 0=y at e0 hxy
    have hxx:(x != y)=true:=by simp [hxy]
    have hb2:∀ nq,Below w.heap.size w (wr.drewN nq):=fun nq=>bel_trans hbel (bel_dN _ _)
    go_wp2_with fail
    go_quiet (fail)
    go_wp2
    go_ret
    exact ⟨rfl,hb2 _⟩
  ·obtain rfl:k=len:=by omega
   obtain rfl:fin=true:=by
    rw [HF.out,decide_eq_true_eq]
    have h9:=hH'.out
    rwa [List.take_of_length_le (by omega),List.take_of_length_le (by omega)] at h9
   clear hcell hcell' hH' HF
   go_wp2
   go_ret
   exact ⟨rfl,hbel⟩

end Go.Proofs.YtgmhhegckcionaaGreatDoor
