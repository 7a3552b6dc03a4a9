/-
  Joined: Vm0, Ints, Vm2.
-/
import Derived.ChangeSlices
import Derived.Lib.SmallJoins
import Derived.Test.YtmhlokahmblboaaGreatDoorQ04

namespace Go.Proofs.YtmhlokahmblboaaGreatDoor
set_option maxRecDepth 100000
set_option maxHeartbeats 16000000
open Go.RowKit Go.ChangeShapes Go.WideShapes Go.Joins

abbrev V4:=List Int × List Int × List Int × List Int
abbrev Sl:=Option Addr × Nat × Nat
def Sl.val (s:Sl):Value:=.slice s.1 s.2.1 s.2.2
abbrev S4:=Sl × Sl × Sl × Sl
def S4.val (s:S4):Value:=.agg #[.slice s.1.1 s.1.2.1 s.1.2.2,.slice s.2.1.1 s.2.1.2.1 s.2.1.2.2,.slice s.2.2.1.1 s.2.2.1.2.1 s.2.2.1.2.2,.slice s.2.2.2.1 s.2.2.2.2.1 s.2.2.2.2.2]
def W7 (w:World) (s:Sl) (zs:List Int):Prop:=ZW .i64 w s.1 s.2.1 s.2.2 zs∧∀ z ∈ zs,(Lit.int .i64 z).wf=true
def Yv (w:World) (s:S4) (m:V4):Prop:=W7 w s.1 m.1∧W7 w s.2.1 m.2.1∧W7 w s.2.2.1 m.2.2.1∧W7 w s.2.2.2 m.2.2.2

theorem W7.below {w w':World} {s:Sl} {zs:List Int} (h:W7 w s zs) (hb:Below w.heap.size w w'):W7 w' s zs:=⟨h.1.below hb,h.2⟩
theorem Yv.below {w w':World} {s:S4} {m:V4} (h:Yv w s m) (hb:Below w.heap.size w w'):Yv w' s m:=⟨h.1.below hb,h.2.1.below hb,h.2.2.1.below hb,h.2.2.2.below hb⟩

section
variable {H : Type} {enc : TypeId × Value → H} {P : Program} {w : World} {base : Nat} {spare : Nat → Bool} {held : Bool}
theorem Hj {t e:TypeId} {fuel:Nat} {v:Value} {x:DataW H × List MemPlace} (hs:P.underlying t=some (.slice e)) (he:P.underlying e=some (.int .i64)) (hC:P.cellsOf e=1)
  (h:DataW.trod enc P w base spare held fuel t [v]=some x):∃ (s:Sl) (zs:List Int),v=s.val∧W7 w s zs:=by
 rcases Go.ChangeShapes.open_ints hs he hC h with ⟨hcs,_⟩ | ⟨a,len,cap,zs,hcs,_,hl,hm,hz,_,hcell,hwf⟩
 ·simp at hcs
  exact ⟨(none,0,0),[],hcs,⟨rfl,Nat.le_refl _,Nat.zero_le _,.inl rfl⟩,by simp⟩
 simp at hcs
 have hle:len≤zs.length:=by rw [hz];split<;>omega
 refine ⟨(some a,len,cap),zs.take len,hcs,⟨by simp;omega,hl,hm,?_⟩,fun z hz=>hwf z (List.mem_of_mem_take hz)⟩
 rcases Nat.eq_zero_or_pos len with h0 | h0
 ·exact .inl h0
 right
 obtain ⟨b,off,spot⟩:=a
 have hc:=hcell 0 (by omega)
 have hspot:spot=none:=by simpa [Addr.add] using World.cell?_spot hc
 subst hspot
 have hall:∀ t,t<len→w.cell? ⟨b,off+t,none⟩=some (.int .i64 ((zs.take len).getD t 0)):=by
  intro t ht
  have:=hcell t (by omega)
  have e:(⟨b,off,none⟩:Addr).add t=⟨b,off+t,none⟩:=by unfold Addr.add;split<;>simp_all
  rw [e] at this
  rw [this]
  simp [List.getD,ht]
 exact ⟨b,off,rfl,WO (hall 0 h0),hall⟩
end

open Go.RowKit

theorem Mc:∀ (zs:List Int) (len k:Nat),k<len→zs.length=len→(zs.take k++List.replicate (len - k) 0).set k (zs.getD k 0)=zs.take (k+1)++List.replicate (len - (k+1)) 0
 | [],len,k,hk,hl=>by simp at hl;omega
 | z::zs,len,0,_,hl=>by
  obtain ⟨n,rfl⟩:∃ n,len=n+1:=⟨len - 1,by simp at hl;omega⟩
  simp [List.replicate_succ]
 | z::zs,len,k+1,hk,hl=>by
  obtain ⟨n,rfl⟩:∃ n,len=n+1:=⟨len - 1,by omega⟩
  have ih:=Mc zs n k (by omega) (by simpa using hl)
  simp only [Nat.add_sub_add_right,List.take_succ_cons,List.cons_append,List.set_cons_succ,List.getD_cons_succ,ih]

theorem Lm (a:Option Addr) (len cap:Nat) (zs:List Int) (w:World) (h:ZW .i64 w a len cap zs) (hlen:len≤1048576) :
  Calls Tryz.prog 155 #[.slice a len cap] w fun e w'=>e=.returned (.slice (some ⟨w.heap.size,0,none⟩) len len) ∧
   w'.ownsRow w.heap.size 3 1 (.slice (some ⟨w.heap.size,0,none⟩) len len) len (zs.map (Value.int .i64))∧Below w.heap.size w w':=by
 obtain ⟨i0,hi,hz0,hz1,hz2⟩:=info_parts Xp
 obtain ⟨hl,hlc,hcm,hcase⟩:=h
 unfold maxLen at hcm
 rcases hcase with h0 | ⟨b,off,rfl,hblt,hcell⟩
 ·subst h0
  have hz:zs=[]:=by simpa using hl
  subst hz
  go_enter Tryz.func155,Tryz.ntmps155
  go_wp2_with (at_make;refine wpList_make_full _ rfl _ _ 72 rfl w.heap.size 3 i0 (.int .i64 0) 1 Tryz.underlying72 hi hz0 hz1 _ _ _ _ 0 rfl rfl (by omega) (by omega) ?b2 ?b3 (Nat.le_refl _) ?_)
  case b2=>omega
  case b3=>unfold maxLen;omega
  intro w0 hown0 hgrow0
  have hb0:Below w.heap.size w w0:=(Below.refl _ _).grown hgrow0 (Nat.le_refl _) (fun k h=>by cases h)
  rw [Q7] at hown0
  clear hgrow0
  go_wp2
  refine wp_loop_rounds 1 ?_
  rw [rounds_succ]
  go_wp2
  go_ret
  exact ⟨rfl,hown0,hb0⟩
 go_enter Tryz.func155,Tryz.ntmps155
 go_wp2_with (at_make;refine wpList_make_full _ rfl _ _ 72 rfl w.heap.size 3 i0 (.int .i64 0) 1 Tryz.underlying72 hi hz0 hz1 _ _ _ _ len rfl rfl (by omega) (by omega) ?b2 ?b3 (Nat.le_refl _) ?_)
 case b2=>rw [hz2];omega
 case b3=>unfold maxLen;omega
 intro w0 hown0 hgrow0
 have hb0:Below w.heap.size w w0:=(Below.refl _ _).grown hgrow0 (Nat.le_refl _) (fun k h=>by cases h)
 rw [Q7] at hown0
 clear hgrow0
 go_wp2
 go_loopw [4] (fun si wr=>∃ k:Nat,k≤len∧si=.int .i64 k∧wr.ownsRow w.heap.size 3 1 (.slice (some ⟨w.heap.size,0,none⟩) len len) len ((zs.take k++List.replicate (len - k) (0:Int)).map (Value.int .i64))∧Below w.heap.size w wr) (fun si _=>len - (intOf si).toNat)
 case atStart=>exact ⟨0,by omega,rfl,by simpa using hown0,hb0⟩
 case round =>
  obtain ⟨k,hk,rfl,ho,hbel⟩:=hrel
  by_cases hlt:k<len
  ·have hc:wr.cell? ⟨b,off+k,none⟩=some (.int .i64 (zs.getD k 0)):=by rw [hbel.cell (p:=⟨b,off+k,none⟩) hblt];exact hcell k hlt
   have hf:=ho.frozenAt k
   have hst:=ho.stored k (.int .i64 (zs.getD k 0))
   have hold:∃ u,wr.cell? ⟨w.heap.size,k,none⟩=some u:=by
    have:=ho.cellAt k (by omega)
    rw [this]
    exact ⟨_,List.getElem?_eq_getElem (by simp;omega)⟩
   obtain ⟨u,hu⟩:=hold
   have R:(wr.setCell ⟨w.heap.size,k,none⟩ (.int .i64 (zs.getD k 0))).ownsRow w.heap.size 3 1 (.slice (some ⟨w.heap.size,0,none⟩) len len) len ((zs.take (k+1)++List.replicate (len - (k+1)) (0:Int)).map (Value.int .i64)):=by
    have:=hst.1
    rw [← List.map_set,Mc zs len k hlt hl] at this
    exact this
   have hb1:Below w.heap.size w (wr.setCell ⟨w.heap.size,k,none⟩ (.int .i64 (zs.getD k 0))):=hbel.setCell (Nat.le_refl _) _
   clear hst ho
   generalize zs.getD k 0=x at hc R hb1
   go_wp2
   go_roundw
   case rel=>exact ⟨k+1,by omega,by go_num,R,hb1⟩
   case measure=>simp [intOf];omega
  obtain rfl:k=len:=by omega
  go_wp2
  go_ret
  refine ⟨rfl,?_,hbel⟩
  have e:zs.take k++List.replicate (k - k) (0:Int)=zs:=by rw [Nat.sub_self];simp [List.take_of_length_le (Nat.le_of_eq hl)]
  rw [e] at ho
  exact ho


def ZS (w:World) (B:Nat) (s:Sl) (zs:List Int):Prop:=w.ownsRow B 3 1 (.slice s.1 s.2.1 s.2.2) s.2.1 (zs.map (Value.int .i64))
def Vh (s s':Sl):Prop:=∀ g,(Value.slice s.1 s.2.1 s.2.2).ownBlock=some g→(Value.slice s'.1 s'.2.1 s'.2.2).ownBlock≠some g
def ZI (w:World) (B:Nat) (s:S4) (m:V4):Prop:=
 (ZS w B s.1 m.1∧ZS w B s.2.1 m.2.1∧ZS w B s.2.2.1 m.2.2.1∧ZS w B s.2.2.2 m.2.2.2) ∧
 Vh s.1 s.2.1∧Vh s.1 s.2.2.1∧Vh s.1 s.2.2.2∧Vh s.2.1 s.2.2.1∧Vh s.2.1 s.2.2.2∧Vh s.2.2.1 s.2.2.2
def V4.fits (m:V4):Prop:=(∀ z ∈ m.1,(Lit.int .i64 z).wf=true)∧(∀ z ∈ m.2.1,(Lit.int .i64 z).wf=true)∧(∀ z ∈ m.2.2.1,(Lit.int .i64 z).wf=true)∧∀ z ∈ m.2.2.2,(Lit.int .i64 z).wf=true
theorem ZS.ints {w:World} {B:Nat} {s:Sl} {zs:List Int} (h:ZS w B s zs):ZW .i64 w s.1 s.2.1 s.2.2 zs:=by
 obtain ⟨a,n,c⟩:=s
 unfold ZS at h
 simp only at h ⊢
 rcases h.2 with ⟨h0,h1⟩ | ⟨g,cap,cur,hv,_⟩
 ·cases h0
  have hl:zs.length=0:=by simpa using h.1
  exact ⟨hl,Nat.le_refl _,Nat.zero_le _,.inl rfl⟩
 cases hv
 exact ZW.of_owns h
theorem ZS.below {w w':World} {B:Nat} {s:Sl} {zs:List Int} (h:ZS w B s zs) (hb:Below w.heap.size w w'):ZS w' B s zs:=Zz h hb
theorem ZI.below {w w':World} {B:Nat} {s:S4} {m:V4} (h:ZI w B s m) (hb:Below w.heap.size w w'):ZI w' B s m:=⟨⟨h.1.1.below hb,h.1.2.1.below hb,h.1.2.2.1.below hb,h.1.2.2.2.below hb⟩,h.2⟩
theorem ZI.mem {w:World} {B:Nat} {s:S4} {m:V4} (h:ZI w B s m) (hf:V4.fits m):Yv w s m:=⟨⟨h.1.1.ints,hf.1⟩,⟨h.1.2.1.ints,hf.2.1⟩,⟨h.1.2.2.1.ints,hf.2.2.1⟩,⟨h.1.2.2.2.ints,hf.2.2.2⟩⟩
theorem WG {w:World} {B B' e s n:Nat} {v:Value} {cs:List Value} (h:w.ownsRow B e s v n cs) (hB:B'≤B):w.ownsRow B' e s v n cs:=by
 refine ⟨h.1,?_⟩
 rcases h.2 with h0 | ⟨g,cap,cur,hv,hg,rest⟩
 ·exact .inl h0
 exact .inr ⟨g,cap,cur,hv,Nat.le_trans hB hg,rest⟩
theorem FJ (w:World) (x y z u:Value) (t B:Nat) (hB:B≤w.heap.size):(w.alloc (.cells #[x,y,z,u] t)).ownsRow B t 4 (.slice (some ⟨w.heap.size,0,none⟩) 1 1) 1 [x,y,z,u]:=World.ownsRow_lit w #[x,y,z,u] 1 hB (by unfold maxLen;omega) rfl

end Go.Proofs.YtmhlokahmblboaaGreatDoor
