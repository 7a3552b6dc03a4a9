/-
  Joined: Ints, Vm0, MarkP, Vm2.
-/
import Derived.ChangeSlices
import Derived.Lib.SmallJoins
import Derived.Test.YtjgffnlmjmibgaaDoorK04

namespace Go.Proofs.YtjgffnlmjmibgaaDoor
set_option maxRecDepth 100000
set_option maxHeartbeats 16000000
open Go.RowKit

theorem set_step:∀ (zs:List Int) (len k:Nat),k<len→zs.length=len→(zs.take k++List.replicate (len - k) 0).set k (zs.getD k 0)=zs.take (k+1)++List.replicate (len - (k+1)) 0
 | [],len,k,hk,hl=>by simp at hl;omega
 | z::zs,len,0,_,hl=>by
  obtain ⟨n,rfl⟩:∃ n,len=n+1:=⟨len - 1,by simp at hl;omega⟩
  simp [List.replicate_succ]
 | z::zs,len,k+1,hk,hl=>by
  obtain ⟨n,rfl⟩:∃ n,len=n+1:=⟨len - 1,by omega⟩
  have ih:=set_step zs n k (by omega) (by simpa using hl)
  simp only [Nat.add_sub_add_right,List.take_succ_cons,List.cons_append,List.set_cons_succ,List.getD_cons_succ,ih]

theorem toIntS_any (a:Option Addr) (len cap:Nat) (zs:List Int) (w:World) (h:Ints .i64 w a len cap zs) (hlen:len≤1048576) :
  Calls Tryd.prog 18 #[.slice a len cap] w fun e w'=>e=.returned (.slice (some ⟨w.heap.size,0,none⟩) len len) ∧
   w'.ownsRow w.heap.size 3 1 (.slice (some ⟨w.heap.size,0,none⟩) len len) len (zs.map (Value.int .i64))∧Below w.heap.size w w':=by
 obtain ⟨i0,hi,hz0,hz1,hz2⟩:=info_parts info_int
 obtain ⟨hl,hlc,hcm,hcase⟩:=h
 unfold maxLen at hcm
 rcases hcase with h0 | ⟨b,off,rfl,hblt,hcell⟩
 ·subst h0
  have hz:zs=[]:=by simpa using hl
  subst hz
  go_enter Tryd.func18,Tryd.ntmps18
  go_wp2_with (at_make;refine wpList_make_full _ rfl _ _ 27 rfl w.heap.size 3 i0 (.int .i64 0) 1 Tryd.underlying27 hi hz0 hz1 _ _ _ _ 0 rfl rfl (by omega) (by omega) ?b2 ?b3 (Nat.le_refl _) ?_)
  case b2=>omega
  case b3=>unfold maxLen;omega
  intro w0 hown0 hgrow0
  have hb0:Below w.heap.size w w0:=(Below.refl _ _).grown hgrow0 (Nat.le_refl _) (fun k h=>by cases h)
  rw [made_ints] at hown0
  clear hgrow0
  go_wp2
  refine wp_loop_rounds 1 ?_
  rw [rounds_succ]
  go_wp2
  go_ret
  exact ⟨rfl,hown0,hb0⟩
 ·go_enter Tryd.func18,Tryd.ntmps18
  go_wp2_with (at_make;refine wpList_make_full _ rfl _ _ 27 rfl w.heap.size 3 i0 (.int .i64 0) 1 Tryd.underlying27 hi hz0 hz1 _ _ _ _ len rfl rfl (by omega) (by omega) ?b2 ?b3 (Nat.le_refl _) ?_)
  case b2=>rw [hz2];omega
  case b3=>unfold maxLen;omega
  intro w0 hown0 hgrow0
  have hb0:Below w.heap.size w w0:=(Below.refl _ _).grown hgrow0 (Nat.le_refl _) (fun k h=>by cases h)
  rw [made_ints] at hown0
  clear hgrow0
  go_wp2
  go_loopw [4] (fun si wr=>∃ k:Nat,k≤len∧si=.int .i64 k∧wr.ownsRow w.heap.size 3 1 (.slice (some ⟨w.heap.size,0,none⟩) len len) len ((zs.take k++List.replicate (len - k) (0:Int)).map (Value.int .i64))∧Below w.heap.size w wr) (fun si _=>len - (intOf si).toNat)
  case atStart=>exact ⟨0,by omega,rfl,by simpa using hown0,hb0⟩
  case round =>
   obtain ⟨k,hk,rfl,ho,hbel⟩:=hrel
   by_cases hlt:k<len
   ·have hc:wr.cell? ⟨b,off+k,none⟩=some (.int .i64 (zs.getD k 0)):=by rw [hbel.cell (p:=⟨b,off+k,none⟩) hblt];exact hcell k hlt
    have hf:=ho.frozenAt k
    have hst:=ho.stored k (.int .i64 (zs.getD k 0))
    have hold:∃ u,wr.cell? ⟨w.heap.size,k,none⟩=some u:=by
     have:=ho.cellAt k (by omega)
     rw [this]
     exact ⟨_,List.getElem?_eq_getElem (by simp;omega)⟩
    obtain ⟨u,hu⟩:=hold
    have R:(wr.setCell ⟨w.heap.size,k,none⟩ (.int .i64 (zs.getD k 0))).ownsRow w.heap.size 3 1 (.slice (some ⟨w.heap.size,0,none⟩) len len) len ((zs.take (k+1)++List.replicate (len - (k+1)) (0:Int)).map (Value.int .i64)):=by
     have:=hst.1
     rw [← List.map_set,set_step zs len k hlt hl] at this
     exact this
    have hb1:Below w.heap.size w (wr.setCell ⟨w.heap.size,k,none⟩ (.int .i64 (zs.getD k 0))):=hbel.setCell (Nat.le_refl _) _
    clear hst ho
    generalize zs.getD k 0=x at hc R hb1
    go_wp2
    go_roundw
    case rel=>exact ⟨k+1,by omega,by go_num,R,hb1⟩
    case measure=>simp [intOf];omega
   ·obtain rfl:k=len:=by omega
    go_wp2
    go_ret
    refine ⟨rfl,?_,hbel⟩
    have e:zs.take k++List.replicate (k - k) (0:Int)=zs:=by rw [Nat.sub_self];simp [List.take_of_length_le (Nat.le_of_eq hl)]
    rw [e] at ho
    exact ho

open Go.RowKit Go.ChangeShapes Go.WideShapes Go.Joins

abbrev V4:=List Int × List Int × List Int × List Int
abbrev Sl:=Option Addr × Nat × Nat
def Sl.val (s:Sl):Value:=.slice s.1 s.2.1 s.2.2
abbrev S4:=Sl × Sl × Sl × Sl
def S4.val (s:S4):Value:=.agg #[.slice s.1.1 s.1.2.1 s.1.2.2,.slice s.2.1.1 s.2.1.2.1 s.2.1.2.2,.slice s.2.2.1.1 s.2.2.1.2.1 s.2.2.1.2.2,.slice s.2.2.2.1 s.2.2.2.2.1 s.2.2.2.2.2]
def SlInts (w:World) (s:Sl) (zs:List Int):Prop:=Ints .i64 w s.1 s.2.1 s.2.2 zs∧∀ z ∈ zs,(Lit.int .i64 z).wf=true
def Vmem (w:World) (s:S4) (m:V4):Prop:=SlInts w s.1 m.1∧SlInts w s.2.1 m.2.1∧SlInts w s.2.2.1 m.2.2.1∧SlInts w s.2.2.2 m.2.2.2

theorem SlInts.below {w w':World} {s:Sl} {zs:List Int} (h:SlInts w s zs) (hb:Below w.heap.size w w'):SlInts w' s zs:=⟨h.1.below hb,h.2⟩
theorem Vmem.below {w w':World} {s:S4} {m:V4} (h:Vmem w s m) (hb:Below w.heap.size w w'):Vmem w' s m:=⟨h.1.below hb,h.2.1.below hb,h.2.2.1.below hb,h.2.2.2.below hb⟩

section
variable {H : Type} {enc : TypeId × Value → H} {P : Program} {w : World} {base : Nat} {spare : Nat → Bool} {held : Bool}
end


theorem grownBy_set (w:World) (g j:Nat) (u:Value):w.grownBy (w.setCell ⟨g,j,none⟩ u) (some g):=
 ⟨rfl,rfl,rfl,by simp [World.setCell],fun k _ hk=>Below.heap_setCell _ _ _ _ (fun e=>hk (by rw [e]))⟩
theorem grownBy_tr {a b c:World} {row:Option Nat} (h:a.grownBy b row) (k:b.grownBy c row):a.grownBy c row:=
 ⟨k.os.trans h.os,k.tape.trans h.tape,k.output.trans h.output,Nat.le_trans h.size k.size,fun i hi hne=>(k.block i (by have:=h.size;omega) hne).trans (h.block i hi hne)⟩

def KeptBut (t:TypeId) (w w':World):Prop:=∀ (j:Nat) (cur:Array Value) (e:TypeId) (fz:Nat × Nat),w.heap[j]?=some (Obj.cells cur e fz)→e≠t→w'.heap[j]?=some (Obj.cells cur e fz)
theorem KeptBut.refl (t:TypeId) (w:World):KeptBut t w w:=fun _ _ _ _ h _=>h
theorem KeptBut.trans {t:TypeId} {a b c:World} (h:KeptBut t a b) (k:KeptBut t b c):KeptBut t a c:=fun j cur e fz h0 he=>k j cur e fz (h j cur e fz h0 he) he
def OwnRows (w:World) (B:Nat) (vs:List Value) (rows:List (List I3)):Prop:=
 vs.length=rows.length∧(∀ t,t<rows.length→w.ownsRow B 103 3 (vs.getD t undef) (rows.getD t []).length (flat (rows.getD t []))) ∧
 ∀ t t',t<rows.length→t'<rows.length→t≠t'→(vs.getD t undef).ownBlock=none∨(vs.getD t undef).ownBlock≠(vs.getD t' undef).ownBlock

def OwnProg (w:World) (B:Nat) (v:Value) (rows:List (List I3)):Prop:=∃ vs,w.ownsRow B 62 1 v rows.length vs∧OwnRows w B vs rows

theorem OwnProg.nil (w:World) (B:Nat):OwnProg w B (.slice none 0 0) []:=⟨[],World.ownsRow_nil _ _ _ _,rfl,fun t ht=>by simp at ht,fun t _ ht=>by simp at ht⟩

theorem OwnRows.below {w w':World} {B:Nat} {vs:List Value} {rows:List (List I3)} (h:OwnRows w B vs rows) (hb:Below w.heap.size w w'):OwnRows w' B vs rows:=⟨h.1,fun t ht=>owns_below (h.2.1 t ht) hb,h.2.2⟩
theorem OwnProg.below {w w':World} {B:Nat} {v:Value} {rows:List (List I3)} (h:OwnProg w B v rows) (hb:Below w.heap.size w w'):OwnProg w' B v rows:=by
 obtain ⟨vs,h1,h2⟩:=h
 exact ⟨vs,owns_below h1 hb,h2.below hb⟩

theorem OwnProg.slice {w:World} {B:Nat} {v:Value} {rows:List (List I3)} (h:OwnProg w B v rows):∃ a cap,v=.slice a rows.length cap:=by
 obtain ⟨vs,h1,_⟩:=h
 rcases h1.2 with ⟨hv,h0⟩ | ⟨g,cap,cur,hv,_⟩
 ·rw [h0];exact ⟨none,0,hv⟩
 ·exact ⟨some ⟨g,0,none⟩,cap,hv⟩

theorem Instrs.of_own {w:World} {B:Nat} {v:Value} {xs:List I3} (h:w.ownsRow B 103 3 v xs.length (flat xs)) (hf:∀ x ∈ xs,I3.fits x):∃ a cap,v=.slice a xs.length cap∧Instrs w a xs.length cap xs:=by
 rcases h.2 with ⟨hv,h0⟩ | ⟨g,cap,cur,hv,_⟩
 ·obtain rfl:xs=[]:=List.eq_nil_of_length_eq_zero h0
  exact ⟨none,0,hv,rfl,Nat.le_refl _,by unfold maxLen;omega,by simp,.inl rfl⟩
 ·subst hv
  exact ⟨_,_,rfl,Instrs.of_owns h rfl hf rfl⟩

theorem OwnProg.codes {w:World} {B:Nat} {a:Option Addr} {len cap:Nat} {rows:List (List I3)} (h:OwnProg w B (.slice a len cap) rows) (hf:∀ r ∈ rows,∀ x ∈ r,I3.fits x):Codes w a len cap rows:=by
 obtain ⟨vs,h1,h2⟩:=h
 have hcellAt:=h1.2
 rcases h1.2 with ⟨hv,h0⟩ | ⟨g,cap',cur,hv,_,hh,hn,hcm,_⟩
 ·cases hv
  obtain rfl:rows=[]:=List.eq_nil_of_length_eq_zero h0
  exact ⟨rfl,Nat.le_refl _,by unfold maxLen;omega,.inl rfl⟩
 ·cases hv
  have hl:=h1.1
  refine ⟨rfl,hn,hcm,.inr ⟨g,0,rfl,(h1.lt g rfl).2,fun t ht=>?_⟩⟩
  have hc:=h1.cellAt t (by omega)
  have hvt:vs[t]?=some (vs.getD t undef):=by simp [List.getD,show t<vs.length by omega]
  rw [hvt] at hc
  obtain ⟨a',cap',hva,hI⟩:=Instrs.of_own (h2.2.1 t ht) (hf _ (by simp [List.getD,ht]))
  rw [hva] at hc
  exact ⟨a',_,cap',by rw [Nat.zero_add];exact hc,hI⟩


def OwnI (w:World) (B:Nat) (s:Sl) (zs:List Int):Prop:=w.ownsRow B 3 1 (.slice s.1 s.2.1 s.2.2) s.2.1 (zs.map (Value.int .i64))
def Apart (s s':Sl):Prop:=∀ g,(Value.slice s.1 s.2.1 s.2.2).ownBlock=some g→(Value.slice s'.1 s'.2.1 s'.2.2).ownBlock≠some g
def OwnV (w:World) (B:Nat) (s:S4) (m:V4):Prop:=
 (OwnI w B s.1 m.1∧OwnI w B s.2.1 m.2.1∧OwnI w B s.2.2.1 m.2.2.1∧OwnI w B s.2.2.2 m.2.2.2) ∧
 Apart s.1 s.2.1∧Apart s.1 s.2.2.1∧Apart s.1 s.2.2.2∧Apart s.2.1 s.2.2.1∧Apart s.2.1 s.2.2.2∧Apart s.2.2.1 s.2.2.2
def V4.fits (m:V4):Prop:=(∀ z ∈ m.1,(Lit.int .i64 z).wf=true)∧(∀ z ∈ m.2.1,(Lit.int .i64 z).wf=true)∧(∀ z ∈ m.2.2.1,(Lit.int .i64 z).wf=true)∧∀ z ∈ m.2.2.2,(Lit.int .i64 z).wf=true
theorem Vmem.fits {w:World} {s:S4} {m:V4} (h:Vmem w s m):V4.fits m:=⟨h.1.2,h.2.1.2,h.2.2.1.2,h.2.2.2.2⟩

theorem OwnI.ints {w:World} {B:Nat} {s:Sl} {zs:List Int} (h:OwnI w B s zs):Ints .i64 w s.1 s.2.1 s.2.2 zs:=by
 obtain ⟨a,n,c⟩:=s
 unfold OwnI at h
 simp only at h ⊢
 rcases h.2 with ⟨h0,h1⟩ | ⟨g,cap,cur,hv,_⟩
 ·cases h0
  have hl:zs.length=0:=by simpa using h.1
  exact ⟨hl,Nat.le_refl _,Nat.zero_le _,.inl rfl⟩
 ·cases hv
  exact Ints.of_owns h
theorem OwnI.below {w w':World} {B:Nat} {s:Sl} {zs:List Int} (h:OwnI w B s zs) (hb:Below w.heap.size w w'):OwnI w' B s zs:=owns_below h hb
theorem OwnV.below {w w':World} {B:Nat} {s:S4} {m:V4} (h:OwnV w B s m) (hb:Below w.heap.size w w'):OwnV w' B s m:=⟨⟨h.1.1.below hb,h.1.2.1.below hb,h.1.2.2.1.below hb,h.1.2.2.2.below hb⟩,h.2⟩
theorem OwnV.mem {w:World} {B:Nat} {s:S4} {m:V4} (h:OwnV w B s m) (hf:V4.fits m):Vmem w s m:=⟨⟨h.1.1.ints,hf.1⟩,⟨h.1.2.1.ints,hf.2.1⟩,⟨h.1.2.2.1.ints,hf.2.2.1⟩,⟨h.1.2.2.2.ints,hf.2.2.2⟩⟩
theorem own_lower {w:World} {B B' e s n:Nat} {v:Value} {cs:List Value} (h:w.ownsRow B e s v n cs) (hB:B'≤B):w.ownsRow B' e s v n cs:=by
 refine ⟨h.1,?_⟩
 rcases h.2 with h0 | ⟨g,cap,cur,hv,hg,rest⟩
 ·exact .inl h0
 ·exact .inr ⟨g,cap,cur,hv,Nat.le_trans hB hg,rest⟩
end Go.Proofs.YtjgffnlmjmibgaaDoor
