/-
  Joined: Prog2, Prog3, MarkP, Vm2.
-/
import Derived.Handy
import Derived.OwnWalk
import Derived.Test.YtifoggpohlegmaaGreatDoorA01

namespace Go.Proofs.YtifoggpohlegmaaGreatDoor
set_option maxRecDepth 100000
set_option maxHeartbeats 16000000
open Go.RowKit

def I3.cells (x:I3):List Value:=[.int .i64 x.1,.int .i64 x.2.1,.int .i64 x.2.2]

def flat (xs:List I3):List Value:=xs.flatMap I3.cells

theorem flat_length (xs:List I3):(flat xs).length=xs.length*3:=by
 induction xs with
 | nil=>rfl
 | cons x xs ih=>simp [flat,I3.cells] at *;omega

theorem flat_take_succ {xs:List I3} {k:Nat} (hk:k<xs.length):flat (xs.take (k+1))=flat (xs.take k)++(xs.getD k (0,0,0)).cells:=by
 unfold flat
 rw [List.take_succ_eq_append_getElem hk,List.flatMap_append]
 simp [List.getD,hk,I3.cells]

theorem Instrs.of_owns {w:World} {base e n cap g:Nat} {cs:List Value} {xs:List I3} (h:w.ownsRow base e 3 (.slice (some ⟨g,0,none⟩) n cap) n cs) (hl:xs.length=n) (hf:∀ x ∈ xs,I3.fits x) (hcs:cs=flat xs) :
  Instrs w (some ⟨g,0,none⟩) n cap xs:=by
 have hcell:∀ t,t<n→∀ j,j<3→w.cell? ⟨g,t*3+j,none⟩=((xs.getD t (0,0,0)).cells)[j]?:=by
  intro t ht j hj
  rw [h.cellAt (t*3+j) (by omega),hcs]
  have hsplit:flat xs=flat (xs.take t)++((xs.getD t (0,0,0)).cells++flat (xs.drop (t+1))):=by
   rw [← List.append_assoc,← flat_take_succ (by omega)]
   unfold flat
   rw [← List.flatMap_append,List.take_append_drop]
  have hlt:(flat (xs.take t)).length=t*3:=by rw [flat_length,List.length_take];rw [Nat.min_eq_left (by omega)]
  rw [hsplit,List.getElem?_append_right (by omega),hlt,Nat.add_sub_cancel_left,List.getElem?_append_left (by simp [I3.cells];omega)]
 have hg:=(h.lt g rfl).2
 rcases h.2 with ⟨h0,_⟩ | ⟨g',cap',cur,hv,_,_,hn,hcap,_,_⟩
 ·cases h0
 ·cases hv
  exact ⟨hl,hn,hcap,hf,.inr ⟨g,0,rfl,hg,fun t ht=>⟨by simpa [I3.cells] using hcell t ht 0 (by omega),by simpa [I3.cells] using hcell t ht 1 (by omega),by simpa [I3.cells] using hcell t ht 2 (by omega)⟩⟩⟩

theorem info_instr:(Tryz.prog.info? 159).map (fun i=>(i.zero,i.size,i.bytes))=some (some (.agg #[.int .i64 0,.int .i64 0,.int .i64 0]),3,24):=by kernel_rfl

theorem owns_below {B e k n:Nat} {v:Value} {xs:List Value} {w w':World} (h:w.ownsRow B e k v n xs) (hb:Below w.heap.size w w'):w'.ownsRow B e k v n xs:=by
 refine ⟨h.1,?_⟩
 rcases h.2 with h0 | ⟨g,cap,cur,hv,hB,hg,rest⟩
 ·exact .inl h0
 ·have hlt:g<w.heap.size:=by
   rcases Nat.lt_or_ge g w.heap.size with h' | h'
   ·exact h'
   ·simp [Array.getElem?_eq_none h'] at hg
  exact .inr ⟨g,cap,cur,hv,hB,by rw [hb.block g hlt];exact hg,rest⟩


theorem cell_setCell_off (w:World) (p:Addr) (u:Value) {q:Addr} (h:q.block≠p.block):(w.setCell p u).cell? q=w.cell? q:=by
 have:=heap_setCell_other w p q.block u h
 unfold World.cell?
 rw [this]

theorem Instrs.setCell {w:World} {g len cap:Nat} {xs:List I3} (h:Instrs w (some ⟨g,0,none⟩) len cap xs) (p:Addr) (u:Value) (hne:g≠p.block):Instrs (w.setCell p u) (some ⟨g,0,none⟩) len cap xs:=by
 obtain ⟨h1,h2,h3,hf,h4⟩:=h
 refine ⟨h1,h2,h3,hf,?_⟩
 rcases h4 with h4 | ⟨b,off,ha,hlt,hc⟩
 ·exact .inl h4
 ·cases ha
  refine .inr ⟨g,0,rfl,by simpa using hlt,fun t ht=>?_⟩
  obtain ⟨c0,c1,c2⟩:=hc t ht
  exact ⟨by rw [cell_setCell_off _ _ _ hne];exact c0,by rw [cell_setCell_off _ _ _ hne];exact c1,by rw [cell_setCell_off _ _ _ hne];exact c2⟩

def RowsTo (w:World) (B k:Nat) (cs:List Value) (rows:List (List I3)):Prop:=
 ∀ t,t<k→∃ g len',cs[t]?=some (.slice (some ⟨g,0,none⟩) len' len')∧B<g∧Instrs w (some ⟨g,0,none⟩) len' len' (rows.getD t [])

theorem RowsTo.below {w w':World} {B k:Nat} {cs:List Value} {rows:List (List I3)} (h:RowsTo w B k cs rows) (hb:Below w.heap.size w w'):RowsTo w' B k cs rows:=fun t ht=>by
 obtain ⟨g,l,hc,hg,hi⟩:=h t ht
 exact ⟨g,l,hc,hg,hi.below hb⟩

theorem RowsTo.put {w:World} {B k:Nat} {cs:List Value} {rows:List (List I3)} (h:RowsTo w B k cs rows) (hk:k<cs.length) {g len':Nat} (hg:B<g) (hi:Instrs w (some ⟨g,0,none⟩) len' len' (rows.getD k [])) :
  RowsTo (w.setCell ⟨B,k,none⟩ (.slice (some ⟨g,0,none⟩) len' len')) B (k+1) (cs.set k (.slice (some ⟨g,0,none⟩) len' len')) rows:=fun t ht=>by
 by_cases htk:t=k
 ·subst htk
  exact ⟨g,len',by simp [hk],hg,hi.setCell _ _ (show g≠B by omega)⟩
 ·obtain ⟨g',l',hc,hg',hi'⟩:=h t (by omega)
  exact ⟨g',l',by rw [List.getElem?_set_ne (by omega)];exact hc,hg',hi'.setCell _ _ (show g'≠B by omega)⟩

theorem info_instrs:(Tryz.prog.info? 82).map (fun i=>(i.zero,i.size,i.bytes))=some (some (.slice none 0 0),1,24):=by kernel_rfl

theorem Codes.of_rows {w:World} {B e len cap:Nat} {cs:List Value} {rows:List (List I3)} (ho:w.ownsRow B e 1 (.slice (some ⟨B,0,none⟩) len cap) len cs) (hl:rows.length=len) (h:RowsTo w B len cs rows) :
  Codes w (some ⟨B,0,none⟩) len cap rows:=by
 have hg:=(ho.lt B rfl).2
 have hcell:=ho.cellAt
 rcases ho.2 with ⟨h0,_⟩ | ⟨g',cap',cur,hv,_,_,hn,hcap,_,_⟩
 ·cases h0
 ·cases hv
  refine ⟨hl,hn,hcap,.inr ⟨B,0,rfl,hg,fun t ht=>?_⟩⟩
  obtain ⟨g,l,hc,_,hi⟩:=h t ht
  exact ⟨_,_,_,by rw [Nat.zero_add,hcell t (by omega)];exact hc,hi⟩

theorem RowsTo.low {w:World} {B k:Nat} {cs:List Value} {rows:List (List I3)} (h:RowsTo w B k cs rows) {p:Addr} (hp:p.block<B) (u:Value):RowsTo (w.setCell p u) B k cs rows:=fun t ht=>by
 obtain ⟨g,l,hc,hg,hi⟩:=h t ht
 exact ⟨g,l,hc,hg,hi.setCell _ _ (by omega)⟩

def OwnCodes (w:World) (B len:Nat) (rows:List (List I3)):Prop:=
 rows.length=len∧∃ cs,w.ownsRow B 82 1 (.slice (some ⟨B,0,none⟩) len len) len cs∧RowsTo w B len cs rows

theorem OwnCodes.codes {w:World} {B len:Nat} {rows:List (List I3)} (h:OwnCodes w B len rows):Codes w (some ⟨B,0,none⟩) len len rows:=by
 obtain ⟨hl,cs,ho,hR⟩:=h
 exact Codes.of_rows ho hl hR

theorem OwnCodes.low {w:World} {B len:Nat} {rows:List (List I3)} (h:OwnCodes w B len rows) {p:Addr} (hp:p.block<B) (u:Value):OwnCodes (w.setCell p u) B len rows:=by
 obtain ⟨hl,cs,ho,hR⟩:=h
 exact ⟨hl,cs,ownsRow_setCell_below ho hp _,hR.low hp u⟩


theorem owns_ne {w:World} {B B' e e' s s' n n':Nat} {v v':Value} {xs xs':List Value} (h:w.ownsRow B e s v n xs) (h':w.ownsRow B' e' s' v' n' xs') (he:e≠e'):v.ownBlock=none∨v.ownBlock≠v'.ownBlock:=by
 rcases h.2 with ⟨rfl,_⟩ | ⟨g,cap,cur,rfl,_,hg,_⟩
 ·exact .inl rfl
 ·rcases h'.2 with ⟨rfl,_⟩ | ⟨g',cap',cur',rfl,_,hg',_⟩
  ·exact .inr (by simp [Value.ownBlock])
  ·refine .inr ?_
   simp only [Value.ownBlock,ne_eq,Option.some.injEq]
   rintro rfl
   rw [hg] at hg'
   simp at hg'
   exact he hg'.2

theorem grownBy_set (w:World) (g j:Nat) (u:Value):w.grownBy (w.setCell ⟨g,j,none⟩ u) (some g):=
 ⟨rfl,rfl,rfl,by simp [World.setCell],fun k _ hk=>Below.heap_setCell _ _ _ _ (fun e=>hk (by rw [e]))⟩
theorem grownBy_tr {a b c:World} {row:Option Nat} (h:a.grownBy b row) (k:b.grownBy c row):a.grownBy c row:=
 ⟨k.os.trans h.os,k.tape.trans h.tape,k.output.trans h.output,Nat.le_trans h.size k.size,fun i hi hne=>(k.block i (by have:=h.size;omega) hne).trans (h.block i hi hne)⟩

def KeptBut (t:TypeId) (w w':World):Prop:=∀ (j:Nat) (cur:Array Value) (e:TypeId) (fz:Nat × Nat),w.heap[j]?=some (Obj.cells cur e fz)→e≠t→w'.heap[j]?=some (Obj.cells cur e fz)
theorem KeptBut.refl (t:TypeId) (w:World):KeptBut t w w:=fun _ _ _ _ h _=>h
theorem KeptBut.trans {t:TypeId} {a b c:World} (h:KeptBut t a b) (k:KeptBut t b c):KeptBut t a c:=fun j cur e fz h0 he=>k j cur e fz (h j cur e fz h0 he) he
def OwnRows (w:World) (B:Nat) (vs:List Value) (rows:List (List I3)):Prop:=
 vs.length=rows.length∧(∀ t,t<rows.length→w.ownsRow B 159 3 (vs.getD t undef) (rows.getD t []).length (flat (rows.getD t []))) ∧
 ∀ t t',t<rows.length→t'<rows.length→t≠t'→(vs.getD t undef).ownBlock=none∨(vs.getD t undef).ownBlock≠(vs.getD t' undef).ownBlock

def OwnProg (w:World) (B:Nat) (v:Value) (rows:List (List I3)):Prop:=∃ vs,w.ownsRow B 82 1 v rows.length vs∧OwnRows w B vs rows

theorem OwnProg.nil (w:World) (B:Nat):OwnProg w B (.slice none 0 0) []:=⟨[],World.ownsRow_nil _ _ _ _,rfl,fun t ht=>by simp at ht,fun t _ ht=>by simp at ht⟩

theorem OwnRows.below {w w':World} {B:Nat} {vs:List Value} {rows:List (List I3)} (h:OwnRows w B vs rows) (hb:Below w.heap.size w w'):OwnRows w' B vs rows:=⟨h.1,fun t ht=>owns_below (h.2.1 t ht) hb,h.2.2⟩
theorem OwnProg.below {w w':World} {B:Nat} {v:Value} {rows:List (List I3)} (h:OwnProg w B v rows) (hb:Below w.heap.size w w'):OwnProg w' B v rows:=by
 obtain ⟨vs,h1,h2⟩:=h
 exact ⟨vs,owns_below h1 hb,h2.below hb⟩

theorem OwnProg.slice {w:World} {B:Nat} {v:Value} {rows:List (List I3)} (h:OwnProg w B v rows):∃ a cap,v=.slice a rows.length cap:=by
 obtain ⟨vs,h1,_⟩:=h
 rcases h1.2 with ⟨hv,h0⟩ | ⟨g,cap,cur,hv,_⟩
 ·rw [h0];exact ⟨none,0,hv⟩
 ·exact ⟨some ⟨g,0,none⟩,cap,hv⟩

theorem Instrs.of_own {w:World} {B:Nat} {v:Value} {xs:List I3} (h:w.ownsRow B 159 3 v xs.length (flat xs)) (hf:∀ x ∈ xs,I3.fits x):∃ a cap,v=.slice a xs.length cap∧Instrs w a xs.length cap xs:=by
 rcases h.2 with ⟨hv,h0⟩ | ⟨g,cap,cur,hv,_⟩
 ·obtain rfl:xs=[]:=List.eq_nil_of_length_eq_zero h0
  exact ⟨none,0,hv,rfl,Nat.le_refl _,by unfold maxLen;omega,by simp,.inl rfl⟩
 ·subst hv
  exact ⟨_,_,rfl,Instrs.of_owns h rfl hf rfl⟩

theorem OwnProg.codes {w:World} {B:Nat} {a:Option Addr} {len cap:Nat} {rows:List (List I3)} (h:OwnProg w B (.slice a len cap) rows) (hf:∀ r ∈ rows,∀ x ∈ r,I3.fits x):Codes w a len cap rows:=by
 obtain ⟨vs,h1,h2⟩:=h
 have hcellAt:=h1.2
 rcases h1.2 with ⟨hv,h0⟩ | ⟨g,cap',cur,hv,_,hh,hn,hcm,_⟩
 ·cases hv
  obtain rfl:rows=[]:=List.eq_nil_of_length_eq_zero h0
  exact ⟨rfl,Nat.le_refl _,by unfold maxLen;omega,.inl rfl⟩
 ·cases hv
  have hl:=h1.1
  refine ⟨rfl,hn,hcm,.inr ⟨g,0,rfl,(h1.lt g rfl).2,fun t ht=>?_⟩⟩
  have hc:=h1.cellAt t (by omega)
  have hvt:vs[t]?=some (vs.getD t undef):=by simp [List.getD,show t<vs.length by omega]
  rw [hvt] at hc
  obtain ⟨a',cap',hva,hI⟩:=Instrs.of_own (h2.2.1 t ht) (hf _ (by simp [List.getD,ht]))
  rw [hva] at hc
  exact ⟨a',_,cap',by rw [Nat.zero_add];exact hc,hI⟩

theorem OwnRows.turn {w w':World} {B:Nat} {vs:List Value} {rows:List (List I3)} {t:Nat} {r:List I3} (h:OwnRows w B vs rows) (ht:t<rows.length) (hl:r.length=(rows.getD t []).length)
  (hr:w'.ownsRow B 159 3 (vs.getD t undef) (rows.getD t []).length (flat r)) (hg:w.grownBy w' (vs.getD t undef).ownBlock):OwnRows w' B vs (rows.set t r):=by
 obtain ⟨h1,h2,h3⟩:=h
 refine ⟨by simpa using h1,fun i hi=>?_,fun i j hi hj=>h3 i j (by simpa using hi) (by simpa using hj)⟩
 have hi':i<rows.length:=by simpa using hi
 by_cases hit:i=t
 ·subst hit
  have e:(rows.set i r).getD i []=r:=by simp [List.getD,ht]
  rw [e,hl]
  exact hr
 ·have e:(rows.set t r).getD i []=rows.getD i []:=by simp [List.getD,List.getElem?_set_ne (Ne.symm hit)]
  rw [e]
  exact (h2 i hi').kept hg (h3 i t hi' ht hit)


def OwnI (w:World) (B:Nat) (s:Sl) (zs:List Int):Prop:=w.ownsRow B 3 1 (.slice s.1 s.2.1 s.2.2) s.2.1 (zs.map (Value.int .i64))
def Apart (s s':Sl):Prop:=∀ g,(Value.slice s.1 s.2.1 s.2.2).ownBlock=some g→(Value.slice s'.1 s'.2.1 s'.2.2).ownBlock≠some g
def OwnV (w:World) (B:Nat) (s:S4) (m:V4):Prop:=
 (OwnI w B s.1 m.1∧OwnI w B s.2.1 m.2.1∧OwnI w B s.2.2.1 m.2.2.1∧OwnI w B s.2.2.2 m.2.2.2) ∧
 Apart s.1 s.2.1∧Apart s.1 s.2.2.1∧Apart s.1 s.2.2.2∧Apart s.2.1 s.2.2.1∧Apart s.2.1 s.2.2.2∧Apart s.2.2.1 s.2.2.2
def V4.fits (m:V4):Prop:=(∀ z ∈ m.1,(Lit.int .i64 z).wf=true)∧(∀ z ∈ m.2.1,(Lit.int .i64 z).wf=true)∧(∀ z ∈ m.2.2.1,(Lit.int .i64 z).wf=true)∧∀ z ∈ m.2.2.2,(Lit.int .i64 z).wf=true
theorem OwnI.ints {w:World} {B:Nat} {s:Sl} {zs:List Int} (h:OwnI w B s zs):Ints .i64 w s.1 s.2.1 s.2.2 zs:=by
 obtain ⟨a,n,c⟩:=s
 unfold OwnI at h
 simp only at h ⊢
 rcases h.2 with ⟨h0,h1⟩ | ⟨g,cap,cur,hv,_⟩
 ·cases h0
  have hl:zs.length=0:=by simpa using h.1
  exact ⟨hl,Nat.le_refl _,Nat.zero_le _,.inl rfl⟩
 ·cases hv
  exact Ints.of_owns h
theorem OwnI.below {w w':World} {B:Nat} {s:Sl} {zs:List Int} (h:OwnI w B s zs) (hb:Below w.heap.size w w'):OwnI w' B s zs:=owns_below h hb
theorem OwnV.below {w w':World} {B:Nat} {s:S4} {m:V4} (h:OwnV w B s m) (hb:Below w.heap.size w w'):OwnV w' B s m:=⟨⟨h.1.1.below hb,h.1.2.1.below hb,h.1.2.2.1.below hb,h.1.2.2.2.below hb⟩,h.2⟩
theorem OwnV.mem {w:World} {B:Nat} {s:S4} {m:V4} (h:OwnV w B s m) (hf:V4.fits m):Vmem w s m:=⟨⟨h.1.1.ints,hf.1⟩,⟨h.1.2.1.ints,hf.2.1⟩,⟨h.1.2.2.1.ints,hf.2.2.1⟩,⟨h.1.2.2.2.ints,hf.2.2.2⟩⟩
theorem own_lower {w:World} {B B' e s n:Nat} {v:Value} {cs:List Value} (h:w.ownsRow B e s v n cs) (hB:B'≤B):w.ownsRow B' e s v n cs:=by
 refine ⟨h.1,?_⟩
 rcases h.2 with h0 | ⟨g,cap,cur,hv,hg,rest⟩
 ·exact .inl h0
 ·exact .inr ⟨g,cap,cur,hv,Nat.le_trans hB hg,rest⟩
theorem box4 (w:World) (x y z u:Value) (t B:Nat) (hB:B≤w.heap.size):(w.alloc (.cells #[x,y,z,u] t)).ownsRow B t 4 (.slice (some ⟨w.heap.size,0,none⟩) 1 1) 1 [x,y,z,u]:=World.ownsRow_lit w #[x,y,z,u] 1 hB (by unfold maxLen;omega) rfl

end Go.Proofs.YtifoggpohlegmaaGreatDoor
