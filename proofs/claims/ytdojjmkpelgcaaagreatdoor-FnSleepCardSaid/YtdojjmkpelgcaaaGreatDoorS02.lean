/-
  Joined: Src2, Prog0, Prog2, Prog3, MarkP, Ops.
-/
import Derived.Deep.Slices
import Derived.Deep.Strs
import Derived.Deep.Fields
import Derived.ChangeSame
import Derived.Handy
import Derived.OwnWalk
import Derived.Test.YtdojjmkpelgcaaaGreatDoorS01

namespace Go.Proofs.YtdojjmkpelgcaaaGreatDoor
set_option maxRecDepth 100000
open Go.RowKit

abbrev Went (p:Nat) (w w':World):Prop:=w.grownBy w' (some p)
theorem Stepped.went {p:Nat} {w w':World} (h:Stepped p w w'):Went p w w':=
 ⟨h.1.os,h.1.tape,h.1.output,Nat.le_of_eq h.2.1.symm,fun k _ hk=>h.2.2 k (fun e=>hk (by rw [e]))⟩
theorem Went.trans {p:Nat} {a b c:World} (h:Went p a b) (k:Went p b c):Went p a c:=
 ⟨k.os.trans h.os,k.tape.trans h.tape,k.output.trans h.output,Nat.le_trans h.size k.size,fun i hi hne=>(k.block i (Nat.lt_of_lt_of_le hi h.size) hne).trans (h.block i hi hne)⟩
theorem Went.below {p:Nat} {w w':World} (h:Went p w w') (hp:p≤w.heap.size):Below p w w':=
 (Below.refl _ _).grown h hp (fun k e=>by cases e;exact Nat.le_refl _)
theorem Went.alloc {p:Nat} {w w':World} (h:Went p w w') (o:Obj):Went p w (w'.alloc o):=h.trans (World.grownBy_alloc w' o _)
theorem Went.refl (p:Nat) (w:World):Went p w w:=World.grownBy.refl _ _
theorem Went.grown {p:Nat} {w w' w'':World} {row:Option Nat} (h:Went p w w') (g:w'.grownBy w'' row) (hr:∀ k,row=some k→w.heap.size≤k):Went p w w'':=
 ⟨g.os.trans h.os,g.tape.trans h.tape,g.output.trans h.output,Nat.le_trans h.size g.size,fun i hi hne=>(g.block i (Nat.lt_of_lt_of_le hi h.size) (fun e=>by have:=hr i e.symm;omega)).trans (h.block i hi hne)⟩
theorem Src.grown {p T:Nat} {c:Value} {w w':World} {row:Option Nat} (h:Src w p c T) (g:w.grownBy w' row) (hr:∀ k,row=some k→k≠p):Src w' p c T:=by
 obtain ⟨m,sd,hh,h1,h2⟩:=h
 have hl:p<w.heap.size:=(Array.getElem?_eq_some_iff.1 hh).1
 exact ⟨m,sd,by rw [g.block p hl (fun e=>hr p e.symm rfl)];exact hh,h1,h2⟩
theorem Src.alloc {p T:Nat} {c:Value} {w:World} (h:Src w p c T) (o:Obj):Src (w.alloc o) p c T:=h.grown (World.grownBy_alloc w o none) (fun k e=>by cases e)
theorem Src.lt {p T:Nat} {c:Value} {w:World} (h:Src w p c T):p<w.heap.size:=by
 obtain ⟨m,sd,hh,_⟩:=h
 exact (Array.getElem?_eq_some_iff.1 hh).1
theorem Src.mono {p T T':Nat} {c:Value} {w:World} (h:Src w p c T) (ht:T≤T'):Src w p c T':=by
 obtain ⟨m,sd,hh,h1,h2⟩:=h
 exact ⟨m,sd,hh,Nat.le_trans h1 ht,h2⟩
theorem Code.below {p n cap:Nat} {a:Option Addr} {w w':World} (h:Code w p a n cap) (hb:Below p w w'):Code w' p a n cap:=by
 obtain ⟨zs,⟨h1,h2,h3,h4⟩,h5,h6,h7⟩:=h
 refine ⟨zs,⟨h1,h2,h3,?_⟩,h5,h6,h7⟩
 rcases h4 with h4 | ⟨b,off,ha,hlt,hc⟩
 ·exact .inl h4
 ·rcases Nat.eq_zero_or_pos n with h0 | h0
  ·exact .inl h0
  ·have hbB:=h7 _ ha (by omega)
   exact .inr ⟨b,off,ha,by have:=hb.size;omega,fun t ht=>by rw [hb.cell (p:=⟨b,off+t,none⟩) hbB];exact hc t ht⟩
theorem Code.went {p n cap:Nat} {a:Option Addr} {w w':World} (h:Code w p a n cap) (hw:Went p w w') (hp:p≤w.heap.size):Code w' p a n cap:=h.below (hw.below hp)

set_option maxHeartbeats 1000000 in
theorem next_any (p T:Nat) (a:Option Addr) (n cap:Nat) (k:Int) (w:World) (hS:Src w p (.slice a n cap) T) (hC:Code w p a n cap) (hT:T≤900000) (hk:k≤1000000) :
  Calls Tryz.prog 102 #[.pointer (some ⟨p,0,none⟩),.int .i64 k] w fun e w'=>(∃ v:Nat,((v:Int)<k∨v=0)∧e=.returned (.int .i64 v))∧Src w' p (.slice a n cap) (T+3)∧Went p w w':=by
 have hp:=Nat.le_of_lt hS.lt
 by_cases h1:k≤1
 ·go_enter Tryz.func102,Tryz.ntmps102
  go_wp2
  go_ret
  exact ⟨⟨0,.inr rfl,rfl⟩,hS.mono (by omega),Went.refl _ _⟩
 by_cases h2:k≤256
 ·go_enter Tryz.func102,Tryz.ntmps102
  go_wp2_with fail
  refine (byte_any p T a n cap _ hS hC (by omega)).mono ?_
  rintro e w1 ⟨⟨v,hv,rfl⟩,hS1,hst⟩
  have hW:=hst.went
  have hS3:Src w1 p (.slice a n cap) (T+3):=hS1.mono (by omega)
  clear hst hS1 hS hC
  go_wp2
  go_ret
  exact ⟨⟨((v:Int) % k).toNat,.inl (by have:=Int.emod_lt_of_pos (v:Int) (show 0<k by omega);have:=Int.emod_nonneg (v:Int) (show k≠0 by omega);omega),by rw [Int.toNat_of_nonneg (Int.emod_nonneg _ (by omega))];rfl⟩,hS3,hW⟩
 ·go_enter Tryz.func102,Tryz.ntmps102
  go_wp2_with fail
  refine (byte_any p T a n cap _ hS hC (by omega)).mono ?_
  rintro e w1 ⟨⟨v1,hv1,rfl⟩,hS1,hst1⟩
  have hC1:=hC.went hst1.went hp
  have hp1:=Nat.le_of_lt hS1.lt
  go_wp2_with fail
  refine (byte_any p (T+1) a n cap _ hS1 hC1 (by omega)).mono ?_
  rintro e w2 ⟨⟨v2,hv2,rfl⟩,hS2,hst2⟩
  have hC2:=hC1.went hst2.went hp1
  go_wp2_with fail
  refine (byte_any p (T+1+1) a n cap _ hS2 hC2 (by omega)).mono ?_
  rintro e w3 ⟨⟨v3,hv3,rfl⟩,hS3,hst3⟩
  have hW:=(hst1.went.trans hst2.went).trans hst3.went
  have hS3':Src w3 p (.slice a n cap) (T+3):=hS3.mono (by omega)
  clear hst1 hst2 hst3 hS1 hS2 hS3 hS hC hC1 hC2
  go_wp2
  go_ret
  exact ⟨⟨(((v1:Int)*65536+(v2:Int)*256+(v3:Int)) % k).toNat,.inl (by have:=Int.emod_lt_of_pos ((v1:Int)*65536+(v2:Int)*256+(v3:Int)) (show 0<k by omega);have:=Int.emod_nonneg ((v1:Int)*65536+(v2:Int)*256+(v3:Int)) (show k≠0 by omega);omega),by rw [Int.toNat_of_nonneg (Int.emod_nonneg _ (by omega))];rfl⟩,hS3',hW⟩

theorem l00Source_any (a:Option Addr) (n cap:Nat) (w:World) (hn:n≤1048576) :
  Calls Tryz.prog 48 #[.slice a n cap] w fun e w'=>e=.returned (.pointer (some ⟨w.heap.size,0,none⟩))∧Src w' w.heap.size (.slice a n cap) 0∧Below w.heap.size w w':=by
 go_enter Tryz.func48,Tryz.ntmps48
 go_wp2
 go_ret
 refine ⟨rfl,⟨0,((n:Int) % 1000).toNat,?_,by omega,by omega⟩,(Below.refl _ _).alloc (Nat.le_refl _) _⟩
 rw [Int.toNat_of_nonneg (by omega)]
 exact heap_alloc_new w _
theorem code_of {a:Option Addr} {n cap:Nat} {zs:List Int} {w:World} (h:IsRow .u8 w a n cap zs) (hn:n≤1048576):Code w w.heap.size a n cap:=by
 refine ⟨zs.take n,Ints.of_isRow h,?_,hn,?_⟩
 ·intro z hz
  have hz':=List.mem_of_mem_take hz
  rcases h with ⟨_,_,_,rfl⟩ | ⟨x,_,_,_,_,_,hw⟩
  ·simp at hz'
  ·have:=hw z hz'
   simp [Lit.wf,IntKind.min,IntKind.max,IntKind.signed,IntKind.bits] at this
   omega
 ·intro x hx hn0
  obtain ⟨_,_,_,h4⟩:=Ints.of_isRow h
  rcases h4 with h4 | ⟨b,off,ha,hlt,_⟩
  ·exact absurd h4 hn0
  ·rw [ha] at hx
   cases hx
   exact hlt

open Go.RowKit Go.ChangeShapes Go.WideShapes

theorem bel_trans {a b c:World} (h:Below a.heap.size a b) (k:Below b.heap.size b c):Below a.heap.size a c:=h.trans (k.mono h.size)

abbrev I3:=Int × Int × Int

def I3.fits (x:I3):Prop:=(Lit.int .i64 x.1).wf=true∧(Lit.int .i64 x.2.1).wf=true∧(Lit.int .i64 x.2.2).wf=true

def I3.val (x:I3):Value:=.agg #[.int .i64 x.1,.int .i64 x.2.1,.int .i64 x.2.2]

def Instrs (w:World) (a:Option Addr) (len cap:Nat) (xs:List I3):Prop:=
 xs.length=len∧len≤cap∧cap≤maxLen∧(∀ x ∈ xs,I3.fits x) ∧
 (len=0∨∃ b off,a=some ⟨b,off,none⟩∧b<w.heap.size∧∀ t,t<len →
  w.cell? ⟨b,off+t*3,none⟩=some (.int .i64 (xs.getD t (0,0,0)).1) ∧
  w.cell? ⟨b,off+t*3+1,none⟩=some (.int .i64 (xs.getD t (0,0,0)).2.1) ∧
  w.cell? ⟨b,off+t*3+2,none⟩=some (.int .i64 (xs.getD t (0,0,0)).2.2))

def Codes (w:World) (a:Option Addr) (len cap:Nat) (P:List (List I3)):Prop:=
 P.length=len∧len≤cap∧cap≤maxLen ∧
 (len=0∨∃ b off,a=some ⟨b,off,none⟩∧b<w.heap.size∧∀ t,t<len →
  ∃ a' len' cap',w.cell? ⟨b,off+t,none⟩=some (.slice a' len' cap')∧Instrs w a' len' cap' (P.getD t []))

theorem Instrs.below {w w':World} {a:Option Addr} {len cap:Nat} {xs:List I3} (h:Instrs w a len cap xs) (hb:Below w.heap.size w w'):Instrs w' a len cap xs:=by
 obtain ⟨h1,h2,h3,hf,h4⟩:=h
 refine ⟨h1,h2,h3,hf,?_⟩
 rcases h4 with h4 | ⟨b,off,ha,hlt,hc⟩
 ·exact .inl h4
 ·refine .inr ⟨b,off,ha,by have:=hb.size;omega,fun t ht=>?_⟩
  obtain ⟨c0,c1,c2⟩:=hc t ht
  exact ⟨by rw [hb.cell (p:=⟨b,_,none⟩) hlt];exact c0,by rw [hb.cell (p:=⟨b,_,none⟩) hlt];exact c1,by rw [hb.cell (p:=⟨b,_,none⟩) hlt];exact c2⟩

theorem Codes.below {w w':World} {a:Option Addr} {len cap:Nat} {P:List (List I3)} (h:Codes w a len cap P) (hb:Below w.heap.size w w'):Codes w' a len cap P:=by
 obtain ⟨h1,h2,h3,h4⟩:=h
 refine ⟨h1,h2,h3,?_⟩
 rcases h4 with h4 | ⟨b,off,ha,hlt,hc⟩
 ·exact .inl h4
 ·refine .inr ⟨b,off,ha,by have:=hb.size;omega,fun t ht=>?_⟩
  obtain ⟨a',l',c',hcell,hi⟩:=hc t ht
  exact ⟨a',l',c',by rw [hb.cell (p:=⟨b,_,none⟩) hlt];exact hcell,hi.below hb⟩

section
variable {H : Type} {enc : TypeId × Value → H} {P : Program} {w : World} {base : Nat} {spare : Nat → Bool} {held : Bool}

end


def I3.cells (x:I3):List Value:=[.int .i64 x.1,.int .i64 x.2.1,.int .i64 x.2.2]

def flat (xs:List I3):List Value:=xs.flatMap I3.cells

theorem flat_length (xs:List I3):(flat xs).length=xs.length*3:=by
 induction xs with
 | nil=>rfl
 | cons x xs ih=>simp [flat,I3.cells] at *;omega

theorem flat_take_succ {xs:List I3} {k:Nat} (hk:k<xs.length):flat (xs.take (k+1))=flat (xs.take k)++(xs.getD k (0,0,0)).cells:=by
 unfold flat
 rw [List.take_succ_eq_append_getElem hk,List.flatMap_append]
 simp [List.getD,hk,I3.cells]

theorem Instrs.of_owns {w:World} {base e n cap g:Nat} {cs:List Value} {xs:List I3} (h:w.ownsRow base e 3 (.slice (some ⟨g,0,none⟩) n cap) n cs) (hl:xs.length=n) (hf:∀ x ∈ xs,I3.fits x) (hcs:cs=flat xs) :
  Instrs w (some ⟨g,0,none⟩) n cap xs:=by
 have hcell:∀ t,t<n→∀ j,j<3→w.cell? ⟨g,t*3+j,none⟩=((xs.getD t (0,0,0)).cells)[j]?:=by
  intro t ht j hj
  rw [h.cellAt (t*3+j) (by omega),hcs]
  have hsplit:flat xs=flat (xs.take t)++((xs.getD t (0,0,0)).cells++flat (xs.drop (t+1))):=by
   rw [← List.append_assoc,← flat_take_succ (by omega)]
   unfold flat
   rw [← List.flatMap_append,List.take_append_drop]
  have hlt:(flat (xs.take t)).length=t*3:=by rw [flat_length,List.length_take];rw [Nat.min_eq_left (by omega)]
  rw [hsplit,List.getElem?_append_right (by omega),hlt,Nat.add_sub_cancel_left,List.getElem?_append_left (by simp [I3.cells];omega)]
 have hg:=(h.lt g rfl).2
 rcases h.2 with ⟨h0,_⟩ | ⟨g',cap',cur,hv,_,_,hn,hcap,_,_⟩
 ·cases h0
 ·cases hv
  exact ⟨hl,hn,hcap,hf,.inr ⟨g,0,rfl,hg,fun t ht=>⟨by simpa [I3.cells] using hcell t ht 0 (by omega),by simpa [I3.cells] using hcell t ht 1 (by omega),by simpa [I3.cells] using hcell t ht 2 (by omega)⟩⟩⟩

theorem info_instr:(Tryz.prog.info? 158).map (fun i=>(i.zero,i.size,i.bytes))=some (some (.agg #[.int .i64 0,.int .i64 0,.int .i64 0]),3,24):=by kernel_rfl

theorem owns_below {B e k n:Nat} {v:Value} {xs:List Value} {w w':World} (h:w.ownsRow B e k v n xs) (hb:Below w.heap.size w w'):w'.ownsRow B e k v n xs:=by
 refine ⟨h.1,?_⟩
 rcases h.2 with h0 | ⟨g,cap,cur,hv,hB,hg,rest⟩
 ·exact .inl h0
 ·have hlt:g<w.heap.size:=by
   rcases Nat.lt_or_ge g w.heap.size with h' | h'
   ·exact h'
   ·simp [Array.getElem?_eq_none h'] at hg
  exact .inr ⟨g,cap,cur,hv,hB,by rw [hb.block g hlt];exact hg,rest⟩


theorem cell_setCell_off (w:World) (p:Addr) (u:Value) {q:Addr} (h:q.block≠p.block):(w.setCell p u).cell? q=w.cell? q:=by
 have:=heap_setCell_other w p q.block u h
 unfold World.cell?
 rw [this]

theorem Instrs.setCell {w:World} {g len cap:Nat} {xs:List I3} (h:Instrs w (some ⟨g,0,none⟩) len cap xs) (p:Addr) (u:Value) (hne:g≠p.block):Instrs (w.setCell p u) (some ⟨g,0,none⟩) len cap xs:=by
 obtain ⟨h1,h2,h3,hf,h4⟩:=h
 refine ⟨h1,h2,h3,hf,?_⟩
 rcases h4 with h4 | ⟨b,off,ha,hlt,hc⟩
 ·exact .inl h4
 ·cases ha
  refine .inr ⟨g,0,rfl,by simpa using hlt,fun t ht=>?_⟩
  obtain ⟨c0,c1,c2⟩:=hc t ht
  exact ⟨by rw [cell_setCell_off _ _ _ hne];exact c0,by rw [cell_setCell_off _ _ _ hne];exact c1,by rw [cell_setCell_off _ _ _ hne];exact c2⟩

def RowsTo (w:World) (B k:Nat) (cs:List Value) (rows:List (List I3)):Prop:=
 ∀ t,t<k→∃ g len',cs[t]?=some (.slice (some ⟨g,0,none⟩) len' len')∧B<g∧Instrs w (some ⟨g,0,none⟩) len' len' (rows.getD t [])

theorem RowsTo.below {w w':World} {B k:Nat} {cs:List Value} {rows:List (List I3)} (h:RowsTo w B k cs rows) (hb:Below w.heap.size w w'):RowsTo w' B k cs rows:=fun t ht=>by
 obtain ⟨g,l,hc,hg,hi⟩:=h t ht
 exact ⟨g,l,hc,hg,hi.below hb⟩

theorem RowsTo.put {w:World} {B k:Nat} {cs:List Value} {rows:List (List I3)} (h:RowsTo w B k cs rows) (hk:k<cs.length) {g len':Nat} (hg:B<g) (hi:Instrs w (some ⟨g,0,none⟩) len' len' (rows.getD k [])) :
  RowsTo (w.setCell ⟨B,k,none⟩ (.slice (some ⟨g,0,none⟩) len' len')) B (k+1) (cs.set k (.slice (some ⟨g,0,none⟩) len' len')) rows:=fun t ht=>by
 by_cases htk:t=k
 ·subst htk
  exact ⟨g,len',by simp [hk],hg,hi.setCell _ _ (show g≠B by omega)⟩
 ·obtain ⟨g',l',hc,hg',hi'⟩:=h t (by omega)
  exact ⟨g',l',by rw [List.getElem?_set_ne (by omega)];exact hc,hg',hi'.setCell _ _ (show g'≠B by omega)⟩

theorem info_instrs:(Tryz.prog.info? 87).map (fun i=>(i.zero,i.size,i.bytes))=some (some (.slice none 0 0),1,24):=by kernel_rfl

theorem Codes.of_rows {w:World} {B e len cap:Nat} {cs:List Value} {rows:List (List I3)} (ho:w.ownsRow B e 1 (.slice (some ⟨B,0,none⟩) len cap) len cs) (hl:rows.length=len) (h:RowsTo w B len cs rows) :
  Codes w (some ⟨B,0,none⟩) len cap rows:=by
 have hg:=(ho.lt B rfl).2
 have hcell:=ho.cellAt
 rcases ho.2 with ⟨h0,_⟩ | ⟨g',cap',cur,hv,_,_,hn,hcap,_,_⟩
 ·cases h0
 ·cases hv
  refine ⟨hl,hn,hcap,.inr ⟨B,0,rfl,hg,fun t ht=>?_⟩⟩
  obtain ⟨g,l,hc,_,hi⟩:=h t ht
  exact ⟨_,_,_,by rw [Nat.zero_add,hcell t (by omega)];exact hc,hi⟩

theorem RowsTo.low {w:World} {B k:Nat} {cs:List Value} {rows:List (List I3)} (h:RowsTo w B k cs rows) {p:Addr} (hp:p.block<B) (u:Value):RowsTo (w.setCell p u) B k cs rows:=fun t ht=>by
 obtain ⟨g,l,hc,hg,hi⟩:=h t ht
 exact ⟨g,l,hc,hg,hi.setCell _ _ (by omega)⟩

def OwnCodes (w:World) (B len:Nat) (rows:List (List I3)):Prop:=
 rows.length=len∧∃ cs,w.ownsRow B 87 1 (.slice (some ⟨B,0,none⟩) len len) len cs∧RowsTo w B len cs rows

theorem OwnCodes.codes {w:World} {B len:Nat} {rows:List (List I3)} (h:OwnCodes w B len rows):Codes w (some ⟨B,0,none⟩) len len rows:=by
 obtain ⟨hl,cs,ho,hR⟩:=h
 exact Codes.of_rows ho hl hR

theorem OwnCodes.low {w:World} {B len:Nat} {rows:List (List I3)} (h:OwnCodes w B len rows) {p:Addr} (hp:p.block<B) (u:Value):OwnCodes (w.setCell p u) B len rows:=by
 obtain ⟨hl,cs,ho,hR⟩:=h
 exact ⟨hl,cs,ownsRow_setCell_below ho hp _,hR.low hp u⟩


theorem owns_ne {w:World} {B B' e e' s s' n n':Nat} {v v':Value} {xs xs':List Value} (h:w.ownsRow B e s v n xs) (h':w.ownsRow B' e' s' v' n' xs') (he:e≠e'):v.ownBlock=none∨v.ownBlock≠v'.ownBlock:=by
 rcases h.2 with ⟨rfl,_⟩ | ⟨g,cap,cur,rfl,_,hg,_⟩
 ·exact .inl rfl
 ·rcases h'.2 with ⟨rfl,_⟩ | ⟨g',cap',cur',rfl,_,hg',_⟩
  ·exact .inr (by simp [Value.ownBlock])
  ·refine .inr ?_
   simp only [Value.ownBlock,ne_eq,Option.some.injEq]
   rintro rfl
   rw [hg] at hg'
   simp at hg'
   exact he hg'.2

theorem grownBy_set (w:World) (g j:Nat) (u:Value):w.grownBy (w.setCell ⟨g,j,none⟩ u) (some g):=
 ⟨rfl,rfl,rfl,by simp [World.setCell],fun k _ hk=>Below.heap_setCell _ _ _ _ (fun e=>hk (by rw [e]))⟩
theorem grownBy_tr {a b c:World} {row:Option Nat} (h:a.grownBy b row) (k:b.grownBy c row):a.grownBy c row:=
 ⟨k.os.trans h.os,k.tape.trans h.tape,k.output.trans h.output,Nat.le_trans h.size k.size,fun i hi hne=>(k.block i (by have:=h.size;omega) hne).trans (h.block i hi hne)⟩

def KeptBut (t:TypeId) (w w':World):Prop:=∀ (j:Nat) (cur:Array Value) (e:TypeId) (fz:Nat × Nat),w.heap[j]?=some (Obj.cells cur e fz)→e≠t→w'.heap[j]?=some (Obj.cells cur e fz)
theorem KeptBut.refl (t:TypeId) (w:World):KeptBut t w w:=fun _ _ _ _ h _=>h
theorem KeptBut.trans {t:TypeId} {a b c:World} (h:KeptBut t a b) (k:KeptBut t b c):KeptBut t a c:=fun j cur e fz h0 he=>k j cur e fz (h j cur e fz h0 he) he
def OwnRows (w:World) (B:Nat) (vs:List Value) (rows:List (List I3)):Prop:=
 vs.length=rows.length∧(∀ t,t<rows.length→w.ownsRow B 158 3 (vs.getD t undef) (rows.getD t []).length (flat (rows.getD t []))) ∧
 ∀ t t',t<rows.length→t'<rows.length→t≠t'→(vs.getD t undef).ownBlock=none∨(vs.getD t undef).ownBlock≠(vs.getD t' undef).ownBlock

def OwnProg (w:World) (B:Nat) (v:Value) (rows:List (List I3)):Prop:=∃ vs,w.ownsRow B 87 1 v rows.length vs∧OwnRows w B vs rows

theorem OwnProg.nil (w:World) (B:Nat):OwnProg w B (.slice none 0 0) []:=⟨[],World.ownsRow_nil _ _ _ _,rfl,fun t ht=>by simp at ht,fun t _ ht=>by simp at ht⟩

theorem OwnRows.below {w w':World} {B:Nat} {vs:List Value} {rows:List (List I3)} (h:OwnRows w B vs rows) (hb:Below w.heap.size w w'):OwnRows w' B vs rows:=⟨h.1,fun t ht=>owns_below (h.2.1 t ht) hb,h.2.2⟩
theorem OwnProg.below {w w':World} {B:Nat} {v:Value} {rows:List (List I3)} (h:OwnProg w B v rows) (hb:Below w.heap.size w w'):OwnProg w' B v rows:=by
 obtain ⟨vs,h1,h2⟩:=h
 exact ⟨vs,owns_below h1 hb,h2.below hb⟩

theorem OwnProg.slice {w:World} {B:Nat} {v:Value} {rows:List (List I3)} (h:OwnProg w B v rows):∃ a cap,v=.slice a rows.length cap:=by
 obtain ⟨vs,h1,_⟩:=h
 rcases h1.2 with ⟨hv,h0⟩ | ⟨g,cap,cur,hv,_⟩
 ·rw [h0];exact ⟨none,0,hv⟩
 ·exact ⟨some ⟨g,0,none⟩,cap,hv⟩

theorem Instrs.of_own {w:World} {B:Nat} {v:Value} {xs:List I3} (h:w.ownsRow B 158 3 v xs.length (flat xs)) (hf:∀ x ∈ xs,I3.fits x):∃ a cap,v=.slice a xs.length cap∧Instrs w a xs.length cap xs:=by
 rcases h.2 with ⟨hv,h0⟩ | ⟨g,cap,cur,hv,_⟩
 ·obtain rfl:xs=[]:=List.eq_nil_of_length_eq_zero h0
  exact ⟨none,0,hv,rfl,Nat.le_refl _,by unfold maxLen;omega,by simp,.inl rfl⟩
 ·subst hv
  exact ⟨_,_,rfl,Instrs.of_owns h rfl hf rfl⟩

theorem OwnProg.codes {w:World} {B:Nat} {a:Option Addr} {len cap:Nat} {rows:List (List I3)} (h:OwnProg w B (.slice a len cap) rows) (hf:∀ r ∈ rows,∀ x ∈ r,I3.fits x):Codes w a len cap rows:=by
 obtain ⟨vs,h1,h2⟩:=h
 have hcellAt:=h1.2
 rcases h1.2 with ⟨hv,h0⟩ | ⟨g,cap',cur,hv,_,hh,hn,hcm,_⟩
 ·cases hv
  obtain rfl:rows=[]:=List.eq_nil_of_length_eq_zero h0
  exact ⟨rfl,Nat.le_refl _,by unfold maxLen;omega,.inl rfl⟩
 ·cases hv
  have hl:=h1.1
  refine ⟨rfl,hn,hcm,.inr ⟨g,0,rfl,(h1.lt g rfl).2,fun t ht=>?_⟩⟩
  have hc:=h1.cellAt t (by omega)
  have hvt:vs[t]?=some (vs.getD t undef):=by simp [List.getD,show t<vs.length by omega]
  rw [hvt] at hc
  obtain ⟨a',cap',hva,hI⟩:=Instrs.of_own (h2.2.1 t ht) (hf _ (by simp [List.getD,ht]))
  rw [hva] at hc
  exact ⟨a',_,cap',by rw [Nat.zero_add];exact hc,hI⟩

theorem OwnRows.turn {w w':World} {B:Nat} {vs:List Value} {rows:List (List I3)} {t:Nat} {r:List I3} (h:OwnRows w B vs rows) (ht:t<rows.length) (hl:r.length=(rows.getD t []).length)
  (hr:w'.ownsRow B 158 3 (vs.getD t undef) (rows.getD t []).length (flat r)) (hg:w.grownBy w' (vs.getD t undef).ownBlock):OwnRows w' B vs (rows.set t r):=by
 obtain ⟨h1,h2,h3⟩:=h
 refine ⟨by simpa using h1,fun i hi=>?_,fun i j hi hj=>h3 i j (by simpa using hi) (by simpa using hj)⟩
 have hi':i<rows.length:=by simpa using hi
 by_cases hit:i=t
 ·subst hit
  have e:(rows.set i r).getD i []=r:=by simp [List.getD,ht]
  rw [e,hl]
  exact hr
 ·have e:(rows.set t r).getD i []=rows.getD i []:=by simp [List.getD,List.getElem?_set_ne (Ne.symm hit)]
  rw [e]
  exact (h2 i hi').kept hg (h3 i t hi' ht hit)


def inB (n a b:Int):Bool:=decide (a≤n∧n≤b)

theorem inB_true {n a b:Int}:inB n a b=true↔a≤n∧n≤b:=by simp [inB]
theorem inB_false {n a b:Int}:inB n a b=false↔¬ (a≤n∧n≤b):=by simp only [inB,decide_eq_false_iff_not]

theorem meth_register (v:Value) (w:World):(Go.method 378 258 v "loop.example/g00632/impl.right").run Tryz.prog w=.ok (205,v) w:=by kernel_rfl

set_option maxHeartbeats 1000000 in
theorem right_register (n:Int) (w:World):Calls Tryz.prog 205 #[.int .i64 n] w fun e w'=>e=.returned (.bool (inB n 0 1))∧w=w':=by
 cases h:inB n 0 1
 ·rw [inB_false] at h
  by_cases h1:0≤n
  ·have h2:decide (n<2)=false:=by simp;omega
   clear h
   go_enter Tryz.func205,Tryz.ntmps205
   go_wp2
   go_ret
   exact ⟨rfl,rfl⟩
  ·clear h
   go_enter Tryz.func205,Tryz.ntmps205
   go_wp2
   go_ret
   exact ⟨rfl,rfl⟩
 ·rw [inB_true] at h
  obtain ⟨h1,h3⟩:=h
  have h2:decide (n<2)=true:=by simp;omega
  clear h3
  go_enter Tryz.func205,Tryz.ntmps205
  go_wp2
  go_ret
  exact ⟨by simp_all,rfl⟩

theorem meth_shared (v:Value) (w:World):(Go.method 378 259 v "loop.example/g00632/impl.right").run Tryz.prog w=.ok (206,v) w:=by kernel_rfl

set_option maxHeartbeats 1000000 in
theorem right_shared (n:Int) (w:World):Calls Tryz.prog 206 #[.int .i64 n] w fun e w'=>e=.returned (.bool (inB n 0 3))∧w=w':=by
 cases h:inB n 0 3
 ·rw [inB_false] at h
  by_cases h1:0≤n
  ·have h2:decide (n<4)=false:=by simp;omega
   clear h
   go_enter Tryz.func206,Tryz.ntmps206
   go_wp2
   go_ret
   exact ⟨rfl,rfl⟩
  ·clear h
   go_enter Tryz.func206,Tryz.ntmps206
   go_wp2
   go_ret
   exact ⟨rfl,rfl⟩
 ·rw [inB_true] at h
  obtain ⟨h1,h3⟩:=h
  have h2:decide (n<4)=true:=by simp;omega
  clear h3
  go_enter Tryz.func206,Tryz.ntmps206
  go_wp2
  go_ret
  exact ⟨by simp_all,rfl⟩

theorem meth_lock (v:Value) (w:World):(Go.method 378 261 v "loop.example/g00632/impl.right").run Tryz.prog w=.ok (208,v) w:=by kernel_rfl

set_option maxHeartbeats 1000000 in
theorem right_lock (n:Int) (w:World):Calls Tryz.prog 208 #[.int .i64 n] w fun e w'=>e=.returned (.bool (inB n 0 1))∧w=w':=by
 cases h:inB n 0 1
 ·rw [inB_false] at h
  by_cases h1:0≤n
  ·have h2:decide (n<2)=false:=by simp;omega
   clear h
   go_enter Tryz.func208,Tryz.ntmps208
   go_wp2
   go_ret
   exact ⟨rfl,rfl⟩
  ·clear h
   go_enter Tryz.func208,Tryz.ntmps208
   go_wp2
   go_ret
   exact ⟨rfl,rfl⟩
 ·rw [inB_true] at h
  obtain ⟨h1,h3⟩:=h
  have h2:decide (n<2)=true:=by simp;omega
  clear h3
  go_enter Tryz.func208,Tryz.ntmps208
  go_wp2
  go_ret
  exact ⟨by simp_all,rfl⟩

theorem meth_value (v:Value) (w:World):(Go.method 378 260 v "loop.example/g00632/impl.right").run Tryz.prog w=.ok (207,v) w:=by kernel_rfl

set_option maxHeartbeats 1000000 in
theorem right_value (n:Int) (w:World):Calls Tryz.prog 207 #[.int .i64 n] w fun e w'=>e=.returned (.bool (inB n 0 9))∧w=w':=by
 cases h:inB n 0 9
 ·rw [inB_false] at h
  by_cases h1:0≤n
  ·have h2:decide (n≤9)=false:=by simp;omega
   clear h
   go_enter Tryz.func207,Tryz.ntmps207
   go_wp2
   go_ret
   exact ⟨rfl,rfl⟩
  ·clear h
   go_enter Tryz.func207,Tryz.ntmps207
   go_wp2
   go_ret
   exact ⟨rfl,rfl⟩
 ·rw [inB_true] at h
  obtain ⟨h1,h3⟩:=h
  have h2:decide (n≤9)=true:=by simp;omega
  clear h3
  go_enter Tryz.func207,Tryz.ntmps207
  go_wp2
  go_ret
  exact ⟨by simp_all,rfl⟩

theorem meth_target (v:Value) (w:World):(Go.method 378 254 v "loop.example/g00632/impl.right").run Tryz.prog w=.ok (204,v) w:=by kernel_rfl

set_option maxHeartbeats 1000000 in
theorem right_target (n:Int) (w:World):Calls Tryz.prog 204 #[.int .i64 n] w fun e w'=>e=.returned (.bool (inB n 1 6))∧w=w':=by
 cases h:inB n 1 6
 ·rw [inB_false] at h
  by_cases h1:1≤n
  ·have h2:decide (n≤6)=false:=by simp;omega
   clear h
   go_enter Tryz.func204,Tryz.ntmps204
   go_wp2
   go_ret
   exact ⟨rfl,rfl⟩
  ·clear h
   go_enter Tryz.func204,Tryz.ntmps204
   go_wp2
   go_ret
   exact ⟨rfl,rfl⟩
 ·rw [inB_true] at h
  obtain ⟨h1,h3⟩:=h
  have h2:decide (n≤6)=true:=by simp;omega
  clear h3
  go_enter Tryz.func204,Tryz.ntmps204
  go_wp2
  go_ret
  exact ⟨by simp_all,rfl⟩

theorem meth_no (v:Value) (w:World):(Go.method 378 262 v "loop.example/g00632/impl.right").run Tryz.prog w=.ok (209,v) w:=by kernel_rfl

set_option maxHeartbeats 1000000 in
theorem right_no (n:Int) (w:World):Calls Tryz.prog 209 #[.int .i64 n] w fun e w'=>e=.returned (.bool (inB n 0 0))∧w=w':=by
 go_enter Tryz.func209,Tryz.ntmps209
 go_wp2
 go_ret
 refine ⟨?_,rfl⟩
 cases h:inB n 0 0
 ·rw [inB_false] at h
  have h2:(n == 0)=false:=by simp;omega
  simp [h2]
 ·rw [inB_true] at h
  have h2:(n == 0)=true:=by simp;omega
  simp [h2]

end Go.Proofs.YtdojjmkpelgcaaaGreatDoor
