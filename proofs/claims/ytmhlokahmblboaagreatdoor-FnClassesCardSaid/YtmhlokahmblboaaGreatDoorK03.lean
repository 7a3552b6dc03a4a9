/-
  Joined: Src2, Prog0, Prog2, Prog3, MarkP, Ops.
-/
import Derived.Deep.Slices
import Derived.Deep.Strs
import Derived.Deep.Fields
import Derived.ChangeSame
import Derived.Handy
import Derived.OwnWalk
import Derived.Test.YtmhlokahmblboaaGreatDoorK02

namespace Go.Proofs.YtmhlokahmblboaaGreatDoor
set_option maxRecDepth 100000
set_option maxHeartbeats 16000000
open Go.RowKit

abbrev Yy (p:Nat) (w w':World):Prop:=w.grownBy w' (some p)
theorem Tf.went {p:Nat} {w w':World} (h:Tf p w w'):Yy p w w':=
 ⟨h.1.os,h.1.tape,h.1.output,Nat.le_of_eq h.2.1.symm,fun k _ hk=>h.2.2 k (fun e=>hk (by rw [e]))⟩
theorem Yy.trans {p:Nat} {a b c:World} (h:Yy p a b) (k:Yy p b c):Yy p a c:=
 ⟨k.os.trans h.os,k.tape.trans h.tape,k.output.trans h.output,Nat.le_trans h.size k.size,fun i hi hne=>(k.block i (Nat.lt_of_lt_of_le hi h.size) hne).trans (h.block i hi hne)⟩
theorem Yy.below {p:Nat} {w w':World} (h:Yy p w w') (hp:p≤w.heap.size):Below p w w':=
 (Below.refl _ _).grown h hp (fun k e=>by cases e;exact Nat.le_refl _)
theorem Yy.alloc {p:Nat} {w w':World} (h:Yy p w w') (o:Obj):Yy p w (w'.alloc o):=h.trans (World.grownBy_alloc w' o _)
theorem Yy.refl (p:Nat) (w:World):Yy p w w:=World.grownBy.refl _ _
theorem Yy.grown {p:Nat} {w w' w'':World} {row:Option Nat} (h:Yy p w w') (g:w'.grownBy w'' row) (hr:∀ k,row=some k→w.heap.size≤k):Yy p w w'':=
 ⟨g.os.trans h.os,g.tape.trans h.tape,g.output.trans h.output,Nat.le_trans h.size g.size,fun i hi hne=>(g.block i (Nat.lt_of_lt_of_le hi h.size) (fun e=>by have:=hr i e.symm;omega)).trans (h.block i hi hne)⟩
theorem Src.grown {p T:Nat} {c:Value} {w w':World} {row:Option Nat} (h:Src w p c T) (g:w.grownBy w' row) (hr:∀ k,row=some k→k≠p):Src w' p c T:=by
 obtain ⟨m,sd,hh,h1,h2⟩:=h
 have hl:p<w.heap.size:=(Array.getElem?_eq_some_iff.1 hh).1
 exact ⟨m,sd,by rw [g.block p hl (fun e=>hr p e.symm rfl)];exact hh,h1,h2⟩
theorem Src.alloc {p T:Nat} {c:Value} {w:World} (h:Src w p c T) (o:Obj):Src (w.alloc o) p c T:=h.grown (World.grownBy_alloc w o none) (fun k e=>by cases e)
theorem Src.lt {p T:Nat} {c:Value} {w:World} (h:Src w p c T):p<w.heap.size:=by
 obtain ⟨m,sd,hh,_⟩:=h
 exact (Array.getElem?_eq_some_iff.1 hh).1
theorem Src.mono {p T T':Nat} {c:Value} {w:World} (h:Src w p c T) (ht:T≤T'):Src w p c T':=by
 obtain ⟨m,sd,hh,h1,h2⟩:=h
 exact ⟨m,sd,hh,Nat.le_trans h1 ht,h2⟩
theorem UB.below {p n cap:Nat} {a:Option Addr} {w w':World} (h:UB w p a n cap) (hb:Below p w w'):UB w' p a n cap:=by
 obtain ⟨zs,⟨h1,h2,h3,h4⟩,h5,h6,h7⟩:=h
 refine ⟨zs,⟨h1,h2,h3,?_⟩,h5,h6,h7⟩
 rcases h4 with h4 | ⟨b,off,ha,hlt,hc⟩
 ·exact .inl h4
 rcases Nat.eq_zero_or_pos n with h0 | h0
 ·exact .inl h0
 have hbB:=h7 _ ha (by omega)
 exact .inr ⟨b,off,ha,by have:=hb.size;omega,fun t ht=>by rw [hb.cell (p:=⟨b,off+t,none⟩) hbB];exact hc t ht⟩
theorem UB.went {p n cap:Nat} {a:Option Addr} {w w':World} (h:UB w p a n cap) (hw:Yy p w w') (hp:p≤w.heap.size):UB w' p a n cap:=h.below (hw.below hp)

theorem Yp (p T:Nat) (a:Option Addr) (n cap:Nat) (k:Int) (w:World) (hS:Src w p (.slice a n cap) T) (hC:UB w p a n cap) (hT:T≤900000) (hk:k≤1000000) :
  Calls Tryz.prog 120 #[.pointer (some ⟨p,0,none⟩),.int .i64 k] w fun e w'=>(∃ v:Nat,((v:Int)<k∨v=0)∧e=.returned (.int .i64 v))∧Src w' p (.slice a n cap) (T+3)∧Yy p w w':=by
 have hp:=Nat.le_of_lt hS.lt
 by_cases h1:k≤1
 ·go_enter Tryz.func120,Tryz.ntmps120
  go_wp2
  go_ret
  exact ⟨⟨0,.inr rfl,rfl⟩,hS.mono (by omega),Yy.refl _ _⟩
 by_cases h2:k≤256
 ·go_enter Tryz.func120,Tryz.ntmps120
  go_wp2_with fail
  refine (Tl p T a n cap _ hS hC (by omega)).mono ?_
  rintro e w1 ⟨⟨v,hv,rfl⟩,hS1,hst⟩
  have hW:=hst.went
  have hS3:Src w1 p (.slice a n cap) (T+3):=hS1.mono (by omega)
  clear hst hS1 hS hC
  go_wp2
  go_ret
  exact ⟨⟨((v:Int) % k).toNat,.inl (by have:=Int.emod_lt_of_pos (v:Int) (show 0<k by omega);have:=Int.emod_nonneg (v:Int) (show k≠0 by omega);omega),by rw [Int.toNat_of_nonneg (Int.emod_nonneg _ (by omega))];rfl⟩,hS3,hW⟩
 go_enter Tryz.func120,Tryz.ntmps120
 go_wp2_with fail
 refine (Tl p T a n cap _ hS hC (by omega)).mono ?_
 rintro e w1 ⟨⟨v1,hv1,rfl⟩,hS1,hst1⟩
 have hC1:=hC.went hst1.went hp
 have hp1:=Nat.le_of_lt hS1.lt
 go_wp2_with fail
 refine (Tl p (T+1) a n cap _ hS1 hC1 (by omega)).mono ?_
 rintro e w2 ⟨⟨v2,hv2,rfl⟩,hS2,hst2⟩
 have hC2:=hC1.went hst2.went hp1
 go_wp2_with fail
 refine (Tl p (T+1+1) a n cap _ hS2 hC2 (by omega)).mono ?_
 rintro e w3 ⟨⟨v3,hv3,rfl⟩,hS3,hst3⟩
 have hW:=(hst1.went.trans hst2.went).trans hst3.went
 have hS3':Src w3 p (.slice a n cap) (T+3):=hS3.mono (by omega)
 clear hst1 hst2 hst3 hS1 hS2 hS3 hS hC hC1 hC2
 go_wp2
 go_ret
 exact ⟨⟨(((v1:Int)*65536+(v2:Int)*256+(v3:Int)) % k).toNat,.inl (by have:=Int.emod_lt_of_pos ((v1:Int)*65536+(v2:Int)*256+(v3:Int)) (show 0<k by omega);have:=Int.emod_nonneg ((v1:Int)*65536+(v2:Int)*256+(v3:Int)) (show k≠0 by omega);omega),by rw [Int.toNat_of_nonneg (Int.emod_nonneg _ (by omega))];rfl⟩,hS3',hW⟩

theorem Qr (a:Option Addr) (n cap:Nat) (w:World) (hn:n≤1048576) :
  Calls Tryz.prog 23 #[.slice a n cap] w fun e w'=>e=.returned (.pointer (some ⟨w.heap.size,0,none⟩))∧Src w' w.heap.size (.slice a n cap) 0∧Below w.heap.size w w':=by
 go_enter Tryz.func23,Tryz.ntmps23
 go_wp2
 go_ret
 refine ⟨rfl,⟨0,((n:Int) % 1000).toNat,?_,by omega,by omega⟩,(Below.refl _ _).alloc (Nat.le_refl _) _⟩
 rw [Int.toNat_of_nonneg (by omega)]
 exact heap_alloc_new w _
theorem GR {a:Option Addr} {n cap:Nat} {zs:List Int} {w:World} (h:IsRow .u8 w a n cap zs) (hn:n≤1048576):UB w w.heap.size a n cap:=by
 refine ⟨zs.take n,YS.of_isRow h,?_,hn,?_⟩
 ·intro z hz
  have hz':=List.mem_of_mem_take hz
  rcases h with ⟨_,_,_,rfl⟩ | ⟨x,_,_,_,_,_,hw⟩
  ·simp at hz'
  have:=hw z hz'
  simp [Lit.wf,IntKind.min,IntKind.max,IntKind.signed,IntKind.bits] at this
  omega
 intro x hx hn0
 obtain ⟨_,_,_,h4⟩:=YS.of_isRow h
 rcases h4 with h4 | ⟨b,off,ha,hlt,_⟩
 ·exact absurd h4 hn0
 rw [ha] at hx
 cases hx
 exact hlt

open Go.RowKit Go.ChangeShapes Go.WideShapes

theorem Zb {a b c:World} (h:Below a.heap.size a b) (k:Below b.heap.size b c):Below a.heap.size a c:=h.trans (k.mono h.size)

abbrev I3:=Int × Int × Int

def I3.fits (x:I3):Prop:=(Lit.int .i64 x.1).wf=true∧(Lit.int .i64 x.2.1).wf=true∧(Lit.int .i64 x.2.2).wf=true

def I3.val (x:I3):Value:=.agg #[.int .i64 x.1,.int .i64 x.2.1,.int .i64 x.2.2]

def ZK (w:World) (a:Option Addr) (len cap:Nat) (xs:List I3):Prop:=
 xs.length=len∧len≤cap∧cap≤maxLen∧(∀ x ∈ xs,I3.fits x) ∧
 (len=0∨∃ b off,a=some ⟨b,off,none⟩∧b<w.heap.size∧∀ t,t<len →
  w.cell? ⟨b,off+t*3,none⟩=some (.int .i64 (xs.getD t (0,0,0)).1) ∧
  w.cell? ⟨b,off+t*3+1,none⟩=some (.int .i64 (xs.getD t (0,0,0)).2.1) ∧
  w.cell? ⟨b,off+t*3+2,none⟩=some (.int .i64 (xs.getD t (0,0,0)).2.2))

def XL (w:World) (a:Option Addr) (len cap:Nat) (P:List (List I3)):Prop:=
 P.length=len∧len≤cap∧cap≤maxLen ∧
 (len=0∨∃ b off,a=some ⟨b,off,none⟩∧b<w.heap.size∧∀ t,t<len →
  ∃ a' len' cap',w.cell? ⟨b,off+t,none⟩=some (.slice a' len' cap')∧ZK w a' len' cap' (P.getD t []))

theorem ZK.below {w w':World} {a:Option Addr} {len cap:Nat} {xs:List I3} (h:ZK w a len cap xs) (hb:Below w.heap.size w w'):ZK w' a len cap xs:=by
 obtain ⟨h1,h2,h3,hf,h4⟩:=h
 refine ⟨h1,h2,h3,hf,?_⟩
 rcases h4 with h4 | ⟨b,off,ha,hlt,hc⟩
 ·exact .inl h4
 refine .inr ⟨b,off,ha,by have:=hb.size;omega,fun t ht=>?_⟩
 obtain ⟨c0,c1,c2⟩:=hc t ht
 exact ⟨by rw [hb.cell (p:=⟨b,_,none⟩) hlt];exact c0,by rw [hb.cell (p:=⟨b,_,none⟩) hlt];exact c1,by rw [hb.cell (p:=⟨b,_,none⟩) hlt];exact c2⟩

theorem XL.below {w w':World} {a:Option Addr} {len cap:Nat} {P:List (List I3)} (h:XL w a len cap P) (hb:Below w.heap.size w w'):XL w' a len cap P:=by
 obtain ⟨h1,h2,h3,h4⟩:=h
 refine ⟨h1,h2,h3,?_⟩
 rcases h4 with h4 | ⟨b,off,ha,hlt,hc⟩
 ·exact .inl h4
 refine .inr ⟨b,off,ha,by have:=hb.size;omega,fun t ht=>?_⟩
 obtain ⟨a',l',c',hcell,hi⟩:=hc t ht
 exact ⟨a',l',c',by rw [hb.cell (p:=⟨b,_,none⟩) hlt];exact hcell,hi.below hb⟩

section
variable {H : Type} {enc : TypeId × Value → H} {P : Program} {w : World} {base : Nat} {spare : Nat → Bool} {held : Bool}

end


def I3.cells (x:I3):List Value:=[.int .i64 x.1,.int .i64 x.2.1,.int .i64 x.2.2]

def Zr (xs:List I3):List Value:=xs.flatMap I3.cells

theorem ZD (xs:List I3):(Zr xs).length=xs.length*3:=by
 induction xs with
 | nil=>rfl
 | cons x xs ih=>simp [Zr,I3.cells] at *;omega

theorem VT {xs:List I3} {k:Nat} (hk:k<xs.length):Zr (xs.take (k+1))=Zr (xs.take k)++(xs.getD k (0,0,0)).cells:=by
 unfold Zr
 rw [List.take_succ_eq_append_getElem hk,List.flatMap_append]
 simp [List.getD,hk,I3.cells]

theorem ZK.of_owns {w:World} {base e n cap g:Nat} {cs:List Value} {xs:List I3} (h:w.ownsRow base e 3 (.slice (some ⟨g,0,none⟩) n cap) n cs) (hl:xs.length=n) (hf:∀ x ∈ xs,I3.fits x) (hcs:cs=Zr xs) :
  ZK w (some ⟨g,0,none⟩) n cap xs:=by
 have hcell:∀ t,t<n→∀ j,j<3→w.cell? ⟨g,t*3+j,none⟩=((xs.getD t (0,0,0)).cells)[j]?:=by
  intro t ht j hj
  rw [h.cellAt (t*3+j) (by omega),hcs]
  have hsplit:Zr xs=Zr (xs.take t)++((xs.getD t (0,0,0)).cells++Zr (xs.drop (t+1))):=by
   rw [← List.append_assoc,← VT (by omega)]
   unfold Zr
   rw [← List.flatMap_append,List.take_append_drop]
  have hlt:(Zr (xs.take t)).length=t*3:=by rw [ZD,List.length_take];rw [Nat.min_eq_left (by omega)]
  rw [hsplit,List.getElem?_append_right (by omega),hlt,Nat.add_sub_cancel_left,List.getElem?_append_left (by simp [I3.cells];omega)]
 have hg:=(h.lt g rfl).2
 rcases h.2 with ⟨h0,_⟩ | ⟨g',cap',cur,hv,_,_,hn,hcap,_,_⟩
 ·cases h0
 cases hv
 exact ⟨hl,hn,hcap,hf,.inr ⟨g,0,rfl,hg,fun t ht=>⟨by simpa [I3.cells] using hcell t ht 0 (by omega),by simpa [I3.cells] using hcell t ht 1 (by omega),by simpa [I3.cells] using hcell t ht 2 (by omega)⟩⟩⟩

theorem RG:(Tryz.prog.info? 122).map (fun i=>(i.zero,i.size,i.bytes))=some (some (.agg #[.int .i64 0,.int .i64 0,.int .i64 0]),3,24):=by kernel_rfl

theorem Ze {B e k n:Nat} {v:Value} {xs:List Value} {w w':World} (h:w.ownsRow B e k v n xs) (hb:Below w.heap.size w w'):w'.ownsRow B e k v n xs:=by
 refine ⟨h.1,?_⟩
 rcases h.2 with h0 | ⟨g,cap,cur,hv,hB,hg,rest⟩
 ·exact .inl h0
 have hlt:g<w.heap.size:=by
  rcases Nat.lt_or_ge g w.heap.size with h' | h'
  ·exact h'
  simp [Array.getElem?_eq_none h'] at hg
 exact .inr ⟨g,cap,cur,hv,hB,by rw [hb.block g hlt];exact hg,rest⟩


theorem Nt:(Tryz.prog.info? 62).map (fun i=>(i.zero,i.size,i.bytes))=some (some (.slice none 0 0),1,24):=by kernel_rfl


theorem Yh {w:World} {B B' e e' s s' n n':Nat} {v v':Value} {xs xs':List Value} (h:w.ownsRow B e s v n xs) (h':w.ownsRow B' e' s' v' n' xs') (he:e≠e'):v.ownBlock=none∨v.ownBlock≠v'.ownBlock:=by
 rcases h.2 with ⟨rfl,_⟩ | ⟨g,cap,cur,rfl,_,hg,_⟩
 ·exact .inl rfl
 rcases h'.2 with ⟨rfl,_⟩ | ⟨g',cap',cur',rfl,_,hg',_⟩
 ·exact .inr (by simp [Value.ownBlock])
 refine .inr ?_
 simp only [Value.ownBlock,ne_eq,Option.some.injEq]
 rintro rfl
 rw [hg] at hg'
 simp at hg'
 exact he hg'.2

theorem Zm (w:World) (g j:Nat) (u:Value):w.grownBy (w.setCell ⟨g,j,none⟩ u) (some g):=
 ⟨rfl,rfl,rfl,by simp [World.setCell],fun k _ hk=>Below.heap_setCell _ _ _ _ (fun e=>hk (by rw [e]))⟩
theorem Zx {a b c:World} {row:Option Nat} (h:a.grownBy b row) (k:b.grownBy c row):a.grownBy c row:=
 ⟨k.os.trans h.os,k.tape.trans h.tape,k.output.trans h.output,Nat.le_trans h.size k.size,fun i hi hne=>(k.block i (by have:=h.size;omega) hne).trans (h.block i hi hne)⟩

def XM (w:World) (B:Nat) (vs:List Value) (rows:List (List I3)):Prop:=
 vs.length=rows.length∧(∀ t,t<rows.length→w.ownsRow B 122 3 (vs.getD t undef) (rows.getD t []).length (Zr (rows.getD t []))) ∧
 ∀ t t',t<rows.length→t'<rows.length→t≠t'→(vs.getD t undef).ownBlock=none∨(vs.getD t undef).ownBlock≠(vs.getD t' undef).ownBlock

def YU (w:World) (B:Nat) (v:Value) (rows:List (List I3)):Prop:=∃ vs,w.ownsRow B 62 1 v rows.length vs∧XM w B vs rows

theorem XM.below {w w':World} {B:Nat} {vs:List Value} {rows:List (List I3)} (h:XM w B vs rows) (hb:Below w.heap.size w w'):XM w' B vs rows:=⟨h.1,fun t ht=>Ze (h.2.1 t ht) hb,h.2.2⟩
theorem YU.slice {w:World} {B:Nat} {v:Value} {rows:List (List I3)} (h:YU w B v rows):∃ a cap,v=.slice a rows.length cap:=by
 obtain ⟨vs,h1,_⟩:=h
 rcases h1.2 with ⟨hv,h0⟩ | ⟨g,cap,cur,hv,_⟩
 ·rw [h0];exact ⟨none,0,hv⟩
 exact ⟨some ⟨g,0,none⟩,cap,hv⟩

theorem ZK.of_own {w:World} {B:Nat} {v:Value} {xs:List I3} (h:w.ownsRow B 122 3 v xs.length (Zr xs)) (hf:∀ x ∈ xs,I3.fits x):∃ a cap,v=.slice a xs.length cap∧ZK w a xs.length cap xs:=by
 rcases h.2 with ⟨hv,h0⟩ | ⟨g,cap,cur,hv,_⟩
 ·obtain rfl:xs=[]:=List.eq_nil_of_length_eq_zero h0
  exact ⟨none,0,hv,rfl,Nat.le_refl _,by unfold maxLen;omega,by simp,.inl rfl⟩
 subst hv
 exact ⟨_,_,rfl,ZK.of_owns h rfl hf rfl⟩

theorem YU.codes {w:World} {B:Nat} {a:Option Addr} {len cap:Nat} {rows:List (List I3)} (h:YU w B (.slice a len cap) rows) (hf:∀ r ∈ rows,∀ x ∈ r,I3.fits x):XL w a len cap rows:=by
 obtain ⟨vs,h1,h2⟩:=h
 have hcellAt:=h1.2
 rcases h1.2 with ⟨hv,h0⟩ | ⟨g,cap',cur,hv,_,hh,hn,hcm,_⟩
 ·cases hv
  obtain rfl:rows=[]:=List.eq_nil_of_length_eq_zero h0
  exact ⟨rfl,Nat.le_refl _,by unfold maxLen;omega,.inl rfl⟩
 cases hv
 have hl:=h1.1
 refine ⟨rfl,hn,hcm,.inr ⟨g,0,rfl,(h1.lt g rfl).2,fun t ht=>?_⟩⟩
 have hc:=h1.cellAt t (by omega)
 have hvt:vs[t]?=some (vs.getD t undef):=by simp [List.getD,show t<vs.length by omega]
 rw [hvt] at hc
 obtain ⟨a',cap',hva,hI⟩:=ZK.of_own (h2.2.1 t ht) (hf _ (by simp [List.getD,ht]))
 rw [hva] at hc
 exact ⟨a',_,cap',by rw [Nat.zero_add];exact hc,hI⟩


def inB (n a b:Int):Bool:=decide (a≤n∧n≤b)

theorem ZA {n a b:Int}:inB n a b=true↔a≤n∧n≤b:=by simp [inB]
theorem YE {n a b:Int}:inB n a b=false↔¬ (a≤n∧n≤b):=by simp only [inB,decide_eq_false_iff_not]

theorem Xf (v:Value) (w:World):(Go.method 441 314 v "loop.example/g00632/impl.right").run Tryz.prog w=.ok (278,v) w:=by kernel_rfl

theorem YZ (n:Int) (w:World):Calls Tryz.prog 278 #[.int .i64 n] w fun e w'=>e=.returned (.bool (inB n 0 1))∧w=w':=by
 cases h:inB n 0 1
 ·rw [YE] at h
  by_cases h1:0≤n
  ·have h2:decide (n<2)=false:=by simp;omega
   clear h
   go_enter Tryz.func278,Tryz.ntmps278
   go_wp2
   go_ret
   exact ⟨rfl,rfl⟩
  clear h
  go_enter Tryz.func278,Tryz.ntmps278
  go_wp2
  go_ret
  exact ⟨rfl,rfl⟩
 rw [ZA] at h
 obtain ⟨h1,h3⟩:=h
 have h2:decide (n<2)=true:=by simp;omega
 clear h3
 go_enter Tryz.func278,Tryz.ntmps278
 go_wp2
 go_ret
 exact ⟨by simp_all,rfl⟩

theorem SH (v:Value) (w:World):(Go.method 441 315 v "loop.example/g00632/impl.right").run Tryz.prog w=.ok (279,v) w:=by kernel_rfl

theorem TO (n:Int) (w:World):Calls Tryz.prog 279 #[.int .i64 n] w fun e w'=>e=.returned (.bool (inB n 0 3))∧w=w':=by
 cases h:inB n 0 3
 ·rw [YE] at h
  by_cases h1:0≤n
  ·have h2:decide (n<4)=false:=by simp;omega
   clear h
   go_enter Tryz.func279,Tryz.ntmps279
   go_wp2
   go_ret
   exact ⟨rfl,rfl⟩
  clear h
  go_enter Tryz.func279,Tryz.ntmps279
  go_wp2
  go_ret
  exact ⟨rfl,rfl⟩
 rw [ZA] at h
 obtain ⟨h1,h3⟩:=h
 have h2:decide (n<4)=true:=by simp;omega
 clear h3
 go_enter Tryz.func279,Tryz.ntmps279
 go_wp2
 go_ret
 exact ⟨by simp_all,rfl⟩

theorem QS (v:Value) (w:World):(Go.method 441 317 v "loop.example/g00632/impl.right").run Tryz.prog w=.ok (281,v) w:=by kernel_rfl

theorem R4 (n:Int) (w:World):Calls Tryz.prog 281 #[.int .i64 n] w fun e w'=>e=.returned (.bool (inB n 0 1))∧w=w':=by
 cases h:inB n 0 1
 ·rw [YE] at h
  by_cases h1:0≤n
  ·have h2:decide (n<2)=false:=by simp;omega
   clear h
   go_enter Tryz.func281,Tryz.ntmps281
   go_wp2
   go_ret
   exact ⟨rfl,rfl⟩
  clear h
  go_enter Tryz.func281,Tryz.ntmps281
  go_wp2
  go_ret
  exact ⟨rfl,rfl⟩
 rw [ZA] at h
 obtain ⟨h1,h3⟩:=h
 have h2:decide (n<2)=true:=by simp;omega
 clear h3
 go_enter Tryz.func281,Tryz.ntmps281
 go_wp2
 go_ret
 exact ⟨by simp_all,rfl⟩

theorem US (v:Value) (w:World):(Go.method 441 316 v "loop.example/g00632/impl.right").run Tryz.prog w=.ok (280,v) w:=by kernel_rfl

theorem Ud (n:Int) (w:World):Calls Tryz.prog 280 #[.int .i64 n] w fun e w'=>e=.returned (.bool (inB n 0 9))∧w=w':=by
 cases h:inB n 0 9
 ·rw [YE] at h
  by_cases h1:0≤n
  ·have h2:decide (n≤9)=false:=by simp;omega
   clear h
   go_enter Tryz.func280,Tryz.ntmps280
   go_wp2
   go_ret
   exact ⟨rfl,rfl⟩
  clear h
  go_enter Tryz.func280,Tryz.ntmps280
  go_wp2
  go_ret
  exact ⟨rfl,rfl⟩
 rw [ZA] at h
 obtain ⟨h1,h3⟩:=h
 have h2:decide (n≤9)=true:=by simp;omega
 clear h3
 go_enter Tryz.func280,Tryz.ntmps280
 go_wp2
 go_ret
 exact ⟨by simp_all,rfl⟩

theorem NN (v:Value) (w:World):(Go.method 441 306 v "loop.example/g00632/impl.right").run Tryz.prog w=.ok (277,v) w:=by kernel_rfl

theorem PS (n:Int) (w:World):Calls Tryz.prog 277 #[.int .i64 n] w fun e w'=>e=.returned (.bool (inB n 1 6))∧w=w':=by
 cases h:inB n 1 6
 ·rw [YE] at h
  by_cases h1:1≤n
  ·have h2:decide (n≤6)=false:=by simp;omega
   clear h
   go_enter Tryz.func277,Tryz.ntmps277
   go_wp2
   go_ret
   exact ⟨rfl,rfl⟩
  clear h
  go_enter Tryz.func277,Tryz.ntmps277
  go_wp2
  go_ret
  exact ⟨rfl,rfl⟩
 rw [ZA] at h
 obtain ⟨h1,h3⟩:=h
 have h2:decide (n≤6)=true:=by simp;omega
 clear h3
 go_enter Tryz.func277,Tryz.ntmps277
 go_wp2
 go_ret
 exact ⟨by simp_all,rfl⟩

theorem Lo (v:Value) (w:World):(Go.method 441 318 v "loop.example/g00632/impl.right").run Tryz.prog w=.ok (282,v) w:=by kernel_rfl

theorem N4 (n:Int) (w:World):Calls Tryz.prog 282 #[.int .i64 n] w fun e w'=>e=.returned (.bool (inB n 0 0))∧w=w':=by
 go_enter Tryz.func282,Tryz.ntmps282
 go_wp2
 go_ret
 refine ⟨?_,rfl⟩
 cases h:inB n 0 0
 ·rw [YE] at h
  have h2:(n == 0)=false:=by simp;omega
  simp [h2]
 rw [ZA] at h
 have h2:(n == 0)=true:=by simp;omega
 simp [h2]

end Go.Proofs.YtmhlokahmblboaaGreatDoor
