/-
  Joined: Ent0, EqInts, Vm1, Ints, Vm2.
-/
import Derived.Test.YtnffeclgboomoaaGreatDoorT03

namespace Go.Proofs.YtnffeclgboomoaaGreatDoor
set_option maxRecDepth 100000
set_option maxHeartbeats 16000000
open Go.RowKit Go.ChangeShapes Go.WideShapes Go.Joins
set_option linter.unusedVariables false
set_option linter.unusedSimpArgs false

abbrev E3:=ByteArray × List I3 × List Int
abbrev Sl2:=Sl × Sl
def ZR (k:ByteArray) (s:Sl2):Value:=.agg #[.string k,.slice s.1.1 s.1.2.1 s.1.2.2,.slice s.2.1 s.2.2.1 s.2.2.2]
def Ya (k:ByteArray) (s:Sl2):List Value:=[.string k,.slice s.1.1 s.1.2.1 s.1.2.2,.slice s.2.1 s.2.2.1 s.2.2.2]
def FN (s:Sl2):Prop:=(s.1.1=none→s.1.2.2=0)∧(s.2.1=none→s.2.2.2=0)
def Z1 (w:World) (s:Sl2) (e:E3):Prop:=(e.1.size≤maxLen∧FN s)∧Zl w s.1.1 s.1.2.1 s.1.2.2 e.2.1∧Vo w s.2 e.2.2
theorem Z1.below {w w':World} {s:Sl2} {e:E3} (h:Z1 w s e) (hb:Below w.heap.size w w'):Z1 w' s e:=⟨h.1,h.2.1.below hb,h.2.2.below hb⟩
def e3d:E3:=(ByteArray.empty,[],[])
def Yo (w:World) (a:Option Addr) (len cap:Nat) (es:List E3):Prop:=
 es.length=len∧len≤cap∧cap≤maxLen∧(len=0∨∃ b off,a=some ⟨b,off,none⟩∧b<w.heap.size∧∀ t,t<len →
  ∃ s:Sl2,w.cell? ⟨b,off+t*3,none⟩=some (.string (es.getD t e3d).1)∧w.cell? ⟨b,off+t*3+1,none⟩=some (.slice s.1.1 s.1.2.1 s.1.2.2)∧w.cell? ⟨b,off+t*3+2,none⟩=some (.slice s.2.1 s.2.2.1 s.2.2.2)∧Z1 w s (es.getD t e3d))
theorem Yo.below {w w':World} {a:Option Addr} {len cap:Nat} {es:List E3} (h:Yo w a len cap es) (hb:Below w.heap.size w w'):Yo w' a len cap es:=by
 obtain ⟨h1,h2,h3,h4⟩:=h
 refine ⟨h1,h2,h3,?_⟩
 rcases h4 with h4 | ⟨b,off,ha,hlt,hc⟩
 ·exact .inl h4
 refine .inr ⟨b,off,ha,by have:=hb.size;omega,fun t ht=>?_⟩
 obtain ⟨s,c0,c1,c2,hm⟩:=hc t ht
 exact ⟨s,by rw [hb.cell (p:=⟨b,_,none⟩) hlt];exact c0,by rw [hb.cell (p:=⟨b,_,none⟩) hlt];exact c1,by rw [hb.cell (p:=⟨b,_,none⟩) hlt];exact c2,hm.below hb⟩

section
variable {H : Type} {enc : TypeId × Value → H} {w : World} {base : Nat} {spare : Nat → Bool} {held : Bool}
theorem RW {P:Program} {t e:TypeId} {fuel:Nat} {a:Option Addr} {len cap:Nat} {x:DataW H × List MemPlace} (hs:P.underlying t=some (.slice e)) (h:DataW.trod enc P w base spare held fuel t [.slice a len cap]=some x):a=none→cap=0:=by
 rcases Go.Deep.open_slice hs h with ⟨hcs,_⟩ | ⟨a',len',cap',m,n,D,Pl,hcs,_⟩
 ·simp at hcs
  exact fun _=>hcs.2.2
 simp at hcs
 intro ha
 rw [hcs.1] at ha
 cases ha
theorem Ud {fuel:Nat} {cs:List Value} {x:DataW H × List MemPlace} (h:DataW.trod enc Tryz.prog w base spare held fuel 76 cs=some x):∃ (e:E3) (s:Sl2),cs=Ya e.1 s∧Z1 w s e:=by
 obtain ⟨y0,y1,y2,n,_,hl,h0,h1,h2⟩:=Go.Deep.trod_struct3 Tryz.underlying76 h
 have hl':cs.length=3:=hl.trans (by kernel_rfl)
 have k0:Tryz.prog.cellsOf 9=1:=by kernel_rfl
 have k1:Tryz.prog.cellsOf 74=1:=by kernel_rfl
 have k2:Tryz.prog.cellsOf 36=1:=by kernel_rfl
 match cs,hl' with
 | [v0,v1,v2],_ =>
  simp only [k0] at h0
  simp only [k1] at h1
  simp only [k2] at h2
  obtain ⟨k,e0,_,hk⟩:=DataW.trod_string Tryz.underlying9 h0
  obtain ⟨a,len,cap,xs,e1,hI⟩:=SB Tryz.underlying74 Tryz.underlying210 (by kernel_rfl) (by kernel_rfl) Tryz.underlying3 Tryz.underlying3 Tryz.underlying3 h1
  obtain ⟨s2,zs,e2,hZ⟩:=Hv Tryz.underlying36 Tryz.underlying3 (by kernel_rfl) h2
  simp at e0
  have z1:=RW Tryz.underlying74 (e1▸h1)
  have z2:s2.1=none→s2.2.2=0:=RW Tryz.underlying36 (a:=s2.1) (len:=s2.2.1) (cap:=s2.2.2) (by have h9:=h2;rw [e2] at h9;exact h9)
  exact ⟨(k,xs,zs),((a,len,cap),s2),by rw [e0,e1,e2];rfl,⟨hk,z1,z2⟩,hI,hZ⟩

theorem open_laws_Entry {r:Reach} {b0:Nat} {v:Value} {d:DataW H} {p:List MemPlace}
  (hv:Value.okWide Tryz.prog w r b0 76 v) (h:DataW.Trod enc Tryz.prog w base spare held 76 v d p):∃ (e:E3) (s:Sl2),v=ZR e.1 s∧Z1 w s e:=by
 obtain ⟨cs,rfl,hsz⟩:=okWide_struct Tryz.underlying76 hv
 obtain ⟨fuel,hf⟩:=h
 obtain ⟨e,s,hc,hm⟩:=Ud hf
 refine ⟨e,s,?_,hm⟩
 unfold ZR
 simp only [Value.cells] at hc
 unfold Ya at hc
 cases cs
 simp_all

theorem Jm {fuel:Nat} {v:Value} {x:DataW H × List MemPlace} (h:DataW.trod enc Tryz.prog w base spare held fuel 68 [v]=some x):∃ a len cap es,v=.slice a len cap∧Yo w a len cap es:=by
 have hC:Tryz.prog.cellsOf 76=3:=by kernel_rfl
 rcases Go.Deep.open_slice Tryz.underlying68 h with ⟨hcs,_⟩ | ⟨a,len,cap,m,n,D,Pl,hcs,_,hl,hm,hmm,_,hx⟩
 ·simp at hcs
  exact ⟨none,0,0,[],hcs,rfl,Nat.le_refl _,by unfold maxLen;omega,.inl rfl⟩
 simp at hcs
 have hlm:len≤m:=by rw [hmm];split<;>omega
 obtain ⟨Y,hY⟩:=Go.Deep.choose_lt (α:=E3 × Sl2) (n:=len) (p:=fun i y=>w.cells? base (a.add (i*3)) 3=some (Ya y.1.1 y.2)∧Z1 w y.2 y.1) (fun i hi=>by
  obtain ⟨cs',h1,h2⟩:=hx i (by omega)
  rw [hC] at h1
  obtain ⟨e,s,he,hm9⟩:=Ud h2
  exact ⟨(e,s),by rw [h1,he],hm9⟩)
 refine ⟨some a,len,cap,(List.range len).map (fun i=>(Y i).1),hcs,by simp,hl,hm,?_⟩
 rcases Nat.eq_zero_or_pos len with h0 | h0
 ·exact .inl h0
 right
 obtain ⟨b,off,spot⟩:=a
 have hc:=(World.cells?_some (hY 0 h0).1).2.2 0 (by omega)
 have hspot:spot=none:=by simpa [Addr.add,Ya] using World.cell?_spot hc
 subst hspot
 have e:∀ i,(⟨b,off,none⟩:Addr).add i=⟨b,off+i,none⟩:=fun i=>by unfold Addr.add;split<;>simp_all
 have e':∀ i j,(⟨b,off+i,none⟩:Addr).add j=⟨b,off+i+j,none⟩:=fun i j=>by unfold Addr.add;split<;>simp_all
 have hall:∀ i,i<len→∃ s:Sl2,w.cell? ⟨b,off+i*3,none⟩=some (.string (((List.range len).map (fun i=>(Y i).1)).getD i e3d).1)∧w.cell? ⟨b,off+i*3+1,none⟩=some (.slice s.1.1 s.1.2.1 s.1.2.2)∧w.cell? ⟨b,off+i*3+2,none⟩=some (.slice s.2.1 s.2.2.1 s.2.2.2)∧Z1 w s (((List.range len).map (fun i=>(Y i).1)).getD i e3d):=by
  intro i hi
  have hcs:=(World.cells?_some (hY i hi).1).2.2
  have g:((List.range len).map (fun i=>(Y i).1)).getD i e3d=(Y i).1:=by simp [List.getD,hi]
  rw [g]
  have c0:=hcs 0 (by omega)
  have c1:=hcs 1 (by omega)
  have c2:=hcs 2 (by omega)
  rw [e,e'] at c0 c1 c2
  exact ⟨(Y i).2,by simpa [Ya] using c0,by simpa [Ya] using c1,by simpa [Ya] using c2,(hY i hi).2⟩
 obtain ⟨s,c0,_⟩:=hall 0 h0
 exact ⟨b,off,rfl,WG c0,hall⟩

theorem open_laws_Memo {r:Reach} {b0:Nat} {v:Value} {d:DataW H} {p:List MemPlace}
  (hv:Value.okWide Tryz.prog w r b0 70 v) (h:DataW.Trod enc Tryz.prog w base spare held 70 v d p):∃ a len cap es,v=.agg #[.slice a len cap]∧Yo w a len cap es:=by
 obtain ⟨cs,rfl,hsz⟩:=okWide_struct Tryz.underlying70 hv
 have hsz':cs.size=1:=hsz.trans (by kernel_rfl)
 obtain ⟨fuel,hf⟩:=h
 obtain ⟨y0,n,_,_,h0⟩:=trod_struct1 Tryz.underlying70 hf
 obtain ⟨c,rfl⟩:∃ c,cs=#[c]:=by
  obtain ⟨l⟩:=cs
  match l,hsz' with
  | [c],_=>exact ⟨c,rfl⟩
 have hk:Tryz.prog.cellsOf 68=1:=by kernel_rfl
 simp only [Value.cells,hk] at h0
 obtain ⟨a,len,cap,es,hc,hE⟩:=Jm h0
 exact ⟨a,len,cap,es,by rw [hc],hE⟩
end

open Go.RowKit

theorem Nj (a a':Option Addr) (len cap cap':Nat) (zs:List Int) (w:World) (h:Z2 .i64 w a len cap zs) (h':Z2 .i64 w a' len cap' zs) :
  Calls Tryz.prog 94 #[.slice a len cap,.slice a' len cap'] w fun e w'=>e=.returned (.bool true)∧∃ d,w'=w.drewN d:=by
 obtain ⟨hl,hlc,hcm,hcase⟩:=h
 obtain ⟨_,hlc',hcm',hcase'⟩:=h'
 unfold maxLen at hcm hcm'
 have hne:((len:Int) != (len:Int))=false:=by simp
 by_cases h0:len=0
 ·subst h0
  go_enter Tryz.func94,Tryz.ntmps94
  go_wp2
  refine wp_loop_rounds 1 ?_
  rw [rounds_succ]
  go_wp2
  go_ret
  exact ⟨rfl,0,rfl⟩
 rcases hcase with h0' | ⟨b,off,rfl,hblt,hcell⟩
 ·exact absurd h0' h0
 rcases hcase' with h0' | ⟨b',off',rfl,hblt',hcell'⟩
 ·exact absurd h0' h0
 go_enter Tryz.func94,Tryz.ntmps94
 go_wp2
 go_loopw [5] (fun si wr=>∃ k d:Nat,k≤len∧si=.int .i64 k∧wr=w.drewN d) (fun si _=>len - (intOf si).toNat)
 case atStart=>exact ⟨0,0,by omega,rfl,rfl⟩
 case round =>
  obtain ⟨k,d,hk,rfl,rfl⟩:=hrel
  by_cases hlt:k<len
  ·have hc:=hcell k hlt
   have hc':=hcell' k hlt
   have hlt':(k:Int)<(len:Int):=by omega
   generalize zs.getD k 0=x at hc hc'
   clear hcell hcell'
   go_wp2
   go_quiet (fail)
   go_wp2
   go_roundw
   case rel=>exact ⟨k+1,_,by omega,by go_num,rfl⟩
   case measure=>simp [intOf];omega
  go_wp2
  go_ret
  exact ⟨rfl,d,rfl⟩


theorem SJ (a:Option Addr) (len cap:Nat) (left:Int) (w:World) (hl:len≤maxLen) (h0:0≤left) (h1:left≤2 ^ 20) :
  Calls Tryz.prog 89 #[.slice a len cap,.int .i64 left] w fun e w'=>e=.returned (.int .i64 (SN left len))∧w=w':=by
 unfold maxLen at hl
 unfold SN
 go_enter Tryz.func89,Tryz.ntmps89
 by_cases h:left - len<0
 ·rw [if_pos h]
  go_wp2
  go_ret
  exact ⟨rfl,rfl⟩
 rw [if_neg h]
 go_wp2
 go_ret
 exact ⟨rfl,rfl⟩
theorem Lf (a:Option Addr) (len cap:Nat) (left:Int) (w:World) (hl:len≤maxLen) (h0:0≤left) (h1:left≤2 ^ 20) (h:left - len<0) :
  Calls Tryz.prog 89 #[.slice a len cap,.int .i64 left] w fun e w'=>e=.returned (.int .i64 (-1))∧w=w':=by
 have:=SJ a len cap left w hl h0 h1
 unfold SN at this
 rwa [if_pos h] at this
theorem Lg (a:Option Addr) (len cap:Nat) (left:Int) (w:World) (hl:len≤maxLen) (h0:0≤left) (h1:left≤2 ^ 20) (h:0≤left - len) :
  Calls Tryz.prog 89 #[.slice a len cap,.int .i64 left] w fun e w'=>e=.returned (.int .i64 (left - len))∧w=w':=by
 have:=SJ a len cap left w hl h0 h1
 unfold SN at this
 rwa [if_neg (by omega)] at this


theorem N4:∀ (zs:List Int) (len k:Nat),k<len→zs.length=len→(zs.take k++List.replicate (len - k) 0).set k (zs.getD k 0)=zs.take (k+1)++List.replicate (len - (k+1)) 0
 | [],len,k,hk,hl=>by simp at hl;omega
 | z::zs,len,0,_,hl=>by
  obtain ⟨n,rfl⟩:∃ n,len=n+1:=⟨len - 1,by simp at hl;omega⟩
  simp [List.replicate_succ]
 | z::zs,len,k+1,hk,hl=>by
  obtain ⟨n,rfl⟩:∃ n,len=n+1:=⟨len - 1,by omega⟩
  have ih:=N4 zs n k (by omega) (by simpa using hl)
  simp only [Nat.add_sub_add_right,List.take_succ_cons,List.cons_append,List.set_cons_succ,List.getD_cons_succ,ih]

theorem Lk (a:Option Addr) (len cap:Nat) (zs:List Int) (w:World) (h:Z2 .i64 w a len cap zs) (hlen:len≤1048576) :
  Calls Tryz.prog 93 #[.slice a len cap] w fun e w'=>e=.returned (.slice (some ⟨w.heap.size,0,none⟩) len len) ∧
   w'.ownsRow w.heap.size 3 1 (.slice (some ⟨w.heap.size,0,none⟩) len len) len (zs.map (Value.int .i64))∧Below w.heap.size w w':=by
 obtain ⟨i0,hi,hz0,hz1,hz2⟩:=info_parts XC
 obtain ⟨hl,hlc,hcm,hcase⟩:=h
 unfold maxLen at hcm
 rcases hcase with h0 | ⟨b,off,rfl,hblt,hcell⟩
 ·subst h0
  have hz:zs=[]:=by simpa using hl
  subst hz
  go_enter Tryz.func93,Tryz.ntmps93
  go_wp2_with (at_make;refine wpList_make_full _ rfl _ _ 36 rfl w.heap.size 3 i0 (.int .i64 0) 1 Tryz.underlying36 hi hz0 hz1 _ _ _ _ 0 rfl rfl (by omega) (by omega) ?b2 ?b3 (Nat.le_refl _) ?_)
  case b2=>omega
  case b3=>unfold maxLen;omega
  intro w0 hown0 hgrow0
  have hb0:Below w.heap.size w w0:=(Below.refl _ _).grown hgrow0 (Nat.le_refl _) (fun k h=>by cases h)
  rw [QR] at hown0
  clear hgrow0
  go_wp2
  refine wp_loop_rounds 1 ?_
  rw [rounds_succ]
  go_wp2
  go_ret
  exact ⟨rfl,hown0,hb0⟩
 go_enter Tryz.func93,Tryz.ntmps93
 go_wp2_with (at_make;refine wpList_make_full _ rfl _ _ 36 rfl w.heap.size 3 i0 (.int .i64 0) 1 Tryz.underlying36 hi hz0 hz1 _ _ _ _ len rfl rfl (by omega) (by omega) ?b2 ?b3 (Nat.le_refl _) ?_)
 case b2=>rw [hz2];omega
 case b3=>unfold maxLen;omega
 intro w0 hown0 hgrow0
 have hb0:Below w.heap.size w w0:=(Below.refl _ _).grown hgrow0 (Nat.le_refl _) (fun k h=>by cases h)
 rw [QR] at hown0
 clear hgrow0
 go_wp2
 go_loopw [4] (fun si wr=>∃ k:Nat,k≤len∧si=.int .i64 k∧wr.ownsRow w.heap.size 3 1 (.slice (some ⟨w.heap.size,0,none⟩) len len) len ((zs.take k++List.replicate (len - k) (0:Int)).map (Value.int .i64))∧Below w.heap.size w wr) (fun si _=>len - (intOf si).toNat)
 case atStart=>exact ⟨0,by omega,rfl,by simpa using hown0,hb0⟩
 case round =>
  obtain ⟨k,hk,rfl,ho,hbel⟩:=hrel
  by_cases hlt:k<len
  ·have hc:wr.cell? ⟨b,off+k,none⟩=some (.int .i64 (zs.getD k 0)):=by rw [hbel.cell (p:=⟨b,off+k,none⟩) hblt];exact hcell k hlt
   have hf:=ho.frozenAt k
   have hst:=ho.stored k (.int .i64 (zs.getD k 0))
   have hold:∃ u,wr.cell? ⟨w.heap.size,k,none⟩=some u:=by
    have:=ho.cellAt k (by omega)
    rw [this]
    exact ⟨_,List.getElem?_eq_getElem (by simp;omega)⟩
   obtain ⟨u,hu⟩:=hold
   have R:(wr.setCell ⟨w.heap.size,k,none⟩ (.int .i64 (zs.getD k 0))).ownsRow w.heap.size 3 1 (.slice (some ⟨w.heap.size,0,none⟩) len len) len ((zs.take (k+1)++List.replicate (len - (k+1)) (0:Int)).map (Value.int .i64)):=by
    have:=hst.1
    rw [← List.map_set,N4 zs len k hlt hl] at this
    exact this
   have hb1:Below w.heap.size w (wr.setCell ⟨w.heap.size,k,none⟩ (.int .i64 (zs.getD k 0))):=hbel.setCell (Nat.le_refl _) _
   clear hst ho
   generalize zs.getD k 0=x at hc R hb1
   go_wp2
   go_roundw
   case rel=>exact ⟨k+1,by omega,by go_num,R,hb1⟩
   case measure=>simp [intOf];omega
  obtain rfl:k=len:=by omega
  go_wp2
  go_ret
  refine ⟨rfl,?_,hbel⟩
  have e:zs.take k++List.replicate (k - k) (0:Int)=zs:=by rw [Nat.sub_self];simp [List.take_of_length_le (Nat.le_of_eq hl)]
  rw [e] at ho
  exact ho


def ZW (w:World) (B:Nat) (s:Sl) (zs:List Int):Prop:=w.ownsRow B 3 1 (.slice s.1 s.2.1 s.2.2) s.2.1 (zs.map (Value.int .i64))
def WX (s s':Sl):Prop:=∀ g,(Value.slice s.1 s.2.1 s.2.2).ownBlock=some g→(Value.slice s'.1 s'.2.1 s'.2.2).ownBlock≠some g
def ZJ (w:World) (B:Nat) (s:S4) (m:V4):Prop:=
 (ZW w B s.1 m.1∧ZW w B s.2.1 m.2.1∧ZW w B s.2.2.1 m.2.2.1∧ZW w B s.2.2.2 m.2.2.2) ∧
 WX s.1 s.2.1∧WX s.1 s.2.2.1∧WX s.1 s.2.2.2∧WX s.2.1 s.2.2.1∧WX s.2.1 s.2.2.2∧WX s.2.2.1 s.2.2.2
def V4.fits (m:V4):Prop:=(∀ z ∈ m.1,(Lit.int .i64 z).wf=true)∧(∀ z ∈ m.2.1,(Lit.int .i64 z).wf=true)∧(∀ z ∈ m.2.2.1,(Lit.int .i64 z).wf=true)∧∀ z ∈ m.2.2.2,(Lit.int .i64 z).wf=true
theorem ZW.ints {w:World} {B:Nat} {s:Sl} {zs:List Int} (h:ZW w B s zs):Z2 .i64 w s.1 s.2.1 s.2.2 zs:=by
 obtain ⟨a,n,c⟩:=s
 unfold ZW at h
 simp only at h ⊢
 rcases h.2 with ⟨h0,h1⟩ | ⟨g,cap,cur,hv,_⟩
 ·cases h0
  have hl:zs.length=0:=by simpa using h.1
  exact ⟨hl,Nat.le_refl _,Nat.zero_le _,.inl rfl⟩
 cases hv
 exact Z2.of_owns h
theorem ZW.below {w w':World} {B:Nat} {s:Sl} {zs:List Int} (h:ZW w B s zs) (hb:Below w.heap.size w w'):ZW w' B s zs:=Zz h hb
theorem ZJ.below {w w':World} {B:Nat} {s:S4} {m:V4} (h:ZJ w B s m) (hb:Below w.heap.size w w'):ZJ w' B s m:=⟨⟨h.1.1.below hb,h.1.2.1.below hb,h.1.2.2.1.below hb,h.1.2.2.2.below hb⟩,h.2⟩
theorem ZJ.mem {w:World} {B:Nat} {s:S4} {m:V4} (h:ZJ w B s m) (hf:V4.fits m):Yy w s m:=⟨⟨h.1.1.ints,hf.1⟩,⟨h.1.2.1.ints,hf.2.1⟩,⟨h.1.2.2.1.ints,hf.2.2.1⟩,⟨h.1.2.2.2.ints,hf.2.2.2⟩⟩
theorem Xl {w:World} {B B' e s n:Nat} {v:Value} {cs:List Value} (h:w.ownsRow B e s v n cs) (hB:B'≤B):w.ownsRow B' e s v n cs:=by
 refine ⟨h.1,?_⟩
 rcases h.2 with h0 | ⟨g,cap,cur,hv,hg,rest⟩
 ·exact .inl h0
 exact .inr ⟨g,cap,cur,hv,Nat.le_trans hB hg,rest⟩
theorem FO (w:World) (x y z u:Value) (t B:Nat) (hB:B≤w.heap.size):(w.alloc (.cells #[x,y,z,u] t)).ownsRow B t 4 (.slice (some ⟨w.heap.size,0,none⟩) 1 1) 1 [x,y,z,u]:=World.ownsRow_lit w #[x,y,z,u] 1 hB (by unfold maxLen;omega) rfl

end Go.Proofs.YtnffeclgboomoaaGreatDoor
