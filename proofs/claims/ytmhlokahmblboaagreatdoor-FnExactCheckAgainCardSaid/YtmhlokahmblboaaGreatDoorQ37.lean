/-
  Joined: FulB, FulD, KeyB, SpcP, OnmP, VisB, ChfI, Vj1I, KeyI, MkdI.
-/
import Derived.Carry
import Derived.Test.YtmhlokahmblboaaGreatDoorQ21
import Derived.Test.YtmhlokahmblboaaGreatDoorQ36

namespace Go.Proofs.YtmhlokahmblboaaGreatDoor
set_option maxRecDepth 100000
set_option maxHeartbeats 16000000
set_option linter.unusedVariables false

def Qz (rows:List (List I3)) (m:V4) (k:Nat):Nat:=(Xn rows k).length - (m.1.getD k 0).toNat
theorem Hs {rows:List (List I3)} {m:V4} (hp:Zq rows=true) (hs:Ze m=true) {k:Nat} (hk:k<3) (hd:Ys rows m k=false) :
  Qz rows (goM rows m k).1 k+1≤Qz rows m k∧∀ j,j≠k→Qz rows (goM rows m k).1 j=Qz rows m j:=by
 have h1:=Jr hp hs hk hd
 have hb:=Yq hs
 have hpc:=Vv hb.1 (by omega) k
 have hlt:m.1.getD k 0<(Xn rows k).length:=by
  unfold Ys at hd
  rw [decide_eq_false_iff_not] at hd
  omega
 rw [JT]
 refine ⟨?_,fun j hj=>?_⟩
 ·unfold Qz
  omega
 unfold Qz
 rw [Mm m _ hj]


def Xb (rows:List (List I3)) (m:V4):Nat:=Qz rows m 0+Qz rows m 1+Qz rows m 2
theorem Q4 {rows:List (List I3)} {m:V4} (hp:Zq rows=true) (hs:Ze m=true) {k:Int} (h:VT rows m k=0):Xb rows (goM rows m k).1+1≤Xb rows m:=by
 obtain ⟨h0,h2,hd,hc⟩:=WL h
 obtain ⟨q,rfl⟩:∃ q:Nat,k=q:=⟨k.toNat,by omega⟩
 rw [Int.toNat_natCast] at hd
 obtain ⟨r1,r2⟩:=Hs hp hs (show q<3 by omega) hd
 unfold Xb
 have hq:q=0∨q=1∨q=2:=by omega
 rcases hq with rfl | rfl | rfl
 ·have a:=r2 1 (by omega);have b:=r2 2 (by omega);omega
 ·have a:=r2 0 (by omega);have b:=r2 2 (by omega);omega
 have a:=r2 0 (by omega);have b:=r2 1 (by omega);omega
theorem WD {rows:List (List I3)} {m:V4} {k:Int} (h:k ∈ Zt rows m 3):VT rows m k=0:=(GI (t:=(k,(goM rows m k).1)) (List.mem_map.2 ⟨k,h,rfl⟩)).1

open Go.RowKit
set_option linter.unusedSimpArgs false

theorem JN (xs:List Int) (h:∀ x ∈ xs,0≤x∧x≤255) (i:Nat) (hi:i<xs.length):btV (strOfNums xs) i=xs.getD i 0:=by
 have hx:=h xs[i] (List.getElem_mem hi)
 unfold btV
 simp [strOfNums,List.getD,List.getElem?_eq_getElem hi]
 omega
theorem WN {m:V4} (h:Ze m=true):(ZC m).size=15:=by
 obtain ⟨l0,l1,l2,l3,_⟩:=ZF h
 unfold ZC
 rw [strOfNums_size,List.length_map]
 unfold XJ
 simp [l0,l1,l2,l3]
theorem QY {m:V4} (h:Ze m=true):Yh (ZC m)=m:=by
 obtain ⟨l0,l1,l2,l3,hd⟩:=ZF h
 have hb:∀ i,i<15→btV (ZC m) i - 48=(XJ m).getD i 0:=fun i hi=>by
  have hl:(XJ m).length=15:=by unfold XJ;simp [l0,l1,l2,l3]
  unfold ZC
  rw [JN _ (fun x hx=>by obtain ⟨z,hz,rfl⟩:=List.mem_map.1 hx;have:=hd z hz;omega) i (by rw [List.length_map];omega)]
  have e:((XJ m).map fun z=>48+z).getD i 0=48+(XJ m).getD i 0:=by
   have hi':i<(XJ m).length:=by omega
   simp [List.getD,List.getElem?_eq_getElem hi']
  rw [e]
  omega
 have b0:=hb 0 (by omega)
 have b1:=hb 1 (by omega)
 have b2:=hb 2 (by omega)
 have b3:=hb 3 (by omega)
 have b4:=hb 4 (by omega)
 have b5:=hb 5 (by omega)
 have b6:=hb 6 (by omega)
 have b7:=hb 7 (by omega)
 have b8:=hb 8 (by omega)
 have b9:=hb 9 (by omega)
 have b10:=hb 10 (by omega)
 have b11:=hb 11 (by omega)
 have b12:=hb 12 (by omega)
 have b13:=hb 13 (by omega)
 have b14:=hb 14 (by omega)
 clear hb hd l0 l1 l2 l3
 obtain ⟨p0,p1,p2,v0,v1,v2,v3,h0,h1,x0,y0,x1,y1,x2,y2,rfl⟩:=Uc h
 unfold Yh Yt Wj
 simp [List.range_succ,b0,b1,b2,b3,b4,b5,b6,b7,b8,b9,b10,b11,b12,b13,b14]
 simp [XJ]
theorem JZ {m q:V4} (h:Ze m=true) (h':Ze q=true) (e:ZC m=ZC q):m=q:=by rw [← QY h,e,QY h']


theorem Fp {s t:ByteArray} (h:s≠t):(Lit.string s.data.toList)≠Lit.string t.data.toList:=fun e=>by
 injection e with e
 exact h (ByteArray.ext (Array.ext' e))
/-! The records of states: 22 cells each. -/


def Vq (v:Value):Option (DataW Value × List MemPlace):=some (.held v,[])
def Ve (k:ByteArray):Lit:=.string k.data.toList
theorem LF {a b:ByteArray} (h:a≠b):Ve a≠Ve b:=Fp h
structure Un (D:DataW Value) (L:List EQ):Prop where
 up:UpE (L.map (·.1))
 has:∀ k:ByteArray,Maps.has D (Ve k)=isE (L.map (·.1)) k
 at9:∀ x ∈ L,∀ z,D.atKey (Ve x.1.1) z=.held (ZU x.1.1 x.2)
theorem Un.start:Un (.map []) []:=⟨List.Pairwise.nil,fun k=>by simp [Maps.has,isE],fun x hx=>by cases hx⟩
theorem Jc {es:List E3} {e x:E3} (hU:UpE es) (hx:x ∈ es) (hne:x.1≠e.1):x ∈ Wy es e:=by
 unfold Wy
 simp only [List.mem_append,List.mem_singleton]
 cases hi:isE es e.1
 ·simp only [Bool.false_eq_true,if_false]
  rw [← List.take_append_drop (Yn es e.1) es] at hx
  rcases List.mem_append.1 hx with h | h
  ·exact .inl (.inl h)
  exact .inr h
 simp only [if_true]
 simp only [isE,Bool.and_eq_true,decide_eq_true_eq] at hi
 rw [← List.take_append_drop (Yn es e.1) es] at hx
 rcases List.mem_append.1 hx with h | h
 ·exact .inl (.inl h)
 rw [List.drop_eq_getElem_cons hi.1] at h
 rcases List.mem_cons.1 h with h9 | h9
 ·exfalso
  refine hne ?_
  have h8:=hi.2
  rw [Y5 hi.1] at h8
  rw [h9]
  exact h8
 exact .inr h9
theorem Gz {es:List E3} {e:E3} (hU:UpE es) (k:ByteArray):isE (Wy es e) k=if k=e.1 then true else isE es k:=by
 have hU2:=RU (e:=e) hU
 by_cases hk:k=e.1
 ·rw [if_pos hk]
  refine (WM hU2).2 ⟨e,?_,hk.symm⟩
  unfold Wy
  simp
 rw [if_neg hk,Bool.eq_iff_iff,WM hU2,WM hU]
 constructor
 ·rintro ⟨x,hx,rfl⟩
  rcases T2 hx with h9 | h9
  ·rw [h9] at hk;exact absurd rfl hk
  exact ⟨x,h9,rfl⟩
 rintro ⟨x,hx,rfl⟩
 exact ⟨x,Jc hU hx hk,rfl⟩
theorem Jd {L:List EQ} {e:E3} {s:Sl2} (hU:UpE (L.map (·.1))) {x:EQ} (hx:x ∈ VL L e s):x=(e,s)∨(x ∈ L∧x.1.1≠e.1):=by
 unfold VL at hx
 simp only [List.mem_append,List.mem_singleton] at hx
 rcases hx with (hx | hx) | hx
 ·refine .inr ⟨List.mem_of_mem_take hx,fun h=>?_⟩
  have h1:x.1 ∈ (L.map (·.1)).take (Yn (L.map (·.1)) e.1):=by rw [← List.map_take];exact List.mem_map.2 ⟨x,hx,rfl⟩
  obtain ⟨t,h2,h3,h4⟩:=TU h1
  have:=VF h2
  rw [← h4,h,UC] at this
  cases this
 ·exact .inl hx
 refine .inr ⟨List.mem_of_mem_drop hx,fun h=>?_⟩
 have h1:x.1 ∈ (L.map (·.1)).drop (if isE (L.map (·.1)) e.1 then Yn (L.map (·.1)) e.1+1 else Yn (L.map (·.1)) e.1):=by rw [← List.map_drop];exact List.mem_map.2 ⟨x,hx,rfl⟩
 obtain ⟨t,h2,h3,h4⟩:=Q8 h1
 have:=Tv hU h2 h3
 rw [← h4,h,UC] at this
 cases this
theorem Un.put {D:DataW Value} {L:List EQ} (h:Un D L) (hm:Maps.IsMap D) (e:E3) (s:Sl2):Un (D.put (Ve e.1) (.held (ZU e.1 s))) (VL L e s):=by
 have hkl:WideAt.IsKeyLit (Ve e.1):=trivial
 refine ⟨by rw [Tw];exact RU h.up,fun k=>?_,fun x hx z=>?_⟩
 ·rw [Tw,Gz h.up]
  by_cases hk:k=e.1
  ·rw [if_pos hk,hk,Maps.has_put_same hm hkl]
  rw [if_neg hk,Maps.has_put_other (LF hk),h.has]
 rcases Jd h.up hx with h9 | ⟨h9,hne⟩
 ·rw [h9,Maps.atKey_put_same hm hkl]
 rw [Maps.atKey_put_other (LF hne),h.at9 x h9]
theorem Un.found {D:DataW Value} {L:List EQ} (h:Un D L) {k:ByteArray} (hi:isE (L.map (·.1)) k=true):∃ s,(Vc (L.map (·.1)) k,s) ∈ L∧(Vc (L.map (·.1)) k).1=k∧∀ z,D.atKey (Ve k) z=.held (ZU k s):=by
 have hi2:=hi
 simp only [isE,Bool.and_eq_true,decide_eq_true_eq] at hi2
 have hf:Vc (L.map (·.1)) k=(L.map (·.1)).getD (Yn (L.map (·.1)) k) e3d:=by unfold Vc;rw [if_pos hi]
 have hl:Yn (L.map (·.1)) k<L.length:=by simpa using hi2.1
 have hx:(L[Yn (L.map (·.1)) k]).1=Vc (L.map (·.1)) k:=by
  rw [hf,Y5 hi2.1]
  simp
 refine ⟨(L[Yn (L.map (·.1)) k]).2,?_,by rw [hf];exact hi2.2,?_⟩
 ·rw [← hx]
  exact List.getElem_mem _
 have h9:=h.at9 _ (List.getElem_mem hl)
 rw [hx,show (Vc (L.map (·.1)) k).1=k by rw [hf];exact hi2.2] at h9
 exact h9


theorem Zl {P:Program} {ops:Array Oper} {o:Oper} {a:Act} {w:World} {K:Act→World→Prop} {Q:Exit→Act→World→Prop} {E:Prop} (hgd:o.guard=none) (ty:TypeId) (x y:Operand) (ho:o.op=.store ty x y) (g:Nat) (vs:List Value) (hx:a.eval x=.pointer (some ⟨g,0,none⟩)) (hy:a.eval y=.agg vs.toArray) {t:Nat} {cs:List Value} (hB:Blk w g t cs)
  (hi:(P.info? ty).map (·.size)=some vs.length) (hl:cs.length=vs.length) (h1:vs.all (·.oneCell')=true)
  (h:∀ w',Hid (Blk w' g t vs)→w.grownBy w' (some g)→K (a.put o.dst undef) w'):if Region.wanted o (yielded ops a.tmps)=true then Oper.wp P o a w K Q else E:=by
 have hw:Region.wanted o (yielded ops a.tmps)=true:=by simp [Region.wanted,hgd]
 rw [if_pos hw]
 exact wp_store_row ty x y ho g vs.toArray hx hy t cs.toArray hB (by simpa using hi) (by simpa using hl) (by simpa using h1) (h _ (Uv vs hB) (Wu _ _ _))
def T6 (cs:List Value):Prop:=∀ u ∈ cs,∀ k v,u≠Value.int k v
theorem Yy (v:Value) (h:∀ k z,v≠.int k z):T6 [v]:=by intro u hu k z;rw [List.mem_singleton.1 hu];exact h k z
theorem Ye (k:ByteArray) (s:Sl2):T6 (Yl k s):=by
 intro u hu q v e
 unfold Yl at hu
 simp only [List.mem_cons,List.not_mem_nil,or_false] at hu
 rcases hu with rfl | rfl | rfl<;>cases e
theorem WB {w:World} {X T b o:Nat} {cs:List Value} (hB:Blk w X T cs) (hn:T6 cs) {k:IntKind} {v:Int} (h:w.cell? ⟨b,o,none⟩=some (.int k v)):b≠X:=by
 rintro rfl
 rw [hB.cell] at h
 exact hn _ (List.mem_of_getElem? h) _ _ rfl
theorem ZW.box {k:IntKind} {w w':World} {a:Option Addr} {n c X T:Nat} {zs:List Int} {cs:List Value} (h:ZW k w a n c zs) (hB:Blk w X T cs) (hn:T6 cs) (hg:w.grownBy w' (some X)):ZW k w' a n c zs:=by
 obtain ⟨h1,h2,h3,h4⟩:=h
 refine ⟨h1,h2,h3,?_⟩
 rcases h4 with h4 | ⟨b,off,ha,hlt,hc⟩
 ·exact .inl h4
 exact .inr ⟨b,off,ha,by have:=hg.size;omega,fun t ht=>Zn hg (hc t ht) (fun e=>WB hB hn (hc t ht) (by cases e;rfl))⟩
theorem Zj.box {w w':World} {a:Option Addr} {n c X T:Nat} {xs:List I3} {cs:List Value} (h:Zj w a n c xs) (hB:Blk w X T cs) (hn:T6 cs) (hg:w.grownBy w' (some X)):Zj w' a n c xs:=by
 obtain ⟨h1,h2,h3,h0,h4⟩:=h
 refine ⟨h1,h2,h3,h0,?_⟩
 rcases h4 with h4 | ⟨b,off,ha,hlt,hc⟩
 ·exact .inl h4
 exact .inr ⟨b,off,ha,by have:=hg.size;omega,fun t ht=>⟨Zn hg (hc t ht).1 (fun e=>WB hB hn (hc t ht).1 (by cases e;rfl)),Zn hg (hc t ht).2.1 (fun e=>WB hB hn (hc t ht).2.1 (by cases e;rfl)),Zn hg (hc t ht).2.2 (fun e=>WB hB hn (hc t ht).2.2 (by cases e;rfl))⟩⟩
def YV (a:Option Addr) (n X:Nat):Prop:=n=0∨∀ b o,a=some ⟨b,o,none⟩→b≠X
theorem GJ {w:World} {a:Option Addr} {n c X:Nat} {es:List E3} (h:XF w a n c es) (hX:w.heap.size≤X):YV a n X:=by
 rcases h.2.2.2 with h4 | ⟨b,off,ha,hlt,hc⟩
 ·exact .inl h4
 exact .inr (fun b' o' e=>by rw [ha] at e;cases e;omega)
theorem YV.new {a:Option Addr} {n B X:Nat} (h:∀ b o,a=some ⟨b,o,none⟩→B≤b) (hX:X<B):YV a n X:=.inr (fun b o e=>by have:=h b o e;omega)
theorem YL.zero9 (w:World):YL w ((none,0,0),(none,0,0)) e3d:=⟨⟨by unfold maxLen;decide,fun _=>rfl,fun _=>rfl⟩,⟨rfl,Nat.le_refl _,Nat.zero_le _,by simp [e3d],.inl rfl⟩,⟨rfl,Nat.le_refl _,Nat.zero_le _,.inl rfl⟩,by simp [e3d]⟩


theorem WE:Maps.Keyed Tryz.prog 9:=Maps.string_keyed Tryz.underlying9
theorem LT {w:World} {C nb:Nat} (g nd:Nat) (hC:Blk w C 106 [.map (some nb),.int .i64 (g:Int),.int .i64 (nd:Int)]) (hs:g+nd≤4000000000) :
  Calls Tryz.prog 53 #[.pointer (some ⟨C,0,none⟩)] w fun e w'=>e=.returned (.bool (decide (2000<g+nd)))∧Below w.heap.size w w':=by
 have c1:=hC.cell 1
 have c2:=hC.cell 2
 simp only [List.getElem?_cons_zero,List.getElem?_cons_succ] at c1 c2
 have hw1:IntKind.i64.wrap ((g:Int)+(nd:Int))=(g:Int)+(nd:Int):=by rw [IntKind.wrap_i64];omega
 obtain ⟨b,hb⟩:∃ b,b=decide (2000<g+nd):=⟨_,rfl⟩
 rw [← hb]
 have HB:Hid (b=decide ((2000:Int)<(g:Int)+(nd:Int))):=by
  rw [Hid,hb]
  by_cases h:2000<g+nd
  ·rw [decide_eq_true h,decide_eq_true (by omega)]
  rw [decide_eq_false h,decide_eq_false (by omega)]
 clear hb hC
 go_enter Tryz.func53,Tryz.ntmps53
 go_wp2_with fail
 go_quiet (fail)
 go_wp2
 go_ret
 exact ⟨by rw [HB.out];rfl,FB (Below.refl _ _) _⟩
theorem Je {L:List EQ} {k:Nat} (hU:UpE (L.map (·.1))) (hk:k<L.length):VL (L.take k) (L[k]).1 (L[k]).2=L.take (k+1):=by
 have hp:Yn ((L.take k).map (·.1)) (L[k]).1.1=k:=P3 (fun i hi=>by
  have h9:=hU.lt (i:=i) (j:=k) hi (by simpa using hk)
  rw [Y5 (show i<(L.map (·.1)).length by rw [List.length_map];omega),Y5 (show k<(L.map (·.1)).length by simpa using hk)] at h9
  rw [Y5 (show i<((L.take k).map (·.1)).length by rw [List.length_map,List.length_take];omega)]
  simpa using h9) (by rw [List.length_map,List.length_take];omega) (fun h9=>by rw [List.length_map,List.length_take] at h9;omega)
 have hi:isE ((L.take k).map (·.1)) (L[k]).1.1=false:=by
  unfold isE
  rw [hp,decide_eq_false (by rw [List.length_map,List.length_take];omega)]
  rfl
 unfold VL
 rw [hp,hi,List.take_take,Nat.min_self]
 simp only [Bool.false_eq_true,if_false]
 rw [List.drop_of_length_le (by rw [List.length_take];omega),List.append_nil,List.take_add_one,List.getElem?_eq_getElem hk]
 rfl
def SU (e:Ending) (w':World) (B n:Nat) (L:List EQ):Prop:=∃ (nb:Nat) (D:DataW Value),e=.returned (.agg #[.map (some nb),.int .i64 (n:Int),.int .i64 0])∧w'.ownsMap Tryz.prog 9 Vq nb n D∧Un D L∧B≤nb
theorem SU.mk9 {w':World} {B n nb:Nat} {L:List EQ} {D:DataW Value} (h:w'.ownsMap Tryz.prog 9 Vq nb n D) (hG:Un D L) (hB:B≤nb):SU (.returned (.agg #[.map (some nb),.int .i64 (n:Int),.int .i64 0])) w' B n L:=⟨nb,D,rfl,h,hG,hB⟩
theorem Px (a:Option Addr) (n c:Nat) (L:List EQ) (w:World) (hQ:XC w a n c L) (hok:YQ (L.map (·.1))=true) :
  Calls Tryz.prog 51 #[.agg #[.slice a n c]] w fun e w'=>SU e w' w.heap.size n L∧Below w.heap.size w w':=by
 have hU:UpE (L.map (·.1)):=(Nc hok).up
 have hl:=hQ.1
 have hn2:n≤2000:=by have:=Ul hok;rw [List.length_map] at this;omega
 have hmm:=@run_makeMap Tryz.prog
 have bw:Below w.heap.size w ((w.alloc (.cells #[.slice a n c] 47)).alloc (.cells #[.map none,.int .i64 0,.int .i64 0] 106)):=by go_grown
 have pM:Blk ((w.alloc (.cells #[.slice a n c] 47)).alloc (.cells #[.map none,.int .i64 0,.int .i64 0] 106)) w.heap.size 47 [.slice a n c]:=Zf _ (Zh _ _ _ rfl)
 have pR:Blk ((w.alloc (.cells #[.slice a n c] 47)).alloc (.cells #[.map none,.int .i64 0,.int .i64 0] 106)) (w.heap.size+1) 106 [.map none,.int .i64 0,.int .i64 0]:=Zh _ _ _ (by simp)
 go_enter Tryz.func51,Tryz.ntmps51
 go_upto_region 1 with fail
 generalize ((w.alloc (.cells #[.slice a n c] 47)).alloc (.cells #[.map none,.int .i64 0,.int .i64 0] 106))=U at *
 have g0:=pM.cell 0
 simp only [List.getElem?_cons_zero] at g0
 have hb1:Below U.heap.size U (U.alloc (.map #[] 0)):=⟨rfl,rfl,rfl,by simp,fun k hk=>Below.heap_alloc U _ k hk⟩
 have g1:=Zy hb1 g0
 go_upto_region 2 with fail
 have hb2:Below (U.alloc (.map #[] 0)).heap.size (U.alloc (.map #[] 0)) ((U.alloc (.map #[] 0)).alloc (.cells #[.map (some U.heap.size),.int .i64 (n:Int),.int .i64 0] 106)):=by go_grown
 have hb:=Zm hb1 hb2
 have pY:Blk ((U.alloc (.map #[] 0)).alloc (.cells #[.map (some U.heap.size),.int .i64 (n:Int),.int .i64 0] 106)) (U.heap.size+1) 106 [.map (some U.heap.size),.int .i64 (n:Int),.int .i64 0]:=Zh _ _ _ (by simp)
 have hm0:((U.alloc (.map #[] 0)).alloc (.cells #[.map (some U.heap.size),.int .i64 (n:Int),.int .i64 0] 106)).ownsMap Tryz.prog 9 Vq U.heap.size 0 (.map []:DataW Value):=(World.ownsMap_made (H:=Value) U Tryz.prog 9 Vq).alloc _
 have hnbU:=bw.size
 have hsz9:w.heap.size+2≤U.heap.size:=by have:=pR.lt;omega
 replace bw:=Zm bw hb
 replace pM:=pM.below hb
 replace pR:=pR.below hb
 clear hb hb1 hb2 g0 g1 hmm
 generalize ((U.alloc (.map #[] 0)).alloc (.cells #[.map (some U.heap.size),.int .i64 (n:Int),.int .i64 0] 106))=V at *
 generalize hnb:U.heap.size=nb at *
 clear hnb
 have g0:=pM.cell 0
 simp only [List.getElem?_cons_zero] at g0
 go_upto_region 3 with fail
 clear g0
 go_loopw [14] (fun s14 wr=>∃ (k:Nat) (D:DataW Value),s14=.int .i64 (k:Int)∧k≤n∧wr.ownsMap Tryz.prog 9 Vq nb k D∧Un D (L.take k)∧Below w.heap.size w wr∧Blk wr (nb+1) 106 [.map (some nb),.int .i64 (n:Int),.int .i64 0]∧Blk wr (w.heap.size+1) 106 [.map none,.int .i64 0,.int .i64 0]) (fun s14 _=>n - (Go.RowKit.intOf s14).toNat)
 case atStart=>exact ⟨0,_,rfl,Nat.zero_le _,hm0,by rw [List.take_zero];exact Un.start,bw,pY,pR⟩
 case round =>
  clear hm0 pY pR bw pM
  obtain ⟨k,D,rfl,hkn,hm,hG,bw,pY,pR⟩:=hrel
  by_cases hlt:k<n
  ·have hlt3:(k:Int)<(n:Int):=by omega
   have hk0:(0:Int)≤(k:Int):=by omega
   obtain ⟨_,_,_,hmem,hcase⟩:=hQ.below bw
   rcases hcase with e0 | ⟨b,off,rfl,hblt,hcell⟩
   ·omega
   have hkl:k<L.length:=by omega
   have hpq:=Je hU hkl
   have hx:=hmem _ (List.getElem_mem hkl)
   have hxe:L[k]?=some L[k]:=List.getElem?_eq_getElem hkl
   have hc:=fun j (hj:j<3)=>XK hxe hj
   generalize L[k]=x at *
   obtain ⟨⟨ek,eb,ez⟩,⟨⟨s1a,s1n,s1c⟩,⟨s2a,s2n,s2c⟩⟩⟩:=x
   have x0:wr.cell? ⟨b,off+k*3,none⟩=some (.string ek):=by simpa using hcell (k*3+0) _ (hc 0 (by omega))
   have x1:wr.cell? ⟨b,off+k*3+1,none⟩=some (.slice s1a s1n s1c):=by have h9:=hcell (k*3+1) _ (hc 1 (by omega));rw [Nat.add_assoc];exact h9
   have x2:wr.cell? ⟨b,off+k*3+2,none⟩=some (.slice s2a s2n s2c):=by have h9:=hcell (k*3+2) _ (hc 2 (by omega));rw [Nat.add_assoc];exact h9
   have hkey:keyOf Tryz.prog 9 (.string ek)=some (Ve ek):=WideMaps.keyOf_string_mk Tryz.underlying9 hx.1.1
   have hG2:=hG.put hm.isMap (ek,eb,ez) ((s1a,s1n,s1c),(s2a,s2n,s2c))
   rw [hpq] at hG2
   have hbE:Below wr.heap.size wr (wr.alloc (.cells #[.string ek,.slice s1a s1n s1c,.slice s2a s2n s2c] 109)):=by go_grown
   have hm2:=hm.alloc (.cells #[.string ek,.slice s1a s1n s1c,.slice s2a s2n s2c] 109)
   clear hc hcell hmem hxe hpq hG hm
   go_upto_region 5 with fail
   replace bw:=Zm bw hbE
   replace pY:=pY.below hbE
   replace pR:=pR.below hbE
   have pB:Blk (wr.alloc (.cells #[.string ek,.slice s1a s1n s1c,.slice s2a s2n s2c] 109)) wr.heap.size 109 [.string ek,.slice s1a s1n s1c,.slice s2a s2n s2c]:=Zh _ _ _ rfl
   clear x0 x1 x2 hbE
   generalize (wr.alloc (.cells #[.string ek,.slice s1a s1n s1c,.slice s2a s2n s2c] 109))=W5 at *
   have y0:=pY.cell 0
   have z0:=pB.cell 0
   have z1:=pB.cell 1
   have z2:=pB.cell 2
   simp only [List.getElem?_cons_zero,List.getElem?_cons_succ] at y0 z0 z1 z2
   have hnbW:=hm2.lt
   go_wp2_with (at_mapUpdate;refine wpList_mapUpdate_own _ rfl _ _ _ 104 rfl 9 109 WE Tryz.underlying104 Vq nb k D rfl hm2 (by unfold maxLen;omega) _ _ (Ve ek) rfl rfl hkey (.held (ZU ek ((s1a,s1n,s1c),(s2a,s2n,s2c)))) [] rfl ?_;intro w9 hm9 hg9)
   have bz:=bw.grown hg9 bw.size (fun q hq=>by cases hq;omega)
   have pY9:=pY.kept hg9 (by simp)
   have pR9:=pR.kept hg9 (by simp;omega)
   clear y0 z0 z1 z2 hm2 hg9 pB
   go_wp2
   go_roundw
   case rel=>exact ⟨k+1,_,by go_num,by omega,hm9,hG2,bz,pY9,pR9⟩
   case measure=>simp [Go.RowKit.intOf];omega
  have hge:¬ (k:Int)<(n:Int):=by omega
  obtain rfl:k=n:=by omega
  rw [List.take_of_length_le (by omega)] at hG
  have y0:=pY.cell 0
  have y1:=pY.cell 1
  have y2:=pY.cell 2
  have r0:=pR.cell 0
  have r1:=pR.cell 1
  have r2:=pR.cell 2
  have f0:=pR.frozen 0
  have f1:=pR.frozen 1
  have f2:=pR.frozen 2
  simp only [List.getElem?_cons_zero,List.getElem?_cons_succ] at y0 y1 y2 r0 r1 r2
  have hz:=((pR.set 0 (.map (some nb))).set 1 (.int .i64 (k:Int))).set 2 (.int .i64 0)
  simp only [List.set_cons_zero,List.set_cons_succ] at hz
  have q0:=hz.cell 0
  have q1:=hz.cell 1
  have q2:=hz.cell 2
  simp only [List.getElem?_cons_zero,List.getElem?_cons_succ] at q0 q1 q2
  have hle:w.heap.size≤w.heap.size+1:=by omega
  have bz:=((bw.setCell (p:=⟨w.heap.size+1,0,none⟩) hle (.map (some nb))).setCell (p:=⟨w.heap.size+1,1,none⟩) hle (.int .i64 (k:Int))).setCell (p:=⟨w.heap.size+1,2,none⟩) hle (.int .i64 0)
  have hne:nb≠w.heap.size+1:=by omega
  have hmz:=((hm.setCell (a:=⟨w.heap.size+1,0,none⟩) hne (.map (some nb))).setCell (a:=⟨w.heap.size+1,1,none⟩) hne (.int .i64 (k:Int))).setCell (a:=⟨w.heap.size+1,2,none⟩) hne (.int .i64 0)
  clear hz pR pY hm bw
  go_wp2
  refine bodyPost_ret (by simp [results,Tryz.results51,go_sem,q0,q1,q2];try rfl) rfl ?_
  exact ⟨SU.mk9 hmz hG (by omega),bz⟩


theorem Mn {H:Type} {P:Program} {ops:Array Oper} {o:Oper} {a:Act} {w:World} {K:Act→World→Prop} {Q:Exit→Act→World→Prop} {E:Prop} (hgd:o.guard=none) (m x v:Operand) (t:TypeId) (hop:o.op=Op.mapUpdate t m x v)
  (k e:TypeId) (Kd:Maps.Keyed P k) (ht:P.underlying t=some (.map k e)) (R:Value→Option (DataW H × List MemPlace)) (b n:Nat) (D:DataW H) (hm:a.eval m=.map (some b)) (hown:w.ownsMap P k R b n D) (hn:n<maxLen) (key val:Value) (kl:Lit) (hx:a.eval x=key) (hv:a.eval v=val) (hkey:keyOf P k key=some kl)
  (d:DataW H) (ps:List MemPlace) (hval:R val=some (d,ps)) (hK:∀ w',w'.ownsMap P k R b (n+1) (D.put kl d)→w.grownBy w' (some b)→K (a.put o.dst undef) w'):if Region.wanted o (yielded ops a.tmps)=true then Oper.wp P o a w K Q else E:=by
 have hw:Region.wanted o (yielded ops a.tmps)=true:=by simp [Region.wanted,hgd]
 rw [if_pos hw]
 obtain ⟨w',hrun,r1,r2⟩:=hown.update Kd ht hn hkey hval
 unfold Oper.wp
 simp [execOp,hop,hm,hx,hv,hrun,Result.andThen]
 exact hK w' r1 r2
theorem SE {H:Type} {P:Program} {ops:Array Oper} {o:Oper} {a:Act} {w:World} {K:Act→World→Prop} {Q:Exit→Act→World→Prop} {E:Prop} (hgd:o.guard=none) (m x:Operand) (t:TypeId) (hop:o.op=Op.lookup t m x true)
  (k e:TypeId) (Kd:Maps.Keyed P k) (ht:P.underlying t=some (.map k e)) (R:Value→Option (DataW H × List MemPlace)) {z:Value} (hz:(zeroValue e).run P w=.ok z w) (zd:DataW H) (zp:List MemPlace) (hzd:R z=some (zd,zp)) (b n:Nat) (D:DataW H)
  (hm:a.eval m=.map (some b)) (hown:w.ownsMap P k R b n D) (key:Value) (kl:Lit) (hx:a.eval x=key) (hkey:keyOf P k key=some kl)
  (hK:∀ v ps,R v=some (D.atKey kl zd,ps)→K (a.put o.dst (.tuple #[v,.bool (Maps.has D kl)])) w):if Region.wanted o (yielded ops a.tmps)=true then Oper.wp P o a w K Q else E:=by
 have hw:Region.wanted o (yielded ops a.tmps)=true:=by simp [Region.wanted,hgd]
 rw [if_pos hw]
 obtain ⟨v,ps,hrun,hv⟩:=hown.look_ok Kd ht hz hzd hkey
 unfold Oper.wp
 simp [execOp,hop,hm,hx,hrun,Result.andThen]
 exact hK v ps hv
def Fh (w':World) (nb n:Nat) (D:DataW Value) (L:List EQ):Prop:=∃ D',w'.ownsMap Tryz.prog 9 Vq nb n D'∧Un D' L
theorem JD {w:World} {X4 X2 X5 C nb n:Nat} {g nd:Int} {D:DataW Value} {L:List EQ} (e:E3) (s:Sl2) (p4:Blk w X4 109 [.string e.1,.slice s.1.1 s.1.2.1 s.1.2.2,.slice s.2.1 s.2.2.1 s.2.2.2]) (p2:w.cell? ⟨X2,0,none⟩=some (.pointer (some ⟨C,0,none⟩))) (p5:w.cell? ⟨X5,0,none⟩=some (.string e.1)) (hC:Blk w C 106 [.map (some nb),.int .i64 g,.int .i64 nd]) (hm:w.ownsMap Tryz.prog 9 Vq nb n D) (hG:Un D L) (hk:e.1.size≤maxLen) (hn:n≤4000000000) :
  CallsD Tryz.prog 108 #[.pointer (some ⟨X4,0,none⟩),.pointer (some ⟨X2,0,none⟩),.pointer (some ⟨X5,0,none⟩)] .returning w fun x u' w'=>u'=.returning∧x=.returned (.tuple #[])∧Fh w' nb (n+1) D (VL L e s)∧w.grownBy w' (some nb):=by
 obtain ⟨ek,eb,ez⟩:=e
 obtain ⟨⟨s1a,s1n,s1c⟩,⟨s2a,s2n,s2c⟩⟩:=s
 simp only at p4 p5 hk
 have hkey:keyOf Tryz.prog 9 (.string ek)=some (Ve ek):=WideMaps.keyOf_string_mk Tryz.underlying9 hk
 have hG2:=hG.put hm.isMap (ek,eb,ez) ((s1a,s1n,s1c),(s2a,s2n,s2c))
 have x0:=p4.cell 0
 have x1:=p4.cell 1
 have x2:=p4.cell 2
 have c0:=hC.cell 0
 simp only [List.getElem?_cons_zero,List.getElem?_cons_succ] at x0 x1 x2 c0
 clear p4 hC hG
 go_enter_d Tryz.func108,Tryz.ntmps108
 go_wp2_with fail
 refine wp_region_held_drew (S:=(fun w'=>w'.cell? ⟨X2,0,none⟩=some (.pointer (some ⟨C,0,none⟩))∧w'.cell? ⟨C,0,none⟩=some (.map (some nb))∧w'.cell? ⟨X5,0,none⟩=some (.string ek)∧w'.cell? ⟨X4,0,none⟩=some (.string ek)∧w'.cell? ⟨X4,1,none⟩=some (.slice s1a s1n s1c)∧w'.cell? ⟨X4,2,none⟩=some (.slice s2a s2n s2c))) (by kernel_rfl) ⟨p2,c0,p5,x0,x1,x2⟩ (fun hS0=>?_)
 refine tkv 0 3 (.pointer (some ⟨C,0,none⟩)) ?_
 refine tkv 1 4 (.pointer (some ⟨C,0,none⟩)) ?_
 refine tkv 2 5 (.pointer (some ⟨C,0,none⟩)) ?_
 refine tkv 3 6 (.map (some nb)) ?_
 refine tkv 4 7 (.string ek) ?_
 refine tkv 5 8 (.agg #[.string ek,.slice s1a s1n s1c,.slice s2a s2n s2c]) ?_
 have hmD:=hm.drew
 have gD:w.grownBy w.drew none:=⟨rfl,rfl,rfl,Nat.le_refl _,fun _ _ _=>rfl⟩
 refine tkz 6 (fun K hK=>?_)
 refine Mn rfl _ _ _ 104 rfl 9 109 WE Tryz.underlying104 Vq nb n D rfl hmD (by unfold maxLen;omega) _ _ (Ve ek) rfl rfl hkey (.held (ZU ek ((s1a,s1n,s1c),(s2a,s2n,s2c)))) [] rfl ?_
 intro w9 hm9 hg9
 have hne:∀ (X o:Nat) (v:Value),w.drew.cell? ⟨X,o,none⟩=some v→X≠nb:=fun X o v h9 e9=>by
  obtain ⟨es9,clock,hb9,_⟩:=hmD
  rw [e9] at h9
  simp only [World.cell?] at h9
  rw [hb9] at h9
  simp at h9
 refine hK.out _ _ ⟨Zn hg9 hS0.1 (fun e9=>hne _ _ _ hS0.1 (by injection e9)),Zn hg9 hS0.2.1 (fun e9=>hne _ _ _ hS0.2.1 (by injection e9)),Zn hg9 hS0.2.2.1 (fun e9=>hne _ _ _ hS0.2.2.1 (by injection e9)),Zn hg9 hS0.2.2.2.1 (fun e9=>hne _ _ _ hS0.2.2.2.1 (by injection e9)),Zn hg9 hS0.2.2.2.2.1 (fun e9=>hne _ _ _ hS0.2.2.2.2.1 (by injection e9)),Zn hg9 hS0.2.2.2.2.2 (fun e9=>hne _ _ _ hS0.2.2.2.2.2 (by injection e9))⟩ (fun hS1=>?_)
 clear hK
 try simp only [Act.put,tka,tkb,tkc]
 refine wpAnyH_done (by kernel_rfl) ?_ _
 have HP:Hid (Fh w9 nb (n+1) D (VL L (ek,eb,ez) ((s1a,s1n,s1c),(s2a,s2n,s2c)))):=⟨_,hm9,hG2⟩
 have HG9:Hid (w.grownBy w9 (some nb)):=⟨hg9.os,hg9.tape,hg9.output,hg9.size,fun k h1 h2=>hg9.block k h1 h2⟩
 clear hS0 hS1 hne hm9 hg9 gD hmD hm hG2
 go_wp2
 go_end0
 exact ⟨rfl,HP.out,HG9.out⟩


theorem Uf {zs:List Int} {k:Nat} (h:k<zs.length):zs.getD k 0 ∈ zs:=by simp [List.getD,h]
theorem TE {zs:List Int} {k:Nat} (h:k<zs.length):(zs.map fun z=>48+z).take (k+1)=(zs.map fun z=>48+z).take k++[48+zs.getD k 0]:=by
 rw [List.take_succ_eq_append_getElem (by simpa using h)]
 simp [List.getD,h]
theorem S6 {zs pre xs suf:List Int} {o n:Nat} (h:zs=pre++(xs++suf)) (ho:pre.length=o) (hn:xs.length=n) {j:Nat} (hj:j<n):xs.getD j 0=zs.getD (o+j) 0:=by
 subst h ho hn
 simp [List.getD,List.getElem?_append_right,List.getElem?_append_left hj]

theorem PK (s:S4) (m:V4) (w:World) (h:Yv w s m) (hok:Ze m=true) (hV:ZQ w) :
  Calls Tryz.prog 162 #[s.val] w fun e w'=>e=.returned (.tuple #[.string (ZC m),.int .i64 0])∧Below w.heap.size w w':=by
 have kS:=fun w h=>RW s m w h
 have kL:=fun w=>RE s w
 rw [hok] at kS
 have hM:=fun (W:World) (hb:Below w.heap.size w W)=>h.below hb
 obtain ⟨i8,hi8,hy0,hy1,hy2⟩:=info_parts LD
 obtain ⟨l0,l1,l2,l3,hdig⟩:=ZF hok
 have HD:Hid (∀ z ∈ XJ m,0≤z∧z≤9):=hdig
 obtain ⟨fin,hfin⟩:∃ fin,fin=ZC m:=⟨_,rfl⟩
 rw [← hfin]
 have HF:Hid (fin=strOfNums ((XJ m).map fun z=>48+z)):=hfin
 clear hdig hfin hok
 obtain ⟨⟨j0,_⟩,⟨j1,_⟩,⟨j2,_⟩,⟨j3,_⟩⟩:=h
 obtain ⟨⟨a0,n0,c0⟩,⟨a1,n1,c1⟩,⟨a2,n2,c2⟩,⟨a3,n3,c3⟩⟩:=s
 obtain ⟨zs,hzs⟩:∃ zs,zs=XJ m:=⟨_,rfl⟩
 rw [← hzs] at HD HF
 have hall:zs=((m.1++m.2.1)++m.2.2.1)++m.2.2.2:=hzs
 clear hzs
 have uA:S4.val ((a0,n0,c0),(a1,n1,c1),(a2,n2,c2),(a3,n3,c3))=.agg #[.slice a0 n0 c0,.slice a1 n1 c1,.slice a2 n2 c2,.slice a3 n3 c3]:=rfl
 rw [uA] at kS kL ⊢
 clear uA
 obtain ⟨m0,m1,m2,m3⟩:=m
 simp only at j0 j1 j2 j3 l0 l1 l2 l3 hall
 have HP0:Hid (∀ j,j<3→m0.getD j 0=zs.getD (0+j) 0):=fun j hj=>S6 (pre:=[]) (suf:=m1++m2++m3) (by rw [hall];simp [List.append_assoc]) rfl l0 hj
 have HP1:Hid (∀ j,j<4→m1.getD j 0=zs.getD (3+j) 0):=fun j hj=>S6 (pre:=m0) (suf:=m2++m3) (by rw [hall];simp [List.append_assoc]) l0 l1 hj
 have HP2:Hid (∀ j,j<2→m2.getD j 0=zs.getD (7+j) 0):=fun j hj=>S6 (pre:=m0++m1) (suf:=m3) (by rw [hall];simp [List.append_assoc]) (by simp;omega) l2 hj
 have HP3:Hid (∀ j,j<6→m3.getD j 0=zs.getD (9+j) 0):=fun j hj=>S6 (pre:=m0++m1++m2) (suf:=[]) (by rw [hall];simp [List.append_assoc]) (by simp;omega) l3 hj
 have HL:Hid (zs.length=15):=by rw [hall];simp [Hid];omega
 obtain ⟨rfl,b0,o0,rfl⟩:=Zs j0 l0 (by omega)
 obtain ⟨rfl,b1,o1,rfl⟩:=Zs j1 l1 (by omega)
 obtain ⟨rfl,b2,o2,rfl⟩:=Zs j2 l2 (by omega)
 obtain ⟨rfl,b3,o3,rfl⟩:=Zs j3 l3 (by omega)
 clear l0 l1 l2 l3 hall
 have y0:=MM (.slice (some ⟨b0,o0,none⟩) 3 c0) (.slice (some ⟨b1,o1,none⟩) 4 c1) (.slice (some ⟨b2,o2,none⟩) 2 c2) (.slice (some ⟨b3,o3,none⟩) 6 c3)
 have y1:=MN (.slice (some ⟨b0,o0,none⟩) 3 c0) (.slice (some ⟨b1,o1,none⟩) 4 c1) (.slice (some ⟨b2,o2,none⟩) 2 c2) (.slice (some ⟨b3,o3,none⟩) 6 c3)
 have y2:=MO (.slice (some ⟨b0,o0,none⟩) 3 c0) (.slice (some ⟨b1,o1,none⟩) 4 c1) (.slice (some ⟨b2,o2,none⟩) 2 c2) (.slice (some ⟨b3,o3,none⟩) 6 c3)
 have y3:=MP (.slice (some ⟨b0,o0,none⟩) 3 c0) (.slice (some ⟨b1,o1,none⟩) 4 c1) (.slice (some ⟨b2,o2,none⟩) 2 c2) (.slice (some ⟨b3,o3,none⟩) 6 c3)
 have bw:Below w.heap.size w (w.alloc (.cells #[.slice (some ⟨b0,o0,none⟩) 3 c0,.slice (some ⟨b1,o1,none⟩) 4 c1,.slice (some ⟨b2,o2,none⟩) 2 c2,.slice (some ⟨b3,o3,none⟩) 6 c3] 74)):=by go_grown
 have pA:=Blk.new w 74 [.slice (some ⟨b0,o0,none⟩) 3 c0,.slice (some ⟨b1,o1,none⟩) 4 c1,.slice (some ⟨b2,o2,none⟩) 2 c2,.slice (some ⟨b3,o3,none⟩) 6 c3]
 go_enter Tryz.func162,Tryz.ntmps162
 go_wp2_with fail
 refine (kS _ (hM _ bw) (hV.below bw)).mono ?_
 rintro e w1 ⟨rfl,hb⟩
 replace bw:=Zb bw hb
 replace pA:=pA.below hb
 have g0:=pA.cell 0
 have g1:=pA.cell 1
 have g2:=pA.cell 2
 have g3:=pA.cell 3
 simp at g0 g1 g2 g3
 clear hb kS hM
 go_wp2_with fail
 refine (kL _).mono ?_
 rintro e w2 ⟨rfl,hb⟩
 replace bw:=Zb bw hb
 clear hb kL g0 g1 g2 g3 pA hV
 have hown:w2.ownsRow w.heap.size 5 1 (.slice none 0 0) 0 (u8s ((zs.map fun z=>48+z).take 0)):=World.ownsRow_nil _ _ _ _
 go_wp2_with fail
 refine wp_loop_rounds 5 ?_
 rw [rounds_succ]
 go_wp2_with fail
 go_loopw [4,19] (fun so si wr=>∃ j:Nat,j≤3∧si=.int .i64 j∧wr.ownsRow w.heap.size 5 1 so (0+j) (u8s ((zs.map fun z=>48+z).take (0+j)))∧Below w.heap.size w wr) (fun _ si _=>3 - (intOf si).toNat)
 case atStart=>exact ⟨0,by omega,rfl,hown,bw⟩
 case round =>
  clear hown bw
  obtain ⟨j,hj,rfl,hr,hbw⟩:=hrel
  by_cases hlt:j<3
  ·have hjl:0+j<zs.length:=by rw [HL.out];omega
   have hc:wr.cell? ⟨b0,o0+j,none⟩=some (.int .i64 (zs.getD (0+j) 0)):=by
    rw [← HP0.out j hlt]
    rcases (j0.below hbw).2.2.2 with h9 | ⟨b9,off9,ha9,_,hc9⟩
    ·exact absurd h9 (by decide)
    cases ha9
    exact hc9 j hlt
   have hx:=HD.out (zs.getD (0+j) 0) (Uf hjl)
   have HX:Hid ((zs.map fun z=>48+z).take (0+(j+1))=(zs.map fun z=>48+z).take (0+j)++[48+zs.getD (0+j) 0]):=by
    exact TE hjl
   obtain ⟨d,hd⟩:∃ d:Nat,zs.getD (0+j) 0=(d:Int):=⟨(zs.getD (0+j) 0).toNat,by omega⟩
   rw [hd] at hc hx HX
   have hd9:d≤9:=by omega
   clear hx hd hjl
   have hsz:=hbw.size
   have hjI:(j:Int)<3:=by omega
   go_wp2_with (at_builtin;refine wpList_append_own _ rfl _ _ 22 rfl w.heap.size 5 i8 (.int .u8 0) 1 1 Tryz.underlying22 hi8 hy0 hy1 hy2 rfl (by decide) _ _ _ rfl (hr.alloc _) ⟨wr.heap.size,0,none⟩ 1 1 [.int .u8 (48+(d:Int))] rfl rfl (cell_one_new _ _ _) (RN _) ?c3 ?c4 ?c5 ?_)
   case c3=>unfold maxLen;omega
   case c4=>omega
   case c5=>simp;omega
   intro v' wn hown' hgrow _
   have R:wn.ownsRow w.heap.size 5 1 v' (0+(j+1)) (u8s ((zs.map fun z=>48+z).take (0+(j+1)))):=by
    rw [HX.out]
    simpa [u8s,Nat.add_assoc] using hown'
   have bn:Below w.heap.size w wn:=(hbw.alloc hsz _).grown hgrow (by simp;omega) (fun k hk=>(hr.lt k hk).1)
   clear hown' hgrow hr hbw hc HX
   go_wp2
   go_roundw
   case rel=>exact ⟨j+1,by omega,by go_num,R,bn⟩
   case measure=>simp [intOf];omega
  obtain rfl:j=3:=by omega
  have hown:=hr
  have bw:=hbw
  clear hr hbw
  simp only [Nat.reduceAdd] at hown
  go_wp2_with fail
  rw [rounds_succ]
  replace hown:_:=(show wr.ownsRow w.heap.size 5 1 _ (3+0) (u8s ((zs.map fun z=>48+z).take (3+0))) from hown)
  go_wp2_with fail
  go_loopw [4,19] (fun so si wr=>∃ j:Nat,j≤4∧si=.int .i64 j∧wr.ownsRow w.heap.size 5 1 so (3+j) (u8s ((zs.map fun z=>48+z).take (3+j)))∧Below w.heap.size w wr) (fun _ si _=>4 - (intOf si).toNat)
  case atStart=>exact ⟨0,by omega,rfl,hown,bw⟩
  case round =>
   clear hown bw
   obtain ⟨j,hj,rfl,hr,hbw⟩:=hrel
   by_cases hlt:j<4
   ·have hjl:3+j<zs.length:=by rw [HL.out];omega
    have hc:wr.cell? ⟨b1,o1+j,none⟩=some (.int .i64 (zs.getD (3+j) 0)):=by
     rw [← HP1.out j hlt]
     rcases (j1.below hbw).2.2.2 with h9 | ⟨b9,off9,ha9,_,hc9⟩
     ·exact absurd h9 (by decide)
     cases ha9
     exact hc9 j hlt
    have hx:=HD.out (zs.getD (3+j) 0) (Uf hjl)
    have HX:Hid ((zs.map fun z=>48+z).take (3+(j+1))=(zs.map fun z=>48+z).take (3+j)++[48+zs.getD (3+j) 0]):=by
     exact TE hjl
    obtain ⟨d,hd⟩:∃ d:Nat,zs.getD (3+j) 0=(d:Int):=⟨(zs.getD (3+j) 0).toNat,by omega⟩
    rw [hd] at hc hx HX
    have hd9:d≤9:=by omega
    clear hx hd hjl
    have hsz:=hbw.size
    have hjI:(j:Int)<4:=by omega
    go_wp2_with (at_builtin;refine wpList_append_own _ rfl _ _ 22 rfl w.heap.size 5 i8 (.int .u8 0) 1 1 Tryz.underlying22 hi8 hy0 hy1 hy2 rfl (by decide) _ _ _ rfl (hr.alloc _) ⟨wr.heap.size,0,none⟩ 1 1 [.int .u8 (48+(d:Int))] rfl rfl (cell_one_new _ _ _) (RN _) ?c3 ?c4 ?c5 ?_)
    case c3=>unfold maxLen;omega
    case c4=>omega
    case c5=>simp;omega
    intro v' wn hown' hgrow _
    have R:wn.ownsRow w.heap.size 5 1 v' (3+(j+1)) (u8s ((zs.map fun z=>48+z).take (3+(j+1)))):=by
     rw [HX.out]
     simpa [u8s,Nat.add_assoc] using hown'
    have bn:Below w.heap.size w wn:=(hbw.alloc hsz _).grown hgrow (by simp;omega) (fun k hk=>(hr.lt k hk).1)
    clear hown' hgrow hr hbw hc HX
    go_wp2
    go_roundw
    case rel=>exact ⟨j+1,by omega,by go_num,R,bn⟩
    case measure=>simp [intOf];omega
   obtain rfl:j=4:=by omega
   have hown:=hr
   have bw:=hbw
   clear hr hbw
   simp only [Nat.reduceAdd] at hown
   go_wp2_with fail
   rw [rounds_succ]
   replace hown:_:=(show wr.ownsRow w.heap.size 5 1 _ (7+0) (u8s ((zs.map fun z=>48+z).take (7+0))) from hown)
   go_wp2_with fail
   go_loopw [4,19] (fun so si wr=>∃ j:Nat,j≤2∧si=.int .i64 j∧wr.ownsRow w.heap.size 5 1 so (7+j) (u8s ((zs.map fun z=>48+z).take (7+j)))∧Below w.heap.size w wr) (fun _ si _=>2 - (intOf si).toNat)
   case atStart=>exact ⟨0,by omega,rfl,hown,bw⟩
   case round =>
    clear hown bw
    obtain ⟨j,hj,rfl,hr,hbw⟩:=hrel
    by_cases hlt:j<2
    ·have hjl:7+j<zs.length:=by rw [HL.out];omega
     have hc:wr.cell? ⟨b2,o2+j,none⟩=some (.int .i64 (zs.getD (7+j) 0)):=by
      rw [← HP2.out j hlt]
      rcases (j2.below hbw).2.2.2 with h9 | ⟨b9,off9,ha9,_,hc9⟩
      ·exact absurd h9 (by decide)
      cases ha9
      exact hc9 j hlt
     have hx:=HD.out (zs.getD (7+j) 0) (Uf hjl)
     have HX:Hid ((zs.map fun z=>48+z).take (7+(j+1))=(zs.map fun z=>48+z).take (7+j)++[48+zs.getD (7+j) 0]):=by
      exact TE hjl
     obtain ⟨d,hd⟩:∃ d:Nat,zs.getD (7+j) 0=(d:Int):=⟨(zs.getD (7+j) 0).toNat,by omega⟩
     rw [hd] at hc hx HX
     have hd9:d≤9:=by omega
     clear hx hd hjl
     have hsz:=hbw.size
     have hjI:(j:Int)<2:=by omega
     go_wp2_with (at_builtin;refine wpList_append_own _ rfl _ _ 22 rfl w.heap.size 5 i8 (.int .u8 0) 1 1 Tryz.underlying22 hi8 hy0 hy1 hy2 rfl (by decide) _ _ _ rfl (hr.alloc _) ⟨wr.heap.size,0,none⟩ 1 1 [.int .u8 (48+(d:Int))] rfl rfl (cell_one_new _ _ _) (RN _) ?c3 ?c4 ?c5 ?_)
     case c3=>unfold maxLen;omega
     case c4=>omega
     case c5=>simp;omega
     intro v' wn hown' hgrow _
     have R:wn.ownsRow w.heap.size 5 1 v' (7+(j+1)) (u8s ((zs.map fun z=>48+z).take (7+(j+1)))):=by
      rw [HX.out]
      simpa [u8s,Nat.add_assoc] using hown'
     have bn:Below w.heap.size w wn:=(hbw.alloc hsz _).grown hgrow (by simp;omega) (fun k hk=>(hr.lt k hk).1)
     clear hown' hgrow hr hbw hc HX
     go_wp2
     go_roundw
     case rel=>exact ⟨j+1,by omega,by go_num,R,bn⟩
     case measure=>simp [intOf];omega
    obtain rfl:j=2:=by omega
    have hown:=hr
    have bw:=hbw
    clear hr hbw
    simp only [Nat.reduceAdd] at hown
    go_wp2_with fail
    rw [rounds_succ]
    replace hown:_:=(show wr.ownsRow w.heap.size 5 1 _ (9+0) (u8s ((zs.map fun z=>48+z).take (9+0))) from hown)
    go_wp2_with fail
    go_loopw [4,19] (fun so si wr=>∃ j:Nat,j≤6∧si=.int .i64 j∧wr.ownsRow w.heap.size 5 1 so (9+j) (u8s ((zs.map fun z=>48+z).take (9+j)))∧Below w.heap.size w wr) (fun _ si _=>6 - (intOf si).toNat)
    case atStart=>exact ⟨0,by omega,rfl,hown,bw⟩
    case round =>
     clear hown bw
     obtain ⟨j,hj,rfl,hr,hbw⟩:=hrel
     by_cases hlt:j<6
     ·have hjl:9+j<zs.length:=by rw [HL.out];omega
      have hc:wr.cell? ⟨b3,o3+j,none⟩=some (.int .i64 (zs.getD (9+j) 0)):=by
       rw [← HP3.out j hlt]
       rcases (j3.below hbw).2.2.2 with h9 | ⟨b9,off9,ha9,_,hc9⟩
       ·exact absurd h9 (by decide)
       cases ha9
       exact hc9 j hlt
      have hx:=HD.out (zs.getD (9+j) 0) (Uf hjl)
      have HX:Hid ((zs.map fun z=>48+z).take (9+(j+1))=(zs.map fun z=>48+z).take (9+j)++[48+zs.getD (9+j) 0]):=by
       exact TE hjl
      obtain ⟨d,hd⟩:∃ d:Nat,zs.getD (9+j) 0=(d:Int):=⟨(zs.getD (9+j) 0).toNat,by omega⟩
      rw [hd] at hc hx HX
      have hd9:d≤9:=by omega
      clear hx hd hjl
      have hsz:=hbw.size
      have hjI:(j:Int)<6:=by omega
      go_wp2_with (at_builtin;refine wpList_append_own _ rfl _ _ 22 rfl w.heap.size 5 i8 (.int .u8 0) 1 1 Tryz.underlying22 hi8 hy0 hy1 hy2 rfl (by decide) _ _ _ rfl (hr.alloc _) ⟨wr.heap.size,0,none⟩ 1 1 [.int .u8 (48+(d:Int))] rfl rfl (cell_one_new _ _ _) (RN _) ?c3 ?c4 ?c5 ?_)
      case c3=>unfold maxLen;omega
      case c4=>omega
      case c5=>simp;omega
      intro v' wn hown' hgrow _
      have R:wn.ownsRow w.heap.size 5 1 v' (9+(j+1)) (u8s ((zs.map fun z=>48+z).take (9+(j+1)))):=by
       rw [HX.out]
       simpa [u8s,Nat.add_assoc] using hown'
      have bn:Below w.heap.size w wn:=(hbw.alloc hsz _).grown hgrow (by simp;omega) (fun k hk=>(hr.lt k hk).1)
      clear hown' hgrow hr hbw hc HX
      go_wp2
      go_roundw
      case rel=>exact ⟨j+1,by omega,by go_num,R,bn⟩
      case measure=>simp [intOf];omega
     obtain rfl:j=6:=by omega
     have hown:=hr
     have bw:=hbw
     clear hr hbw
     simp only [Nat.reduceAdd] at hown
     have hfull:(zs.map fun z=>48+z).take 15=zs.map fun z=>48+z:=List.take_of_length_le (by simp [HL.out])
     rw [hfull] at hown
     have hcv:=Uw hown
     rw [← HF.out] at hcv
     clear hown hfull
     go_wp2_with fail
     rw [rounds_succ]
     go_wp2
     go_ret2
     exact ⟨rfl,bw⟩


theorem GG {w:World} {g:Nat} {cs:Sl × Sl × Sl} {m:V4} (hM:Blk w g 69 (Zi cs.1.val cs.2.1.val cs.2.2.val m)) (hs:Ze m=true) (hV:ZQ w) :
  Calls Tryz.prog 107 #[.pointer (some ⟨g,0,none⟩)] w fun e w'=>e=.returned (.string (ZC m))∧Below w.heap.size w w':=by
 have kS:=H8 (cs:=cs) hM hs
 have fz:=(Xf hs).1
 go_enter Tryz.func107,Tryz.ntmps107
 go_wp2_with fail
 refine kS.mono ?_
 rintro e w1 ⟨⟨t,rfl,hO⟩,hb⟩
 have kK:=PK t m w1 (hO.mem fz) hs (hV.below hb)
 clear hO kS
 obtain ⟨⟨t0a,t0n,t0c⟩,⟨t1a,t1n,t1c⟩,⟨t2a,t2n,t2c⟩,⟨t3a,t3n,t3c⟩⟩:=t
 unfold S4.val at kK ⊢
 simp only at kK ⊢
 go_wp2_with fail
 refine kK.mono ?_
 rintro e w2 ⟨rfl,hb2⟩
 go_wp2
 go_ret
 exact ⟨rfl,Zm hb hb2⟩

end Go.Proofs.YtmhlokahmblboaaGreatDoor
