/-
  Joined: FulB, FulD, KeyB, SpcP, OnmP, VisB, ChfI, Vj1I.
-/
import Derived.Carry
import Derived.Test.YtnffeclgboomoaaGreatDoorR36

namespace Go.Proofs.YtnffeclgboomoaaGreatDoor
set_option maxRecDepth 100000
set_option maxHeartbeats 16000000
set_option linter.unusedVariables false

def Qe (rows:List (List I3)) (m:V4) (k:Nat):Nat:=(Xq rows k).length - (m.1.getD k 0).toNat
theorem Jy {rows:List (List I3)} {m:V4} (hp:Zq rows=true) (hs:Zh m=true) {k:Nat} (hk:k<3) (hd:Yt rows m k=false) :
  Qe rows (goM rows m k).1 k+1≤Qe rows m k∧∀ j,j≠k→Qe rows (goM rows m k).1 j=Qe rows m j:=by
 have h1:=KJ hp hs hk hd
 have hb:=Ys hs
 have hpc:=Vp hb.1 (by omega) k
 have hlt:m.1.getD k 0<(Xq rows k).length:=by
  unfold Yt at hd
  rw [decide_eq_false_iff_not] at hd
  omega
 rw [Jb]
 refine ⟨?_,fun j hj=>?_⟩
 ·unfold Qe
  omega
 unfold Qe
 rw [NM m _ hj]


def Xc (rows:List (List I3)) (m:V4):Nat:=Qe rows m 0+Qe rows m 1+Qe rows m 2
theorem QH {rows:List (List I3)} {m:V4} (hp:Zq rows=true) (hs:Zh m=true) {k:Int} (h:VQ rows m k=0):Xc rows (goM rows m k).1+1≤Xc rows m:=by
 obtain ⟨h0,h2,hd,hc⟩:=X8 h
 obtain ⟨q,rfl⟩:∃ q:Nat,k=q:=⟨k.toNat,by omega⟩
 rw [Int.toNat_natCast] at hd
 obtain ⟨r1,r2⟩:=Jy hp hs (show q<3 by omega) hd
 unfold Xc
 have hq:q=0∨q=1∨q=2:=by omega
 rcases hq with rfl | rfl | rfl
 ·have a:=r2 1 (by omega);have b:=r2 2 (by omega);omega
 ·have a:=r2 0 (by omega);have b:=r2 2 (by omega);omega
 have a:=r2 0 (by omega);have b:=r2 1 (by omega);omega
theorem XM {rows:List (List I3)} {m:V4} {k:Int} (h:k ∈ Zv rows m 3):VQ rows m k=0:=(Hp (t:=(k,(goM rows m k).1)) (List.mem_map.2 ⟨k,h,rfl⟩)).1

open Go.RowKit
set_option linter.unusedSimpArgs false

theorem K4 (xs:List Int) (h:∀ x ∈ xs,0≤x∧x≤255) (i:Nat) (hi:i<xs.length):btV (strOfNums xs) i=xs.getD i 0:=by
 have hx:=h xs[i] (List.getElem_mem hi)
 unfold btV
 simp [strOfNums,List.getD,List.getElem?_eq_getElem hi]
 omega
theorem WI {m:V4} (h:Zh m=true):(ZG m).size=15:=by
 obtain ⟨l0,l1,l2,l3,_⟩:=ZQ h
 unfold ZG
 rw [strOfNums_size,List.length_map]
 unfold X6
 simp [l0,l1,l2,l3]
theorem QA {m:V4} (h:Zh m=true):XL (ZG m)=m:=by
 obtain ⟨l0,l1,l2,l3,hd⟩:=ZQ h
 have hb:∀ i,i<15→btV (ZG m) i - 48=(X6 m).getD i 0:=fun i hi=>by
  have hl:(X6 m).length=15:=by unfold X6;simp [l0,l1,l2,l3]
  unfold ZG
  rw [K4 _ (fun x hx=>by obtain ⟨z,hz,rfl⟩:=List.mem_map.1 hx;have:=hd z hz;omega) i (by rw [List.length_map];omega)]
  have e:((X6 m).map fun z=>48+z).getD i 0=48+(X6 m).getD i 0:=by
   have hi':i<(X6 m).length:=by omega
   simp [List.getD,List.getElem?_eq_getElem hi']
  rw [e]
  omega
 have b0:=hb 0 (by omega)
 have b1:=hb 1 (by omega)
 have b2:=hb 2 (by omega)
 have b3:=hb 3 (by omega)
 have b4:=hb 4 (by omega)
 have b5:=hb 5 (by omega)
 have b6:=hb 6 (by omega)
 have b7:=hb 7 (by omega)
 have b8:=hb 8 (by omega)
 have b9:=hb 9 (by omega)
 have b10:=hb 10 (by omega)
 have b11:=hb 11 (by omega)
 have b12:=hb 12 (by omega)
 have b13:=hb 13 (by omega)
 have b14:=hb 14 (by omega)
 clear hb hd l0 l1 l2 l3
 obtain ⟨p0,p1,p2,v0,v1,v2,v3,h0,h1,x0,y0,x1,y1,x2,y2,rfl⟩:=Ua h
 unfold XL Yy WD
 simp [List.range_succ,b0,b1,b2,b3,b4,b5,b6,b7,b8,b9,b10,b11,b12,b13,b14]
 simp [X6]
theorem Jh {m q:V4} (h:Zh m=true) (h':Zh q=true) (e:ZG m=ZG q):m=q:=by rw [← QA h,e,QA h']


theorem GD {s t:ByteArray} (h:s≠t):(Lit.string s.data.toList)≠Lit.string t.data.toList:=fun e=>by
 injection e with e
 exact h (ByteArray.ext (Array.ext' e))
/-! The records of states: 22 cells each. -/


def Vi (v:Value):Option (DataW Value × List MemPlace):=some (.held v,[])
def WX (k:ByteArray):Lit:=.string k.data.toList
theorem M2 {a b:ByteArray} (h:a≠b):WX a≠WX b:=GD h
structure Uk (D:DataW Value) (L:List EQ):Prop where
 up:UpE (L.map (·.1))
 has:∀ k:ByteArray,Maps.has D (WX k)=isE (L.map (·.1)) k
 at9:∀ x ∈ L,∀ z,D.atKey (WX x.1.1) z=.held (ZM x.1.1 x.2)
theorem Uk.start:Uk (.map []) []:=⟨List.Pairwise.nil,fun k=>by simp [Maps.has,isE],fun x hx=>by cases hx⟩
theorem Kt {es:List E3} {e x:E3} (hU:UpE es) (hx:x ∈ es) (hne:x.1≠e.1):x ∈ Ws es e:=by
 unfold Ws
 simp only [List.mem_append,List.mem_singleton]
 cases hi:isE es e.1
 ·simp only [Bool.false_eq_true,if_false]
  rw [← List.take_append_drop (Yp es e.1) es] at hx
  rcases List.mem_append.1 hx with h | h
  ·exact .inl (.inl h)
  exact .inr h
 simp only [if_true]
 simp only [isE,Bool.and_eq_true,decide_eq_true_eq] at hi
 rw [← List.take_append_drop (Yp es e.1) es] at hx
 rcases List.mem_append.1 hx with h | h
 ·exact .inl (.inl h)
 rw [List.drop_eq_getElem_cons hi.1] at h
 rcases List.mem_cons.1 h with h9 | h9
 ·exfalso
  refine hne ?_
  have h8:=hi.2
  rw [Y4 hi.1] at h8
  rw [h9]
  exact h8
 exact .inr h9
theorem Hf {es:List E3} {e:E3} (hU:UpE es) (k:ByteArray):isE (Ws es e) k=if k=e.1 then true else isE es k:=by
 have hU2:=RC (e:=e) hU
 by_cases hk:k=e.1
 ·rw [if_pos hk]
  refine (WG hU2).2 ⟨e,?_,hk.symm⟩
  unfold Ws
  simp
 rw [if_neg hk,Bool.eq_iff_iff,WG hU2,WG hU]
 constructor
 ·rintro ⟨x,hx,rfl⟩
  rcases Ui hx with h9 | h9
  ·rw [h9] at hk;exact absurd rfl hk
  exact ⟨x,h9,rfl⟩
 rintro ⟨x,hx,rfl⟩
 exact ⟨x,Kt hU hx hk,rfl⟩
theorem Ku {L:List EQ} {e:E3} {s:Sl2} (hU:UpE (L.map (·.1))) {x:EQ} (hx:x ∈ VE L e s):x=(e,s)∨(x ∈ L∧x.1.1≠e.1):=by
 unfold VE at hx
 simp only [List.mem_append,List.mem_singleton] at hx
 rcases hx with (hx | hx) | hx
 ·refine .inr ⟨List.mem_of_mem_take hx,fun h=>?_⟩
  have h1:x.1 ∈ (L.map (·.1)).take (Yp (L.map (·.1)) e.1):=by rw [← List.map_take];exact List.mem_map.2 ⟨x,hx,rfl⟩
  obtain ⟨t,h2,h3,h4⟩:=TT h1
  have:=Vy h2
  rw [← h4,h,Uy] at this
  cases this
 ·exact .inl hx
 refine .inr ⟨List.mem_of_mem_drop hx,fun h=>?_⟩
 have h1:x.1 ∈ (L.map (·.1)).drop (if isE (L.map (·.1)) e.1 then Yp (L.map (·.1)) e.1+1 else Yp (L.map (·.1)) e.1):=by rw [← List.map_drop];exact List.mem_map.2 ⟨x,hx,rfl⟩
 obtain ⟨t,h2,h3,h4⟩:=QK h1
 have:=Tq hU h2 h3
 rw [← h4,h,Uy] at this
 cases this
theorem Uk.put {D:DataW Value} {L:List EQ} (h:Uk D L) (hm:Maps.IsMap D) (e:E3) (s:Sl2):Uk (D.put (WX e.1) (.held (ZM e.1 s))) (VE L e s):=by
 have hkl:WideAt.IsKeyLit (WX e.1):=trivial
 refine ⟨by rw [Tr];exact RC h.up,fun k=>?_,fun x hx z=>?_⟩
 ·rw [Tr,Hf h.up]
  by_cases hk:k=e.1
  ·rw [if_pos hk,hk,Maps.has_put_same hm hkl]
  rw [if_neg hk,Maps.has_put_other (M2 hk),h.has]
 rcases Ku h.up hx with h9 | ⟨h9,hne⟩
 ·rw [h9,Maps.atKey_put_same hm hkl]
 rw [Maps.atKey_put_other (M2 hne),h.at9 x h9]
theorem Uk.found {D:DataW Value} {L:List EQ} (h:Uk D L) {k:ByteArray} (hi:isE (L.map (·.1)) k=true):∃ s,(WU (L.map (·.1)) k,s) ∈ L∧(WU (L.map (·.1)) k).1=k∧∀ z,D.atKey (WX k) z=.held (ZM k s):=by
 have hi2:=hi
 simp only [isE,Bool.and_eq_true,decide_eq_true_eq] at hi2
 have hf:WU (L.map (·.1)) k=(L.map (·.1)).getD (Yp (L.map (·.1)) k) e3d:=by unfold WU;rw [if_pos hi]
 have hl:Yp (L.map (·.1)) k<L.length:=by simpa using hi2.1
 have hx:(L[Yp (L.map (·.1)) k]).1=WU (L.map (·.1)) k:=by
  rw [hf,Y4 hi2.1]
  simp
 refine ⟨(L[Yp (L.map (·.1)) k]).2,?_,by rw [hf];exact hi2.2,?_⟩
 ·rw [← hx]
  exact List.getElem_mem _
 have h9:=h.at9 _ (List.getElem_mem hl)
 rw [hx,show (WU (L.map (·.1)) k).1=k by rw [hf];exact hi2.2] at h9
 exact h9


theorem Zf {P:Program} {ops:Array Oper} {o:Oper} {a:Act} {w:World} {K:Act→World→Prop} {Q:Exit→Act→World→Prop} {E:Prop} (hgd:o.guard=none) (ty:TypeId) (x y:Operand) (ho:o.op=.store ty x y) (g:Nat) (vs:List Value) (hx:a.eval x=.pointer (some ⟨g,0,none⟩)) (hy:a.eval y=.agg vs.toArray) {t:Nat} {cs:List Value} (hB:Blk w g t cs)
  (hi:(P.info? ty).map (·.size)=some vs.length) (hl:cs.length=vs.length) (h1:vs.all (·.oneCell')=true)
  (h:∀ w',Hid (Blk w' g t vs)→w.grownBy w' (some g)→K (a.put o.dst undef) w'):if Region.wanted o (yielded ops a.tmps)=true then Oper.wp P o a w K Q else E:=by
 have hw:Region.wanted o (yielded ops a.tmps)=true:=by simp [Region.wanted,hgd]
 rw [if_pos hw]
 exact wp_store_row ty x y ho g vs.toArray hx hy t cs.toArray hB (by simpa using hi) (by simpa using hl) (by simpa using h1) (h _ (Us vs hB) (Wo _ _ _))
def T3 (cs:List Value):Prop:=∀ u ∈ cs,∀ k v,u≠Value.int k v
theorem Zu (v:Value) (h:∀ k z,v≠.int k z):T3 [v]:=by intro u hu k z;rw [List.mem_singleton.1 hu];exact h k z
theorem Zt (k:ByteArray) (s:Sl2):T3 (Yj k s):=by
 intro u hu q v e
 unfold Yj at hu
 simp only [List.mem_cons,List.not_mem_nil,or_false] at hu
 rcases hu with rfl | rfl | rfl<;>cases e
theorem Wu {w:World} {X T b o:Nat} {cs:List Value} (hB:Blk w X T cs) (hn:T3 cs) {k:IntKind} {v:Int} (h:w.cell? ⟨b,o,none⟩=some (.int k v)):b≠X:=by
 rintro rfl
 rw [hB.cell] at h
 exact hn _ (List.mem_of_getElem? h) _ _ rfl
theorem Yi.box {k:IntKind} {w w':World} {a:Option Addr} {n c X T:Nat} {zs:List Int} {cs:List Value} (h:Yi k w a n c zs) (hB:Blk w X T cs) (hn:T3 cs) (hg:w.grownBy w' (some X)):Yi k w' a n c zs:=by
 obtain ⟨h1,h2,h3,h4⟩:=h
 refine ⟨h1,h2,h3,?_⟩
 rcases h4 with h4 | ⟨b,off,ha,hlt,hc⟩
 ·exact .inl h4
 exact .inr ⟨b,off,ha,by have:=hg.size;omega,fun t ht=>Zg hg (hc t ht) (fun e=>Wu hB hn (hc t ht) (by cases e;rfl))⟩
theorem Zm.box {w w':World} {a:Option Addr} {n c X T:Nat} {xs:List I3} {cs:List Value} (h:Zm w a n c xs) (hB:Blk w X T cs) (hn:T3 cs) (hg:w.grownBy w' (some X)):Zm w' a n c xs:=by
 obtain ⟨h1,h2,h3,h0,h4⟩:=h
 refine ⟨h1,h2,h3,h0,?_⟩
 rcases h4 with h4 | ⟨b,off,ha,hlt,hc⟩
 ·exact .inl h4
 exact .inr ⟨b,off,ha,by have:=hg.size;omega,fun t ht=>⟨Zg hg (hc t ht).1 (fun e=>Wu hB hn (hc t ht).1 (by cases e;rfl)),Zg hg (hc t ht).2.1 (fun e=>Wu hB hn (hc t ht).2.1 (by cases e;rfl)),Zg hg (hc t ht).2.2 (fun e=>Wu hB hn (hc t ht).2.2 (by cases e;rfl))⟩⟩
theorem YI.box {w w':World} {s:Sl2} {e:E3} {X T:Nat} {cs:List Value} (h:YI w s e) (hB:Blk w X T cs) (hn:T3 cs) (hg:w.grownBy w' (some X)):YI w' s e:=⟨h.1,h.2.1.box hB hn hg,h.2.2.1.box hB hn hg,h.2.2.2⟩
def ZB (a:Option Addr) (n X:Nat):Prop:=n=0∨∀ b o,a=some ⟨b,o,none⟩→b≠X
theorem YV.box {w w':World} {a:Option Addr} {n c X T:Nat} {es:List E3} {cs:List Value} (h:YV w a n c es) (hX:ZB a n X) (hB:Blk w X T cs) (hn:T3 cs) (hg:w.grownBy w' (some X)):YV w' a n c es:=by
 obtain ⟨h1,h2,h3,h4⟩:=h
 refine ⟨h1,h2,h3,?_⟩
 rcases h4 with h4 | ⟨b,off,ha,hlt,hc⟩
 ·exact .inl h4
 refine .inr ⟨b,off,ha,by have:=hg.size;omega,fun t ht=>?_⟩
 have hne:b≠X:=by
  rcases hX with h9 | h9
  ·omega
  exact h9 b off ha
 obtain ⟨s,c0,c1,c2,hm⟩:=hc t ht
 exact ⟨s,Zg hg c0 (fun e=>hne (by cases e;rfl)),Zg hg c1 (fun e=>hne (by cases e;rfl)),Zg hg c2 (fun e=>hne (by cases e;rfl)),hm.box hB hn hg⟩
theorem Zr {w:World} {a:Option Addr} {n c X:Nat} {es:List E3} (h:YV w a n c es) (hX:w.heap.size≤X):ZB a n X:=by
 rcases h.2.2.2 with h4 | ⟨b,off,ha,hlt,hc⟩
 ·exact .inl h4
 exact .inr (fun b' o' e=>by rw [ha] at e;cases e;omega)
theorem ZB.new {a:Option Addr} {n B X:Nat} (h:∀ b o,a=some ⟨b,o,none⟩→B≤b) (hX:X<B):ZB a n X:=.inr (fun b o e=>by have:=h b o e;omega)
theorem YI.zero9 (w:World):YI w ((none,0,0),(none,0,0)) e3d:=⟨⟨by unfold maxLen;decide,fun _=>rfl,fun _=>rfl⟩,⟨rfl,Nat.le_refl _,Nat.zero_le _,by simp [e3d],.inl rfl⟩,⟨rfl,Nat.le_refl _,Nat.zero_le _,.inl rfl⟩,by simp [e3d]⟩
def J2 (x:Ending) (w':World) (B:Nat) (es:List E3):Prop:=∃ a n c,x=.returned (.agg #[.slice a n c])∧YV w' a n c es∧(a=none→c=0)∧∀ b o,a=some ⟨b,o,none⟩→B≤b
theorem Ml (a:Option Addr) (n c:Nat) (es:List E3) (e:E3) (s:Sl2) (w:World) (h:YV w a n c es) (hnil:a=none→c=0) (hok:UpR es) (hE:YI w s e) :
  Calls Tryz.prog 174 #[.agg #[.slice a n c],ZM e.1 s] w fun x w'=>J2 x w' w.heap.size (Ws es e)∧Below w.heap.size w w':=by
 obtain ⟨L,rfl,hQ⟩:=h.q
 refine (Nd a n c L e s w hQ hnil hok hE.1.1).mono ?_
 rintro x w' ⟨⟨v,rfl,q⟩,hb⟩
 have q0:=q
 obtain ⟨va,vc,rfl⟩:=ZH q
 refine ⟨⟨va,_,vc,rfl,?_,?_,?_⟩,hb⟩
 ·rw [← Tr L e s]
  refine (Xo.of_owns q (fun x hx=>?_)).ents
  rcases RE hx with h9 | h9
  ·exact (hQ.2.2.2.1 x h9).below hb
  rw [h9];exact hE.below hb
 ·intro hv
  rcases q0.2 with ⟨h1,_⟩ | ⟨g,cap,cur,h1,_⟩
  ·injection h1
  injection h1 with h3
  rw [hv] at h3
  cases h3
 intro b o hv
 rcases q0.2 with ⟨h1,_⟩ | ⟨g,cap,cur,h1,h2,_⟩
 ·injection h1 with h3
  rw [hv] at h3
  cases h3
 injection h1 with h3
 rw [hv] at h3
 injection h3 with h4
 injection h4 with h5
 rw [h5]
 exact h2


theorem Ww:Maps.Keyed Tryz.prog 9:=Maps.string_keyed Tryz.underlying9
theorem Lg {w:World} {C nb:Nat} (g nd:Nat) (hC:Blk w C 132 [.map (some nb),.int .i64 (g:Int),.int .i64 (nd:Int)]) (hs:g+nd≤4000000000) :
  Calls Tryz.prog 71 #[.pointer (some ⟨C,0,none⟩)] w fun e w'=>e=.returned (.bool (decide (2000<g+nd)))∧Below w.heap.size w w':=by
 have c1:=hC.cell 1
 have c2:=hC.cell 2
 simp only [List.getElem?_cons_zero,List.getElem?_cons_succ] at c1 c2
 have hw1:IntKind.i64.wrap ((g:Int)+(nd:Int))=(g:Int)+(nd:Int):=by rw [IntKind.wrap_i64];omega
 obtain ⟨b,hb⟩:∃ b,b=decide (2000<g+nd):=⟨_,rfl⟩
 rw [← hb]
 have HB:Hid (b=decide ((2000:Int)<(g:Int)+(nd:Int))):=by
  rw [Hid,hb]
  by_cases h:2000<g+nd
  ·rw [decide_eq_true h,decide_eq_true (by omega)]
  rw [decide_eq_false h,decide_eq_false (by omega)]
 clear hb hC
 go_enter Tryz.func71,Tryz.ntmps71
 go_wp2_with fail
 go_quiet (fail)
 go_wp2
 go_ret
 exact ⟨by rw [HB.out];rfl,GM (Below.refl _ _) _⟩
theorem Kv {L:List EQ} {k:Nat} (hU:UpE (L.map (·.1))) (hk:k<L.length):VE (L.take k) (L[k]).1 (L[k]).2=L.take (k+1):=by
 have hp:Yp ((L.take k).map (·.1)) (L[k]).1.1=k:=PB (fun i hi=>by
  have h9:=hU.lt (i:=i) (j:=k) hi (by simpa using hk)
  rw [Y4 (show i<(L.map (·.1)).length by rw [List.length_map];omega),Y4 (show k<(L.map (·.1)).length by simpa using hk)] at h9
  rw [Y4 (show i<((L.take k).map (·.1)).length by rw [List.length_map,List.length_take];omega)]
  simpa using h9) (by rw [List.length_map,List.length_take];omega) (fun h9=>by rw [List.length_map,List.length_take] at h9;omega)
 have hi:isE ((L.take k).map (·.1)) (L[k]).1.1=false:=by
  unfold isE
  rw [hp,decide_eq_false (by rw [List.length_map,List.length_take];omega)]
  rfl
 unfold VE
 rw [hp,hi,List.take_take,Nat.min_self]
 simp only [Bool.false_eq_true,if_false]
 rw [List.drop_of_length_le (by rw [List.length_take];omega),List.append_nil,List.take_add_one,List.getElem?_eq_getElem hk]
 rfl
def SJ (e:Ending) (w':World) (B n:Nat) (L:List EQ):Prop:=∃ (nb:Nat) (D:DataW Value),e=.returned (.agg #[.map (some nb),.int .i64 (n:Int),.int .i64 0])∧w'.ownsMap Tryz.prog 9 Vi nb n D∧Uk D L∧B≤nb
theorem SJ.mk9 {w':World} {B n nb:Nat} {L:List EQ} {D:DataW Value} (h:w'.ownsMap Tryz.prog 9 Vi nb n D) (hG:Uk D L) (hB:B≤nb):SJ (.returned (.agg #[.map (some nb),.int .i64 (n:Int),.int .i64 0])) w' B n L:=⟨nb,D,rfl,h,hG,hB⟩
theorem Q6 (a:Option Addr) (n c:Nat) (L:List EQ) (w:World) (hQ:Xo w a n c L) (hok:Y5 (L.map (·.1))=true) :
  Calls Tryz.prog 69 #[.agg #[.slice a n c]] w fun e w'=>SJ e w' w.heap.size n L∧Below w.heap.size w w':=by
 have hU:UpE (L.map (·.1)):=(MH hok).up
 have hl:=hQ.1
 have hn2:n≤2000:=by have:=Uh hok;rw [List.length_map] at this;omega
 have hmm:=@run_makeMap Tryz.prog
 have bw:Below w.heap.size w ((w.alloc (.cells #[.slice a n c] 33)).alloc (.cells #[.map none,.int .i64 0,.int .i64 0] 132)):=by go_grown
 have pM:Blk ((w.alloc (.cells #[.slice a n c] 33)).alloc (.cells #[.map none,.int .i64 0,.int .i64 0] 132)) w.heap.size 33 [.slice a n c]:=Zi _ (Zj _ _ _ rfl)
 have pR:Blk ((w.alloc (.cells #[.slice a n c] 33)).alloc (.cells #[.map none,.int .i64 0,.int .i64 0] 132)) (w.heap.size+1) 132 [.map none,.int .i64 0,.int .i64 0]:=Zj _ _ _ (by simp)
 go_enter Tryz.func69,Tryz.ntmps69
 go_upto_region 1 with fail
 generalize ((w.alloc (.cells #[.slice a n c] 33)).alloc (.cells #[.map none,.int .i64 0,.int .i64 0] 132))=U at *
 have g0:=pM.cell 0
 simp only [List.getElem?_cons_zero] at g0
 have hb1:Below U.heap.size U (U.alloc (.map #[] 0)):=⟨rfl,rfl,rfl,by simp,fun k hk=>Below.heap_alloc U _ k hk⟩
 have g1:=XK hb1 g0
 go_upto_region 2 with fail
 have hb2:Below (U.alloc (.map #[] 0)).heap.size (U.alloc (.map #[] 0)) ((U.alloc (.map #[] 0)).alloc (.cells #[.map (some U.heap.size),.int .i64 (n:Int),.int .i64 0] 132)):=by go_grown
 have hb:=Zn hb1 hb2
 have pY:Blk ((U.alloc (.map #[] 0)).alloc (.cells #[.map (some U.heap.size),.int .i64 (n:Int),.int .i64 0] 132)) (U.heap.size+1) 132 [.map (some U.heap.size),.int .i64 (n:Int),.int .i64 0]:=Zj _ _ _ (by simp)
 have hm0:((U.alloc (.map #[] 0)).alloc (.cells #[.map (some U.heap.size),.int .i64 (n:Int),.int .i64 0] 132)).ownsMap Tryz.prog 9 Vi U.heap.size 0 (.map []:DataW Value):=(World.ownsMap_made (H:=Value) U Tryz.prog 9 Vi).alloc _
 have hnbU:=bw.size
 have hsz9:w.heap.size+2≤U.heap.size:=by have:=pR.lt;omega
 replace bw:=Zn bw hb
 replace pM:=pM.below hb
 replace pR:=pR.below hb
 clear hb hb1 hb2 g0 g1 hmm
 generalize ((U.alloc (.map #[] 0)).alloc (.cells #[.map (some U.heap.size),.int .i64 (n:Int),.int .i64 0] 132))=V at *
 generalize hnb:U.heap.size=nb at *
 clear hnb
 have g0:=pM.cell 0
 simp only [List.getElem?_cons_zero] at g0
 go_upto_region 3 with fail
 clear g0
 go_loopw [14] (fun s14 wr=>∃ (k:Nat) (D:DataW Value),s14=.int .i64 (k:Int)∧k≤n∧wr.ownsMap Tryz.prog 9 Vi nb k D∧Uk D (L.take k)∧Below w.heap.size w wr∧Blk wr (nb+1) 132 [.map (some nb),.int .i64 (n:Int),.int .i64 0]∧Blk wr (w.heap.size+1) 132 [.map none,.int .i64 0,.int .i64 0]) (fun s14 _=>n - (Go.RowKit.intOf s14).toNat)
 case atStart=>exact ⟨0,_,rfl,Nat.zero_le _,hm0,by rw [List.take_zero];exact Uk.start,bw,pY,pR⟩
 case round =>
  clear hm0 pY pR bw pM
  obtain ⟨k,D,rfl,hkn,hm,hG,bw,pY,pR⟩:=hrel
  by_cases hlt:k<n
  ·have hlt3:(k:Int)<(n:Int):=by omega
   have hk0:(0:Int)≤(k:Int):=by omega
   obtain ⟨_,_,_,hmem,hcase⟩:=hQ.below bw
   rcases hcase with e0 | ⟨b,off,rfl,hblt,hcell⟩
   ·omega
   have hkl:k<L.length:=by omega
   have hpq:=Kv hU hkl
   have hx:=hmem _ (List.getElem_mem hkl)
   have hxe:L[k]?=some L[k]:=List.getElem?_eq_getElem hkl
   have hc:=fun j (hj:j<3)=>WM hxe hj
   generalize L[k]=x at *
   obtain ⟨⟨ek,eb,ez⟩,⟨⟨s1a,s1n,s1c⟩,⟨s2a,s2n,s2c⟩⟩⟩:=x
   have x0:wr.cell? ⟨b,off+k*3,none⟩=some (.string ek):=by simpa using hcell (k*3+0) _ (hc 0 (by omega))
   have x1:wr.cell? ⟨b,off+k*3+1,none⟩=some (.slice s1a s1n s1c):=by have h9:=hcell (k*3+1) _ (hc 1 (by omega));rw [Nat.add_assoc];exact h9
   have x2:wr.cell? ⟨b,off+k*3+2,none⟩=some (.slice s2a s2n s2c):=by have h9:=hcell (k*3+2) _ (hc 2 (by omega));rw [Nat.add_assoc];exact h9
   have hkey:keyOf Tryz.prog 9 (.string ek)=some (WX ek):=WideMaps.keyOf_string_mk Tryz.underlying9 hx.1.1
   have hG2:=hG.put hm.isMap (ek,eb,ez) ((s1a,s1n,s1c),(s2a,s2n,s2c))
   rw [hpq] at hG2
   have hbE:Below wr.heap.size wr (wr.alloc (.cells #[.string ek,.slice s1a s1n s1c,.slice s2a s2n s2c] 45)):=by go_grown
   have hm2:=hm.alloc (.cells #[.string ek,.slice s1a s1n s1c,.slice s2a s2n s2c] 45)
   clear hc hcell hmem hxe hpq hG hm
   go_upto_region 5 with fail
   replace bw:=Zn bw hbE
   replace pY:=pY.below hbE
   replace pR:=pR.below hbE
   have pB:Blk (wr.alloc (.cells #[.string ek,.slice s1a s1n s1c,.slice s2a s2n s2c] 45)) wr.heap.size 45 [.string ek,.slice s1a s1n s1c,.slice s2a s2n s2c]:=Zj _ _ _ rfl
   clear x0 x1 x2 hbE
   generalize (wr.alloc (.cells #[.string ek,.slice s1a s1n s1c,.slice s2a s2n s2c] 45))=W5 at *
   have y0:=pY.cell 0
   have z0:=pB.cell 0
   have z1:=pB.cell 1
   have z2:=pB.cell 2
   simp only [List.getElem?_cons_zero,List.getElem?_cons_succ] at y0 z0 z1 z2
   have hnbW:=hm2.lt
   go_wp2_with (at_mapUpdate;refine wpList_mapUpdate_own _ rfl _ _ _ 130 rfl 9 45 Ww Tryz.underlying130 Vi nb k D rfl hm2 (by unfold maxLen;omega) _ _ (WX ek) rfl rfl hkey (.held (ZM ek ((s1a,s1n,s1c),(s2a,s2n,s2c)))) [] rfl ?_;intro w9 hm9 hg9)
   have bz:=bw.grown hg9 bw.size (fun q hq=>by cases hq;omega)
   have pY9:=pY.kept hg9 (by simp)
   have pR9:=pR.kept hg9 (by simp;omega)
   clear y0 z0 z1 z2 hm2 hg9 pB
   go_wp2
   go_roundw
   case rel=>exact ⟨k+1,_,by go_num,by omega,hm9,hG2,bz,pY9,pR9⟩
   case measure=>simp [Go.RowKit.intOf];omega
  have hge:¬ (k:Int)<(n:Int):=by omega
  obtain rfl:k=n:=by omega
  rw [List.take_of_length_le (by omega)] at hG
  have y0:=pY.cell 0
  have y1:=pY.cell 1
  have y2:=pY.cell 2
  have r0:=pR.cell 0
  have r1:=pR.cell 1
  have r2:=pR.cell 2
  have f0:=pR.frozen 0
  have f1:=pR.frozen 1
  have f2:=pR.frozen 2
  simp only [List.getElem?_cons_zero,List.getElem?_cons_succ] at y0 y1 y2 r0 r1 r2
  have hz:=((pR.set 0 (.map (some nb))).set 1 (.int .i64 (k:Int))).set 2 (.int .i64 0)
  simp only [List.set_cons_zero,List.set_cons_succ] at hz
  have q0:=hz.cell 0
  have q1:=hz.cell 1
  have q2:=hz.cell 2
  simp only [List.getElem?_cons_zero,List.getElem?_cons_succ] at q0 q1 q2
  have hle:w.heap.size≤w.heap.size+1:=by omega
  have bz:=((bw.setCell (p:=⟨w.heap.size+1,0,none⟩) hle (.map (some nb))).setCell (p:=⟨w.heap.size+1,1,none⟩) hle (.int .i64 (k:Int))).setCell (p:=⟨w.heap.size+1,2,none⟩) hle (.int .i64 0)
  have hne:nb≠w.heap.size+1:=by omega
  have hmz:=((hm.setCell (a:=⟨w.heap.size+1,0,none⟩) hne (.map (some nb))).setCell (a:=⟨w.heap.size+1,1,none⟩) hne (.int .i64 (k:Int))).setCell (a:=⟨w.heap.size+1,2,none⟩) hne (.int .i64 0)
  clear hz pR pY hm bw
  go_wp2
  refine bodyPost_ret (by simp [results,Tryz.results69,go_sem,q0,q1,q2];try rfl) rfl ?_
  exact ⟨SJ.mk9 hmz hG (by omega),bz⟩


theorem NN {H:Type} {P:Program} {ops:Array Oper} {o:Oper} {a:Act} {w:World} {K:Act→World→Prop} {Q:Exit→Act→World→Prop} {E:Prop} (hgd:o.guard=none) (m x v:Operand) (t:TypeId) (hop:o.op=Op.mapUpdate t m x v)
  (k e:TypeId) (Kd:Maps.Keyed P k) (ht:P.underlying t=some (.map k e)) (R:Value→Option (DataW H × List MemPlace)) (b n:Nat) (D:DataW H) (hm:a.eval m=.map (some b)) (hown:w.ownsMap P k R b n D) (hn:n<maxLen) (key val:Value) (kl:Lit) (hx:a.eval x=key) (hv:a.eval v=val) (hkey:keyOf P k key=some kl)
  (d:DataW H) (ps:List MemPlace) (hval:R val=some (d,ps)) (hK:∀ w',w'.ownsMap P k R b (n+1) (D.put kl d)→w.grownBy w' (some b)→K (a.put o.dst undef) w'):if Region.wanted o (yielded ops a.tmps)=true then Oper.wp P o a w K Q else E:=by
 have hw:Region.wanted o (yielded ops a.tmps)=true:=by simp [Region.wanted,hgd]
 rw [if_pos hw]
 obtain ⟨w',hrun,r1,r2⟩:=hown.update Kd ht hn hkey hval
 unfold Oper.wp
 simp [execOp,hop,hm,hx,hv,hrun,Result.andThen]
 exact hK w' r1 r2
theorem Sy {H:Type} {P:Program} {ops:Array Oper} {o:Oper} {a:Act} {w:World} {K:Act→World→Prop} {Q:Exit→Act→World→Prop} {E:Prop} (hgd:o.guard=none) (m x:Operand) (t:TypeId) (hop:o.op=Op.lookup t m x true)
  (k e:TypeId) (Kd:Maps.Keyed P k) (ht:P.underlying t=some (.map k e)) (R:Value→Option (DataW H × List MemPlace)) {z:Value} (hz:(zeroValue e).run P w=.ok z w) (zd:DataW H) (zp:List MemPlace) (hzd:R z=some (zd,zp)) (b n:Nat) (D:DataW H)
  (hm:a.eval m=.map (some b)) (hown:w.ownsMap P k R b n D) (key:Value) (kl:Lit) (hx:a.eval x=key) (hkey:keyOf P k key=some kl)
  (hK:∀ v ps,R v=some (D.atKey kl zd,ps)→K (a.put o.dst (.tuple #[v,.bool (Maps.has D kl)])) w):if Region.wanted o (yielded ops a.tmps)=true then Oper.wp P o a w K Q else E:=by
 have hw:Region.wanted o (yielded ops a.tmps)=true:=by simp [Region.wanted,hgd]
 rw [if_pos hw]
 obtain ⟨v,ps,hrun,hv⟩:=hown.look_ok Kd ht hz hzd hkey
 unfold Oper.wp
 simp [execOp,hop,hm,hx,hrun,Result.andThen]
 exact hK v ps hv
def Gv (w':World) (nb n:Nat) (D:DataW Value) (L:List EQ):Prop:=∃ D',w'.ownsMap Tryz.prog 9 Vi nb n D'∧Uk D' L
theorem KV {w:World} {X4 X2 X5 C nb n:Nat} {g nd:Int} {D:DataW Value} {L:List EQ} (e:E3) (s:Sl2) (p4:Blk w X4 45 [.string e.1,.slice s.1.1 s.1.2.1 s.1.2.2,.slice s.2.1 s.2.2.1 s.2.2.2]) (p2:w.cell? ⟨X2,0,none⟩=some (.pointer (some ⟨C,0,none⟩))) (p5:w.cell? ⟨X5,0,none⟩=some (.string e.1)) (hC:Blk w C 132 [.map (some nb),.int .i64 g,.int .i64 nd]) (hm:w.ownsMap Tryz.prog 9 Vi nb n D) (hG:Uk D L) (hk:e.1.size≤maxLen) (hn:n≤4000000000) :
  CallsD Tryz.prog 126 #[.pointer (some ⟨X4,0,none⟩),.pointer (some ⟨X2,0,none⟩),.pointer (some ⟨X5,0,none⟩)] .returning w fun x u' w'=>u'=.returning∧x=.returned (.tuple #[])∧Gv w' nb (n+1) D (VE L e s)∧w.grownBy w' (some nb):=by
 obtain ⟨ek,eb,ez⟩:=e
 obtain ⟨⟨s1a,s1n,s1c⟩,⟨s2a,s2n,s2c⟩⟩:=s
 simp only at p4 p5 hk
 have hkey:keyOf Tryz.prog 9 (.string ek)=some (WX ek):=WideMaps.keyOf_string_mk Tryz.underlying9 hk
 have hG2:=hG.put hm.isMap (ek,eb,ez) ((s1a,s1n,s1c),(s2a,s2n,s2c))
 have x0:=p4.cell 0
 have x1:=p4.cell 1
 have x2:=p4.cell 2
 have c0:=hC.cell 0
 simp only [List.getElem?_cons_zero,List.getElem?_cons_succ] at x0 x1 x2 c0
 clear p4 hC hG
 go_enter_d Tryz.func126,Tryz.ntmps126
 go_wp2_with fail
 refine wp_region_held_drew (S:=(fun w'=>w'.cell? ⟨X2,0,none⟩=some (.pointer (some ⟨C,0,none⟩))∧w'.cell? ⟨C,0,none⟩=some (.map (some nb))∧w'.cell? ⟨X5,0,none⟩=some (.string ek)∧w'.cell? ⟨X4,0,none⟩=some (.string ek)∧w'.cell? ⟨X4,1,none⟩=some (.slice s1a s1n s1c)∧w'.cell? ⟨X4,2,none⟩=some (.slice s2a s2n s2c))) (by kernel_rfl) ⟨p2,c0,p5,x0,x1,x2⟩ (fun hS0=>?_)
 refine tkx 0 3 (.pointer (some ⟨C,0,none⟩)) ?_ ?_
 ·(intro w' hSw;(try dsimp only at hSw);go_simp;first | done | rfl | omega | (intro h9;omega) | (rw [IntKind.wrap_i64];omega))
 simp only [Act.put,tka,tkb,tkc]
 refine tkx 1 4 (.pointer (some ⟨C,0,none⟩)) ?_ ?_
 ·(intro w' hSw;(try dsimp only at hSw);go_simp;first | done | rfl | omega | (intro h9;omega) | (rw [IntKind.wrap_i64];omega))
 simp only [Act.put,tka,tkb,tkc]
 refine tkx 2 5 (.pointer (some ⟨C,0,none⟩)) ?_ ?_
 ·(intro w' hSw;(try dsimp only at hSw);go_simp;first | done | rfl | omega | (intro h9;omega) | (rw [IntKind.wrap_i64];omega))
 simp only [Act.put,tka,tkb,tkc]
 refine tkx 3 6 (.map (some nb)) ?_ ?_
 ·(intro w' hSw;(try dsimp only at hSw);go_simp;first | done | rfl | omega | (intro h9;omega) | (rw [IntKind.wrap_i64];omega))
 simp only [Act.put,tka,tkb,tkc]
 refine tkx 4 7 (.string ek) ?_ ?_
 ·(intro w' hSw;(try dsimp only at hSw);go_simp;first | done | rfl | omega | (intro h9;omega) | (rw [IntKind.wrap_i64];omega))
 simp only [Act.put,tka,tkb,tkc]
 refine tkx 5 8 (.agg #[.string ek,.slice s1a s1n s1c,.slice s2a s2n s2c]) ?_ ?_
 ·(intro w' hSw;(try dsimp only at hSw);go_simp;first | done | rfl | omega | (intro h9;omega) | (rw [IntKind.wrap_i64];omega))
 simp only [Act.put,tka,tkb,tkc]
 have hmD:=hm.drew
 have gD:w.grownBy w.drew none:=⟨rfl,rfl,rfl,Nat.le_refl _,fun _ _ _=>rfl⟩
 refine tkz 6 (fun K hK=>?_)
 refine NN rfl _ _ _ 130 rfl 9 45 Ww Tryz.underlying130 Vi nb n D rfl hmD (by unfold maxLen;omega) _ _ (WX ek) rfl rfl hkey (.held (ZM ek ((s1a,s1n,s1c),(s2a,s2n,s2c)))) [] rfl ?_
 intro w9 hm9 hg9
 have hne:∀ (X o:Nat) (v:Value),w.drew.cell? ⟨X,o,none⟩=some v→X≠nb:=fun X o v h9 e9=>by
  obtain ⟨es9,clock,hb9,_⟩:=hmD
  rw [e9] at h9
  simp only [World.cell?] at h9
  rw [hb9] at h9
  simp at h9
 refine hK.out _ _ ⟨Zg hg9 hS0.1 (fun e9=>hne _ _ _ hS0.1 (by injection e9)),Zg hg9 hS0.2.1 (fun e9=>hne _ _ _ hS0.2.1 (by injection e9)),Zg hg9 hS0.2.2.1 (fun e9=>hne _ _ _ hS0.2.2.1 (by injection e9)),Zg hg9 hS0.2.2.2.1 (fun e9=>hne _ _ _ hS0.2.2.2.1 (by injection e9)),Zg hg9 hS0.2.2.2.2.1 (fun e9=>hne _ _ _ hS0.2.2.2.2.1 (by injection e9)),Zg hg9 hS0.2.2.2.2.2 (fun e9=>hne _ _ _ hS0.2.2.2.2.2 (by injection e9))⟩ (fun hS1=>?_)
 clear hK
 try simp only [Act.put,tka,tkb,tkc]
 refine wpAnyH_done (by kernel_rfl) ?_ _
 have HP:Hid (Gv w9 nb (n+1) D (VE L (ek,eb,ez) ((s1a,s1n,s1c),(s2a,s2n,s2c)))):=⟨_,hm9,hG2⟩
 have HG9:Hid (w.grownBy w9 (some nb)):=⟨hg9.os,hg9.tape,hg9.output,hg9.size,fun k h1 h2=>hg9.block k h1 h2⟩
 clear hS0 hS1 hne hm9 hg9 gD hmD hm hG2
 go_wp2
 go_end0
 exact ⟨rfl,HP.out,HG9.out⟩
end Go.Proofs.YtnffeclgboomoaaGreatDoor
