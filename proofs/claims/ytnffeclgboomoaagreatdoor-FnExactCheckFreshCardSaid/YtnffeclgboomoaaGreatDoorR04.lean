/-
  Joined: BugS, Prog5, Vm0, Vm2.
-/
import Derived.ChangeSlices
import Derived.Lib.SmallJoins
import Derived.Test.YtnffeclgboomoaaGreatDoorR02
import Derived.Test.YtnffeclgboomoaaGreatDoorR03

namespace Go.Proofs.YtnffeclgboomoaaGreatDoor
set_option maxRecDepth 100000
set_option maxHeartbeats 16000000
open Go.RowKit
set_option linter.unusedVariables false

theorem Xr:(Tryz.prog.info? 127).map (fun i=>(i.zero,i.size,i.bytes))=some (some (.agg #[.int .i64 0,.int .i64 0,.int .i64 0]),3,24):=by kernel_rfl

theorem T8 (a a':Option Addr) (len cap cap':Nat) (xs:List I3) (w:World) (h:Zm w a len cap xs) (h':Zm w a' len cap' xs) :
  Calls Tryz.prog 78 #[.slice a len cap,.slice a' len cap'] w fun e w'=>e=.returned (.bool true)∧Below w.heap.size w w':=by
 obtain ⟨hl,hlc,hcm,_,hcase⟩:=h
 obtain ⟨_,hlc',hcm',_,hcase'⟩:=h'
 unfold maxLen at hcm hcm'
 have hne:((len:Int) != (len:Int))=false:=by simp
 by_cases h0:len=0
 ·subst h0
  go_enter Tryz.func78,Tryz.ntmps78
  go_wp2
  refine wp_loop_rounds 1 ?_
  rw [rounds_succ]
  go_wp2
  go_ret
  exact ⟨rfl,Below.refl _ _⟩
 rcases hcase with h0' | ⟨b,off,rfl,hblt,hcell⟩
 ·exact absurd h0' h0
 rcases hcase' with h0' | ⟨b',off',rfl,hblt',hcell'⟩
 ·exact absurd h0' h0
 go_enter Tryz.func78,Tryz.ntmps78
 go_wp2
 go_loopw [5] (fun si wr=>∃ k:Nat,k≤len∧si=.int .i64 k∧Below w.heap.size w wr) (fun si _=>len - (intOf si).toNat)
 case atStart=>exact ⟨0,by omega,rfl,Below.refl _ _⟩
 case round =>
  obtain ⟨k,hk,rfl,hbel⟩:=hrel
  by_cases hlt:k<len
  ·obtain ⟨c0,c1,c2⟩:=hcell k hlt
   obtain ⟨e0,e1,e2⟩:=hcell' k hlt
   rw [← hbel.cell (p:=⟨b,_,none⟩) hblt] at c0 c1 c2
   rw [← hbel.cell (p:=⟨b',_,none⟩) hblt'] at e0 e1 e2
   have hlt':(k:Int)<(len:Int):=by omega
   generalize xs.getD k (0,0,0)=x at c0 c1 c2 e0 e1 e2
   clear hcell hcell'
   go_wp2_with fail
   have hk0:(0:Int)≤(k:Int):=by omega
   go_region_held3 (fun w'=>w'.cell? ⟨b,off+k*3,none⟩=some (.int .i64 x.1)∧w'.cell? ⟨b,off+k*3+1,none⟩=some (.int .i64 x.2.1)∧w'.cell? ⟨b,off+k*3+2,none⟩=some (.int .i64 x.2.2)∧w'.cell? ⟨b',off'+k*3,none⟩=some (.int .i64 x.1)∧w'.cell? ⟨b',off'+k*3+1,none⟩=some (.int .i64 x.2.1)∧w'.cell? ⟨b',off'+k*3+2,none⟩=some (.int .i64 x.2.2)) (first | (exact ⟨c0,c1,c2,e0,e1,e2⟩) | (refine ⟨?_,?_,?_,?_,?_,?_⟩<;>(apply Za (by assumption);assumption)) | go_keep)
    (first | (go_at_call 136;refine (Ma x _).mono ?_;rintro e w1 ⟨rfl,hb1⟩))
   have hbel1:Below w.heap.size w w1:=Zb hbel (Zb (by go_grown) hb1)
   go_wp2
   go_roundw
   case rel=>exact ⟨k+1,by omega,by go_num,hbel1⟩
   case measure=>simp [intOf];omega
  go_wp2
  go_ret
  exact ⟨rfl,hbel⟩

theorem Ps (base g n cap:Nat) (k:Int) (xs:List I3) (w:World) (hk0:0≤k) (hk:k≤1000000000) (hn:n≤1048576) (hl:xs.length=n) (ho:w.ownsRow base 127 3 (.slice (some ⟨g,0,none⟩) n cap) n (Zl xs)) :
  Calls Tryz.prog 82 #[.slice (some ⟨g,0,none⟩) n cap,.int .i64 k] w fun e w'=>e=.returned (.int .i64 (k+n*3)) ∧
   w'.ownsRow base 127 3 (.slice (some ⟨g,0,none⟩) n cap) n (Zl (mkI k xs n))∧w.grownBy w' (some g):=by
 go_enter Tryz.func82,Tryz.ntmps82
 go_wp2
 go_loopw [1,5] (fun sk si wr=>∃ j:Nat,j≤n∧si=.int .i64 j∧sk=.int .i64 (k+j*3)∧wr.ownsRow base 127 3 (.slice (some ⟨g,0,none⟩) n cap) n (Zl (mkI k xs j))∧w.grownBy wr (some g)) (fun _ si _=>n - (intOf si).toNat)
 case atStart=>exact ⟨0,by omega,rfl,by go_num,by simpa [mkI] using ho,World.grownBy.refl _ _⟩
 case round =>
  obtain ⟨j,hj,rfl,rfl,hr,hg⟩:=hrel
  by_cases hlt:j<n
  ·have hlt2:(j:Int)<(n:Int):=by omega
   have hj0:(0:Int)≤(j:Int):=by omega
   have f0:=hr.frozenAt (j*3)
   have f1:=hr.frozenAt (j*3+1)
   have f2:=hr.frozenAt (j*3+2)
   have hlen:(Zl (mkI k xs j)).length=n*3:=by rw [Zo,WP,hl]
   obtain ⟨u0,hu0⟩:∃ u,wr.cell? ⟨g,j*3,none⟩=some u:=⟨_,by rw [hr.cellAt _ (by omega)];exact List.getElem?_eq_getElem (by omega)⟩
   obtain ⟨u1,hu1⟩:∃ u,wr.cell? ⟨g,j*3+1,none⟩=some u:=⟨_,by rw [hr.cellAt _ (by omega)];exact List.getElem?_eq_getElem (by omega)⟩
   obtain ⟨u2,hu2⟩:∃ u,wr.cell? ⟨g,j*3+2,none⟩=some u:=⟨_,by rw [hr.cellAt _ (by omega)];exact List.getElem?_eq_getElem (by omega)⟩
   have R:=(((hr.stored (j*3) (.int .i64 (k+j*3))).1.stored (j*3+1) (.int .i64 (k+j*3+1))).1.stored (j*3+2) (.int .i64 (k+j*3+1+1))).1
   rw [show (k+(j:Int)*3+1+1)=k+j*3+2 by omega,Pv k xs j (by omega),show (k+(j:Int)*3+2)=k+j*3+1+1 by omega] at R
   have G:=ZR hg (ZR (ZN wr g (j*3) (.int .i64 (k+j*3))) (ZR (ZN _ g (j*3+1) (.int .i64 (k+j*3+1))) (ZN _ g (j*3+2) (.int .i64 (k+j*3+1+1)))))
   clear hr hg ho hlen
   go_wp2
   go_roundw
   case rel=>exact ⟨j+1,by omega,by go_num,by go_num,R,G⟩
   case measure=>simp [intOf];omega
  obtain rfl:j=n:=by omega
  go_wp2
  go_ret
  exact ⟨rfl,hr,hg⟩

theorem Qb (k:Int) (w:World):Calls Tryz.prog 82 #[.slice none 0 0,.int .i64 k] w fun e w'=>e=.returned (.int .i64 k)∧w=w':=by
 go_enter Tryz.func82,Tryz.ntmps82
 go_wp2
 refine wp_loop_rounds 1 ?_
 rw [rounds_succ]
 go_wp2
 go_ret
 exact ⟨rfl,rfl⟩

theorem UZ (base:Nat) (v:Value) (k:Int) (xs:List I3) (w:World) (hk0:0≤k) (hk:k≤1000000000) (hn:xs.length≤1048576) (ho:w.ownsRow base 127 3 v xs.length (Zl xs)) :
  Calls Tryz.prog 82 #[v,.int .i64 k] w fun e w'=>e=.returned (.int .i64 (k+xs.length*3)) ∧
   w'.ownsRow base 127 3 v xs.length (Zl (mkI k xs xs.length))∧w.grownBy w' v.ownBlock:=by
 rcases ho.2 with ⟨rfl,h0⟩ | ⟨g,cap,cur,rfl,_⟩
 ·obtain rfl:xs=[]:=List.eq_nil_of_length_eq_zero h0
  refine (Qb k w).mono ?_
  rintro e w' ⟨rfl,rfl⟩
  exact ⟨by simp,ho,World.grownBy.refl _ _⟩
 exact Ps base g _ cap k xs w hk0 hk hn rfl ho

theorem Pe (base g n cap:Nat) (k:Int) (xs:List I3) (w:World) (hk0:0≤k) (hk:k≤1000000000) (hn:n≤1048576) (hl:xs.length=n) (ho:w.ownsRow base 127 3 (.slice (some ⟨g,0,none⟩) n cap) n (Zl (mkI k xs n))) :
  Calls Tryz.prog 84 #[.slice (some ⟨g,0,none⟩) n cap,.int .i64 k] w fun e w'=>e=.returned (.int .i64 (k+n*3))∧w=w':=by
 go_enter Tryz.func84,Tryz.ntmps84
 go_wp2
 go_loop [1,5] (fun sk si=>∃ j:Nat,j≤n∧si=.int .i64 j∧sk=.int .i64 (k+j*3)) (fun _ si=>n - (intOf si).toNat)
 case atStart=>exact ⟨0,by omega,rfl,by go_num⟩
 case round =>
  obtain ⟨j,hj,rfl,rfl⟩:=hrel
  by_cases hlt:j<n
  ·have hlt2:(j:Int)<(n:Int):=by omega
   have hj0:(0:Int)≤(j:Int):=by omega
   obtain ⟨a0,a1,a2⟩:=SO (xs:=mkI k xs n) (t:=j) (by rw [WP];omega)
   rw [M6 k xs n j hlt (by omega)] at a0 a1 a2
   have c0:w.cell? ⟨g,j*3,none⟩=some (.int .i64 (k+j*3)):=by rw [ho.cellAt _ (by omega)];exact a0
   have c1:w.cell? ⟨g,j*3+1,none⟩=some (.int .i64 (k+j*3+1)):=by rw [ho.cellAt _ (by omega)];exact a1
   have c2:w.cell? ⟨g,j*3+2,none⟩=some (.int .i64 (k+j*3+1+1)):=by rw [ho.cellAt _ (by omega),a2];simp;omega
   have n0:((k+(j:Int)*3) != (k+(j:Int)*3))=false:=by simp
   have n1:((k+(j:Int)*3+1) != (k+(j:Int)*3+1))=false:=by simp
   have n2:((k+(j:Int)*3+1+1) != (k+(j:Int)*3+1+1))=false:=by simp
   clear ho a0 a1 a2
   go_wp2
   go_round
   case rel=>exact ⟨j+1,by omega,by go_num,by go_num⟩
   case measure=>simp [intOf];omega
  obtain rfl:j=n:=by omega
  clear ho
  go_wp2
  go_ret
  exact ⟨rfl,rfl⟩

theorem R4 (k:Int) (w:World):Calls Tryz.prog 84 #[.slice none 0 0,.int .i64 k] w fun e w'=>e=.returned (.int .i64 k)∧w=w':=by
 go_enter Tryz.func84,Tryz.ntmps84
 go_wp2
 refine wp_loop_rounds 1 ?_
 rw [rounds_succ]
 go_wp2
 go_ret
 exact ⟨rfl,rfl⟩

theorem UN (base:Nat) (v:Value) (k:Int) (xs:List I3) (w:World) (hk0:0≤k) (hk:k≤1000000000) (hn:xs.length≤1048576) (ho:w.ownsRow base 127 3 v xs.length (Zl (mkI k xs xs.length))) :
  Calls Tryz.prog 84 #[v,.int .i64 k] w fun e w'=>e=.returned (.int .i64 (k+xs.length*3))∧w=w':=by
 rcases ho.2 with ⟨rfl,h0⟩ | ⟨g,cap,cur,rfl,_⟩
 ·obtain rfl:xs=[]:=List.eq_nil_of_length_eq_zero h0
  refine (R4 k w).mono ?_
  rintro e w' ⟨rfl,rfl⟩
  exact ⟨by simp,rfl⟩
 exact Pe base g _ cap k xs w hk0 hk hn rfl ho


def SK (w:World) (B k:Nat) (vs:List Value) (rows:List (List I3)):Prop:=
 (∀ t,t<k→w.ownsRow B 161 3 (vs.getD t undef) (rows.getD t []).length (Zl (rows.getD t []))) ∧
 ∀ t t',t<k→t'<k→t≠t'→(vs.getD t undef).ownBlock=none∨(vs.getD t undef).ownBlock≠(vs.getD t' undef).ownBlock

theorem SK.put {w w':World} {B P k G len:Nat} {vs:List Value} {rows:List (List I3)} (h:SK w B k vs rows) (hb:Below w.heap.size w w') (hk:k<vs.length) (hG:w.heap.size≤G)
  (hn:w'.ownsRow B 161 3 (.slice (some ⟨G,0,none⟩) len len) (rows.getD k []).length (Zl (rows.getD k []))) (hP:P<w.heap.size) (hPn:∀ t,t<k→(vs.getD t undef).ownBlock≠some P) :
  SK (w'.setCell ⟨P,k,none⟩ (.slice (some ⟨G,0,none⟩) len len)) B (k+1) (vs.set k (.slice (some ⟨G,0,none⟩) len len)) rows:=by
 have hold:∀ t,t≠k→(vs.set k (.slice (some ⟨G,0,none⟩) len len)).getD t undef=vs.getD t undef:=fun t ht=>by simp [List.getD,List.getElem?_set_ne (Ne.symm ht)]
 have hnew:(vs.set k (.slice (some ⟨G,0,none⟩) len len)).getD k undef=.slice (some ⟨G,0,none⟩) len len:=by simp [List.getD,hk]
 refine ⟨fun t ht=>?_,fun t t' ht ht' hne=>?_⟩
 ·by_cases e:t=k
  ·subst e
   rw [hnew]
   exact ownsRow_setCell_other hn (by simp [Value.ownBlock];omega) _
  rw [hold t e]
  exact ownsRow_setCell_other (Zy (h.1 t (by omega)) hb) (hPn t (by omega)) _
 by_cases e:t=k
 ·subst e
  rw [hnew,hold t' (Ne.symm hne)]
  refine .inr ?_
  simp only [Value.ownBlock,ne_eq]
  intro h'
  have:=((h.1 t' (by omega)).lt G h'.symm).2
  omega
 rw [hold t e]
 by_cases e':t'=k
 ·subst e'
  rw [hnew]
  rcases hbk:(vs.getD t undef).ownBlock with _ | x
  ·exact .inl rfl
  refine .inr ?_
  simp only [Value.ownBlock,ne_eq,Option.some.injEq]
  have:=((h.1 t (by omega)).lt x hbk).2
  omega
 rw [hold t' e']
 exact h.2 t t' (by omega) (by omega) hne

theorem Xt.low {w:World} {B:Nat} {v:Value} {rows:List (List I3)} (h:Xt w B v rows) {p:Addr} (hp:p.block<B) (u:Value):Xt (w.setCell p u) B v rows:=by
 obtain ⟨vs,h1,h2,h3,h4⟩:=h
 exact ⟨vs,ownsRow_setCell_below h1 hp _,h2,fun t ht=>ownsRow_setCell_below (h3 t ht) hp _,h4⟩

theorem Qi (a:Option Addr) (len cap:Nat) (rows:List (List I3)) (w:World) (h:Z8 w a len cap rows) (hn:len≤1048576) (hr:∀ t,t<len→(rows.getD t []).length≤1048576) :
  Calls Tryz.prog 77 #[.slice a len cap] w fun e w'=>e=.returned (.slice (some ⟨w.heap.size,0,none⟩) len len) ∧
   Xt w' w.heap.size (.slice (some ⟨w.heap.size,0,none⟩) len len) rows∧Below w.heap.size w w':=by
 obtain ⟨i0,hi,hz0,hz1,hz2⟩:=info_parts Sf
 obtain ⟨hl,hlc,hcm,hcase⟩:=h
 unfold maxLen at hcm
 go_enter Tryz.func77,Tryz.ntmps77
 go_wp2_with (at_make;refine wpList_make_full _ rfl _ _ 23 rfl w.heap.size 115 i0 (.slice none 0 0) 1 Tryz.underlying23 hi hz0 hz1 _ _ _ _ len rfl rfl (by omega) (by omega) ?b2 ?b3 (Nat.le_refl _) ?_)
 case b2=>rw [hz2];omega
 case b3=>unfold maxLen;omega
 intro w0 hown0 hgrow0
 have hb0:Below w.heap.size w w0:=(Below.refl _ _).grown hgrow0 (Nat.le_refl _) (fun k h=>by cases h)
 obtain ⟨cs0,hcs0⟩:∃ cs0,cs0=(madeCells #[Value.slice none 0 0] len).toList:=⟨_,rfl⟩
 rw [← hcs0] at hown0
 clear hgrow0 hcs0
 go_wp2
 go_loopw [4] (fun si wr=>∃ (k:Nat) (cs:List Value),k≤len∧si=.int .i64 k∧SK wr w.heap.size k cs rows∧wr.ownsRow w.heap.size 115 1 (.slice (some ⟨w.heap.size,0,none⟩) len len) len cs∧Below w.heap.size w wr) (fun si _=>len - (intOf si).toNat)
 case atStart=>exact ⟨0,cs0,by omega,rfl,⟨fun t ht=>by omega,fun t _ ht=>by omega⟩,hown0,hb0⟩
 case round =>
  obtain ⟨k,cs,hk,rfl,hR,ho,hbel⟩:=hrel
  by_cases hlt:k<len
  ·rcases hcase with h0 | ⟨b,off,rfl,hblt,hcell⟩
   ·omega
   have hlt2:(k:Int)<(len:Int):=by omega
   obtain ⟨a',len',cap',hc,hI⟩:=hcell k hlt
   have hrk:=hr k hlt
   rw [hI.1] at hrk
   have hc':wr.cell? ⟨b,off+k,none⟩=some (.slice a' len' cap'):=by rw [hbel.cell (p:=⟨b,_,none⟩) hblt];exact hc
   clear hcell hc
   have hIr:Zm wr a' len' cap' (rows.getD k []):=hI.below hbel
   have hwr:=(ho.lt w.heap.size rfl).2
   go_wp2_with fail
   refine (Up a' len' cap' _ wr hIr hrk).mono ?_
   rintro e w1 ⟨rfl,⟨cs2,hcs2,hown2⟩,hb1⟩
   subst hcs2
   have hl':=hIr.1
   have hn2:w1.ownsRow w.heap.size 161 3 (.slice (some ⟨wr.heap.size,0,none⟩) len' len') (rows.getD k []).length (Zl (rows.getD k [])):=by
    rw [hl']
    rcases hown2 with ⟨q1,q2⟩
    refine ⟨q1,?_⟩
    rcases q2 with q2 | ⟨g,cap,cur,q3,q4,q5⟩
    ·exact .inl q2
    exact .inr ⟨g,cap,cur,q3,by omega,q5⟩
   have hPn:∀ t,t<k→(cs.getD t undef).ownBlock≠some w.heap.size:=fun t ht=>by
    rcases Yh ho (hR.1 t ht) (by decide) with h | h
    ·simp [Value.ownBlock] at h
    exact fun e=>h (by rw [e];rfl)
   have R2:=hR.put hb1 (by have:=ho.1;omega) (Nat.le_refl _) hn2 hwr hPn
   clear hown2 hIr hI hc' hn2 hPn
   have ho1:=Zy ho hb1
   have hbel1:Below w.heap.size w w1:=Zb hbel hb1
   clear ho hbel hb1 hR
   have hlen:=ho1.1
   have f0:=ho1.frozenAt k
   obtain ⟨u0,hu0⟩:∃ u,w1.cell? ⟨w.heap.size,k,none⟩=some u:=⟨_,by rw [ho1.cellAt _ (by omega)];exact List.getElem?_eq_getElem (by omega)⟩
   have R:=(ho1.stored k (.slice (some ⟨wr.heap.size,0,none⟩) len' len')).1
   have hb3:Below w.heap.size w (w1.setCell ⟨w.heap.size,k,none⟩ (.slice (some ⟨wr.heap.size,0,none⟩) len' len')):=hbel1.setCell (Nat.le_refl _) _
   clear ho1 hbel1
   generalize cs.set k (.slice (some ⟨wr.heap.size,0,none⟩) len' len')=cs' at R R2
   go_wp2
   go_roundw
   case rel=>exact ⟨k+1,cs',by omega,by go_num,R2,R,hb3⟩
   case measure=>simp [intOf];omega
  obtain rfl:k=len:=by omega
  clear hcase
  go_wp2
  go_ret
  exact ⟨rfl,⟨cs,by rw [hl];exact ho,by have:=ho.1;omega,fun t ht=>hR.1 t (by omega),fun t t' ht ht'=>hR.2 t t' (by omega) (by omega)⟩,hbel⟩

theorem Qj (a:Option Addr) (len cap:Nat) (rows:List (List I3)) (w:World) (h:Z8 w a len cap rows) (hn:len≤1048576) (hr:∀ t,t<len→(rows.getD t []).length≤1048576) :
  Calls Tryz.prog 28 #[.agg #[.slice a len cap]] w fun e w'=>e=.returned (.agg #[.slice (some ⟨w.heap.size+3,0,none⟩) len len]) ∧
   Xt w' (w.heap.size+3) (.slice (some ⟨w.heap.size+3,0,none⟩) len len) rows∧Below w.heap.size w w':=by
 go_enter Tryz.func28,Tryz.ntmps28
 go_wp2_with fail
 refine (Qi _ _ _ rows _ (h.below (by go_grown)) hn hr).mono ?_
 rintro e w1 ⟨rfl,hC,hb1⟩
 have k1:w1.cell? ⟨w.heap.size+1,0,none⟩=some (.slice none 0 0):=by rw [hb1.cell (by simp)];first | (simp [go_sem];done) | (simp [World.cell?];done)
 have k2:w1.cell? ⟨w.heap.size+1+1,0,none⟩=some (.slice none 0 0):=by rw [hb1.cell (by simp)];first | (simp [go_sem];done) | (simp [World.cell?];done)
 have f1:w1.frozen? ⟨w.heap.size+1,0,none⟩=false:=by rw [hb1.frozen (by simp)];first | (simp [go_sem];done) | (simp [World.frozen?];done)
 have f2:w1.frozen? ⟨w.heap.size+1+1,0,none⟩=false:=by rw [hb1.frozen (by simp)];first | (simp [go_sem];done) | (simp [World.frozen?];done)
 have hbw:Below w.heap.size w w1:=Zb (by go_grown) hb1
 simp only [World.size_alloc] at hC
 rw [show w.heap.size+1+1+1=w.heap.size+3 from rfl] at hC
 clear hb1 h
 simp only [World.size_alloc]
 have k3:((w1.setCell ⟨w.heap.size+1+1,0,none⟩ (.slice (some ⟨w.heap.size+1+1+1,0,none⟩) len len)).setCell ⟨w.heap.size+1,0,none⟩ (.slice (some ⟨w.heap.size+1+1+1,0,none⟩) len len)).cell? ⟨w.heap.size+1,0,none⟩=some (.slice (some ⟨w.heap.size+1+1+1,0,none⟩) len len):=
  World.cell?_setCell_same' _ _ _ (by rw [YM _ _ _ (by simp),k1];rfl)
 go_wp2
 have R:=(hC.low (p:=⟨w.heap.size+1+1,0,none⟩) (by simp) (.slice (some ⟨w.heap.size+1+1+1,0,none⟩) len len)).low (p:=⟨w.heap.size+1,0,none⟩) (by simp) (.slice (some ⟨w.heap.size+1+1+1,0,none⟩) len len)
 have hb3:=(hbw.setCell (p:=⟨w.heap.size+1+1,0,none⟩) (by simp;omega) (.slice (some ⟨w.heap.size+1+1+1,0,none⟩) len len)).setCell (p:=⟨w.heap.size+1,0,none⟩) (by simp) (.slice (some ⟨w.heap.size+1+1+1,0,none⟩) len len)
 clear hC hbw k1 k2 f1 f2
 generalize (w1.setCell ⟨w.heap.size+1+1,0,none⟩ (.slice (some ⟨w.heap.size+1+1+1,0,none⟩) len len)).setCell ⟨w.heap.size+1,0,none⟩ (.slice (some ⟨w.heap.size+1+1+1,0,none⟩) len len)=w2 at k3 R hb3
 refine bodyPost_ret (by simp [results,Tryz.results28,go_sem,k3];try rfl) rfl ?_
 exact ⟨rfl,R,hb3⟩

open Go.RowKit Go.ChangeShapes Go.WideShapes Go.Joins

abbrev V4:=List Int × List Int × List Int × List Int
abbrev Sl:=Option Addr × Nat × Nat
def Sl.val (s:Sl):Value:=.slice s.1 s.2.1 s.2.2
abbrev S4:=Sl × Sl × Sl × Sl
def S4.val (s:S4):Value:=.agg #[.slice s.1.1 s.1.2.1 s.1.2.2,.slice s.2.1.1 s.2.1.2.1 s.2.1.2.2,.slice s.2.2.1.1 s.2.2.1.2.1 s.2.2.1.2.2,.slice s.2.2.2.1 s.2.2.2.2.1 s.2.2.2.2.2]
def VI (w:World) (s:Sl) (zs:List Int):Prop:=Yi .i64 w s.1 s.2.1 s.2.2 zs∧∀ z ∈ zs,(Lit.int .i64 z).wf=true
def Yx (w:World) (s:S4) (m:V4):Prop:=VI w s.1 m.1∧VI w s.2.1 m.2.1∧VI w s.2.2.1 m.2.2.1∧VI w s.2.2.2 m.2.2.2

theorem VI.below {w w':World} {s:Sl} {zs:List Int} (h:VI w s zs) (hb:Below w.heap.size w w'):VI w' s zs:=⟨h.1.below hb,h.2⟩
theorem Yx.below {w w':World} {s:S4} {m:V4} (h:Yx w s m) (hb:Below w.heap.size w w'):Yx w' s m:=⟨h.1.below hb,h.2.1.below hb,h.2.2.1.below hb,h.2.2.2.below hb⟩

section
variable {H : Type} {enc : TypeId × Value → H} {P : Program} {w : World} {base : Nat} {spare : Nat → Bool} {held : Bool}
end


def Z2 (w:World) (B:Nat) (s:Sl) (zs:List Int):Prop:=w.ownsRow B 3 1 (.slice s.1 s.2.1 s.2.2) s.2.1 (zs.map (Value.int .i64))
def W7 (s s':Sl):Prop:=∀ g,(Value.slice s.1 s.2.1 s.2.2).ownBlock=some g→(Value.slice s'.1 s'.2.1 s'.2.2).ownBlock≠some g
def ZY (w:World) (B:Nat) (s:S4) (m:V4):Prop:=
 (Z2 w B s.1 m.1∧Z2 w B s.2.1 m.2.1∧Z2 w B s.2.2.1 m.2.2.1∧Z2 w B s.2.2.2 m.2.2.2) ∧
 W7 s.1 s.2.1∧W7 s.1 s.2.2.1∧W7 s.1 s.2.2.2∧W7 s.2.1 s.2.2.1∧W7 s.2.1 s.2.2.2∧W7 s.2.2.1 s.2.2.2
def V4.fits (m:V4):Prop:=(∀ z ∈ m.1,(Lit.int .i64 z).wf=true)∧(∀ z ∈ m.2.1,(Lit.int .i64 z).wf=true)∧(∀ z ∈ m.2.2.1,(Lit.int .i64 z).wf=true)∧∀ z ∈ m.2.2.2,(Lit.int .i64 z).wf=true
theorem Z2.ints {w:World} {B:Nat} {s:Sl} {zs:List Int} (h:Z2 w B s zs):Yi .i64 w s.1 s.2.1 s.2.2 zs:=by
 obtain ⟨a,n,c⟩:=s
 unfold Z2 at h
 simp only at h ⊢
 rcases h.2 with ⟨h0,h1⟩ | ⟨g,cap,cur,hv,_⟩
 ·cases h0
  have hl:zs.length=0:=by simpa using h.1
  exact ⟨hl,Nat.le_refl _,Nat.zero_le _,.inl rfl⟩
 cases hv
 exact Yi.of_owns h
theorem Z2.below {w w':World} {B:Nat} {s:Sl} {zs:List Int} (h:Z2 w B s zs) (hb:Below w.heap.size w w'):Z2 w' B s zs:=Zy h hb
theorem ZY.below {w w':World} {B:Nat} {s:S4} {m:V4} (h:ZY w B s m) (hb:Below w.heap.size w w'):ZY w' B s m:=⟨⟨h.1.1.below hb,h.1.2.1.below hb,h.1.2.2.1.below hb,h.1.2.2.2.below hb⟩,h.2⟩
theorem ZY.mem {w:World} {B:Nat} {s:S4} {m:V4} (h:ZY w B s m) (hf:V4.fits m):Yx w s m:=⟨⟨h.1.1.ints,hf.1⟩,⟨h.1.2.1.ints,hf.2.1⟩,⟨h.1.2.2.1.ints,hf.2.2.1⟩,⟨h.1.2.2.2.ints,hf.2.2.2⟩⟩
theorem Xm {w:World} {B B' e s n:Nat} {v:Value} {cs:List Value} (h:w.ownsRow B e s v n cs) (hB:B'≤B):w.ownsRow B' e s v n cs:=by
 refine ⟨h.1,?_⟩
 rcases h.2 with h0 | ⟨g,cap,cur,hv,hg,rest⟩
 ·exact .inl h0
 exact .inr ⟨g,cap,cur,hv,Nat.le_trans hB hg,rest⟩
theorem GT (w:World) (x y z u:Value) (t B:Nat) (hB:B≤w.heap.size):(w.alloc (.cells #[x,y,z,u] t)).ownsRow B t 4 (.slice (some ⟨w.heap.size,0,none⟩) 1 1) 1 [x,y,z,u]:=World.ownsRow_lit w #[x,y,z,u] 1 hB (by unfold maxLen;omega) rfl

end Go.Proofs.YtnffeclgboomoaaGreatDoor
