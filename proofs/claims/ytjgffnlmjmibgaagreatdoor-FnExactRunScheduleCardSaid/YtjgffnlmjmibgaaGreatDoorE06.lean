/-
  Joined: Prog3, MarkP.
-/
import Derived.Test.YtjgffnlmjmibgaaGreatDoorE05

namespace Go.Proofs.YtjgffnlmjmibgaaGreatDoor
set_option maxRecDepth 100000
set_option maxHeartbeats 16000000
open Go.RowKit

theorem cell_setCell_off (w:World) (p:Addr) (u:Value) {q:Addr} (h:q.block≠p.block):(w.setCell p u).cell? q=w.cell? q:=by
 have:=heap_setCell_other w p q.block u h
 unfold World.cell?
 rw [this]

theorem Instrs.setCell {w:World} {g len cap:Nat} {xs:List I3} (h:Instrs w (some ⟨g,0,none⟩) len cap xs) (p:Addr) (u:Value) (hne:g≠p.block):Instrs (w.setCell p u) (some ⟨g,0,none⟩) len cap xs:=by
 obtain ⟨h1,h2,h3,hf,h4⟩:=h
 refine ⟨h1,h2,h3,hf,?_⟩
 rcases h4 with h4 | ⟨b,off,ha,hlt,hc⟩
 ·exact .inl h4
 ·cases ha
  refine .inr ⟨g,0,rfl,by simpa using hlt,fun t ht=>?_⟩
  obtain ⟨c0,c1,c2⟩:=hc t ht
  exact ⟨by rw [cell_setCell_off _ _ _ hne];exact c0,by rw [cell_setCell_off _ _ _ hne];exact c1,by rw [cell_setCell_off _ _ _ hne];exact c2⟩

def RowsTo (w:World) (B k:Nat) (cs:List Value) (rows:List (List I3)):Prop:=
 ∀ t,t<k→∃ g len',cs[t]?=some (.slice (some ⟨g,0,none⟩) len' len')∧B<g∧Instrs w (some ⟨g,0,none⟩) len' len' (rows.getD t [])

theorem RowsTo.below {w w':World} {B k:Nat} {cs:List Value} {rows:List (List I3)} (h:RowsTo w B k cs rows) (hb:Below w.heap.size w w'):RowsTo w' B k cs rows:=fun t ht=>by
 obtain ⟨g,l,hc,hg,hi⟩:=h t ht
 exact ⟨g,l,hc,hg,hi.below hb⟩

theorem RowsTo.put {w:World} {B k:Nat} {cs:List Value} {rows:List (List I3)} (h:RowsTo w B k cs rows) (hk:k<cs.length) {g len':Nat} (hg:B<g) (hi:Instrs w (some ⟨g,0,none⟩) len' len' (rows.getD k [])) :
  RowsTo (w.setCell ⟨B,k,none⟩ (.slice (some ⟨g,0,none⟩) len' len')) B (k+1) (cs.set k (.slice (some ⟨g,0,none⟩) len' len')) rows:=fun t ht=>by
 by_cases htk:t=k
 ·subst htk
  exact ⟨g,len',by simp [hk],hg,hi.setCell _ _ (show g≠B by omega)⟩
 ·obtain ⟨g',l',hc,hg',hi'⟩:=h t (by omega)
  exact ⟨g',l',by rw [List.getElem?_set_ne (by omega)];exact hc,hg',hi'.setCell _ _ (show g'≠B by omega)⟩

theorem info_instrs:(Tryz.prog.info? 73).map (fun i=>(i.zero,i.size,i.bytes))=some (some (.slice none 0 0),1,24):=by kernel_rfl

theorem Codes.of_rows {w:World} {B e len cap:Nat} {cs:List Value} {rows:List (List I3)} (ho:w.ownsRow B e 1 (.slice (some ⟨B,0,none⟩) len cap) len cs) (hl:rows.length=len) (h:RowsTo w B len cs rows) :
  Codes w (some ⟨B,0,none⟩) len cap rows:=by
 have hg:=(ho.lt B rfl).2
 have hcell:=ho.cellAt
 rcases ho.2 with ⟨h0,_⟩ | ⟨g',cap',cur,hv,_,_,hn,hcap,_,_⟩
 ·cases h0
 ·cases hv
  refine ⟨hl,hn,hcap,.inr ⟨B,0,rfl,hg,fun t ht=>?_⟩⟩
  obtain ⟨g,l,hc,_,hi⟩:=h t ht
  exact ⟨_,_,_,by rw [Nat.zero_add,hcell t (by omega)];exact hc,hi⟩

theorem RowsTo.low {w:World} {B k:Nat} {cs:List Value} {rows:List (List I3)} (h:RowsTo w B k cs rows) {p:Addr} (hp:p.block<B) (u:Value):RowsTo (w.setCell p u) B k cs rows:=fun t ht=>by
 obtain ⟨g,l,hc,hg,hi⟩:=h t ht
 exact ⟨g,l,hc,hg,hi.setCell _ _ (by omega)⟩

def OwnCodes (w:World) (B len:Nat) (rows:List (List I3)):Prop:=
 rows.length=len∧∃ cs,w.ownsRow B 73 1 (.slice (some ⟨B,0,none⟩) len len) len cs∧RowsTo w B len cs rows

theorem OwnCodes.codes {w:World} {B len:Nat} {rows:List (List I3)} (h:OwnCodes w B len rows):Codes w (some ⟨B,0,none⟩) len len rows:=by
 obtain ⟨hl,cs,ho,hR⟩:=h
 exact Codes.of_rows ho hl hR

theorem OwnCodes.low {w:World} {B len:Nat} {rows:List (List I3)} (h:OwnCodes w B len rows) {p:Addr} (hp:p.block<B) (u:Value):OwnCodes (w.setCell p u) B len rows:=by
 obtain ⟨hl,cs,ho,hR⟩:=h
 exact ⟨hl,cs,ownsRow_setCell_below ho hp _,hR.low hp u⟩

theorem toInstrSS_copy (a:Option Addr) (len cap:Nat) (rows:List (List I3)) (w:World) (h:Codes w a len cap rows) (hn:len≤1048576) (hr:∀ t,t<len→(rows.getD t []).length≤1048576) :
  Calls Tryz.prog 87 #[.slice a len cap] w fun e w'=>e=.returned (.slice (some ⟨w.heap.size,0,none⟩) len len) ∧
   OwnCodes w' w.heap.size len rows∧Below w.heap.size w w':=by
 obtain ⟨i0,hi,hz0,hz1,hz2⟩:=info_parts info_instrs
 obtain ⟨hl,hlc,hcm,hcase⟩:=h
 unfold maxLen at hcm
 go_enter Tryz.func87,Tryz.ntmps87
 go_wp2_with (at_make;refine wpList_make_full _ rfl _ _ 23 rfl w.heap.size 73 i0 (.slice none 0 0) 1 Tryz.underlying23 hi hz0 hz1 _ _ _ _ len rfl rfl (by omega) (by omega) ?b2 ?b3 (Nat.le_refl _) ?_)
 case b2=>rw [hz2];omega
 case b3=>unfold maxLen;omega
 intro w0 hown0 hgrow0
 have hb0:Below w.heap.size w w0:=(Below.refl _ _).grown hgrow0 (Nat.le_refl _) (fun k h=>by cases h)
 obtain ⟨cs0,hcs0⟩:∃ cs0,cs0=(madeCells #[Value.slice none 0 0] len).toList:=⟨_,rfl⟩
 rw [← hcs0] at hown0
 clear hgrow0 hcs0
 go_wp2
 go_loopw [4] (fun si wr=>∃ (k:Nat) (cs:List Value),k≤len∧si=.int .i64 k∧RowsTo wr w.heap.size k cs rows∧wr.ownsRow w.heap.size 73 1 (.slice (some ⟨w.heap.size,0,none⟩) len len) len cs∧Below w.heap.size w wr) (fun si _=>len - (intOf si).toNat)
 case atStart=>exact ⟨0,cs0,by omega,rfl,fun t ht=>by omega,hown0,hb0⟩
 case round =>
  obtain ⟨k,cs,hk,rfl,hR,ho,hbel⟩:=hrel
  by_cases hlt:k<len
  ·rcases hcase with h0 | ⟨b,off,rfl,hblt,hcell⟩
   ·omega
   have hlt2:(k:Int)<(len:Int):=by omega
   obtain ⟨a',len',cap',hc,hI⟩:=hcell k hlt
   have hrk:=hr k hlt
   rw [hI.1] at hrk
   have hc':wr.cell? ⟨b,off+k,none⟩=some (.slice a' len' cap'):=by rw [hbel.cell (p:=⟨b,_,none⟩) hblt];exact hc
   clear hcell hc
   have hIr:Instrs wr a' len' cap' (rows.getD k []):=hI.below hbel
   have hwr:=(ho.lt w.heap.size rfl).2
   go_wp2_with fail
   refine (toInstrS_copy a' len' cap' _ wr hIr hrk).mono ?_
   rintro e w1 ⟨rfl,⟨cs2,hcs2,hown2⟩,hb1⟩
   have hI2:=Instrs.of_owns hown2 hIr.1 hIr.2.2.2.1 hcs2
   clear hcs2 hown2 hIr hI hc'
   have ho1:=owns_below ho hb1
   have hR1:=hR.below hb1
   have hbel1:Below w.heap.size w w1:=bel_trans hbel hb1
   clear ho hbel hb1 hR
   have hlen:=ho1.1
   have f0:=ho1.frozenAt k
   obtain ⟨u0,hu0⟩:∃ u,w1.cell? ⟨w.heap.size,k,none⟩=some u:=⟨_,by rw [ho1.cellAt _ (by omega)];exact List.getElem?_eq_getElem (by omega)⟩
   have R:=(ho1.stored k (.slice (some ⟨wr.heap.size,0,none⟩) len' len')).1
   have R2:=hR1.put (by omega) hwr hI2
   have hb3:Below w.heap.size w (w1.setCell ⟨w.heap.size,k,none⟩ (.slice (some ⟨wr.heap.size,0,none⟩) len' len')):=hbel1.setCell (Nat.le_refl _) _
   clear ho1 hbel1 hR1 hI2
   generalize cs.set k (.slice (some ⟨wr.heap.size,0,none⟩) len' len')=cs' at R R2
   go_wp2
   go_roundw
   case rel=>exact ⟨k+1,cs',by omega,by go_num,R2,R,hb3⟩
   case measure=>simp [intOf];omega
  ·obtain rfl:k=len:=by omega
   clear hcase
   go_wp2
   go_ret
   exact ⟨rfl,⟨hl,cs,ho,hR⟩,hbel⟩

theorem toProgram_copy (a:Option Addr) (len cap:Nat) (rows:List (List I3)) (w:World) (h:Codes w a len cap rows) (hn:len≤1048576) (hr:∀ t,t<len→(rows.getD t []).length≤1048576) :
  Calls Tryz.prog 31 #[.agg #[.slice a len cap]] w fun e w'=>e=.returned (.agg #[.slice (some ⟨w.heap.size+3,0,none⟩) len len]) ∧
   OwnCodes w' (w.heap.size+3) len rows∧Below w.heap.size w w':=by
 go_enter Tryz.func31,Tryz.ntmps31
 go_wp2_with fail
 refine (toInstrSS_copy _ _ _ rows _ (h.below (by go_grown)) hn hr).mono ?_
 rintro e w1 ⟨rfl,hC,hb1⟩
 have k1:w1.cell? ⟨w.heap.size+1,0,none⟩=some (.slice none 0 0):=by rw [hb1.cell (by simp)];first | (simp [go_sem];done) | (simp [World.cell?];done)
 have k2:w1.cell? ⟨w.heap.size+1+1,0,none⟩=some (.slice none 0 0):=by rw [hb1.cell (by simp)];first | (simp [go_sem];done) | (simp [World.cell?];done)
 have f1:w1.frozen? ⟨w.heap.size+1,0,none⟩=false:=by rw [hb1.frozen (by simp)];first | (simp [go_sem];done) | (simp [World.frozen?];done)
 have f2:w1.frozen? ⟨w.heap.size+1+1,0,none⟩=false:=by rw [hb1.frozen (by simp)];first | (simp [go_sem];done) | (simp [World.frozen?];done)
 have hbw:Below w.heap.size w w1:=bel_trans (by go_grown) hb1
 simp only [World.size_alloc] at hC
 rw [show w.heap.size+1+1+1=w.heap.size+3 from rfl] at hC
 clear hb1 h
 simp only [World.size_alloc]
 have k3:((w1.setCell ⟨w.heap.size+1+1,0,none⟩ (.slice (some ⟨w.heap.size+1+1+1,0,none⟩) len len)).setCell ⟨w.heap.size+1,0,none⟩ (.slice (some ⟨w.heap.size+1+1+1,0,none⟩) len len)).cell? ⟨w.heap.size+1,0,none⟩=some (.slice (some ⟨w.heap.size+1+1+1,0,none⟩) len len):=
  World.cell?_setCell_same' _ _ _ (by rw [cell_setCell_off _ _ _ (by simp),k1];rfl)
 go_wp2
 have R:=(hC.low (p:=⟨w.heap.size+1+1,0,none⟩) (by simp) (.slice (some ⟨w.heap.size+1+1+1,0,none⟩) len len)).low (p:=⟨w.heap.size+1,0,none⟩) (by simp) (.slice (some ⟨w.heap.size+1+1+1,0,none⟩) len len)
 have hb3:=(hbw.setCell (p:=⟨w.heap.size+1+1,0,none⟩) (by simp;omega) (.slice (some ⟨w.heap.size+1+1+1,0,none⟩) len len)).setCell (p:=⟨w.heap.size+1,0,none⟩) (by simp) (.slice (some ⟨w.heap.size+1+1+1,0,none⟩) len len)
 clear hC hbw k1 k2 f1 f2
 generalize (w1.setCell ⟨w.heap.size+1+1,0,none⟩ (.slice (some ⟨w.heap.size+1+1+1,0,none⟩) len len)).setCell ⟨w.heap.size+1,0,none⟩ (.slice (some ⟨w.heap.size+1+1+1,0,none⟩) len len)=w2 at k3 R hb3
 refine bodyPost_ret (by simp [results,Tryz.results31,go_sem,k3];try rfl) rfl ?_
 exact ⟨rfl,R,hb3⟩


theorem owns_ne {w:World} {B B' e e' s s' n n':Nat} {v v':Value} {xs xs':List Value} (h:w.ownsRow B e s v n xs) (h':w.ownsRow B' e' s' v' n' xs') (he:e≠e'):v.ownBlock=none∨v.ownBlock≠v'.ownBlock:=by
 rcases h.2 with ⟨rfl,_⟩ | ⟨g,cap,cur,rfl,_,hg,_⟩
 ·exact .inl rfl
 ·rcases h'.2 with ⟨rfl,_⟩ | ⟨g',cap',cur',rfl,_,hg',_⟩
  ·exact .inr (by simp [Value.ownBlock])
  ·refine .inr ?_
   simp only [Value.ownBlock,ne_eq,Option.some.injEq]
   rintro rfl
   rw [hg] at hg'
   simp at hg'
   exact he hg'.2

def mkI:Int→List I3→Nat→List I3
 | _,xs,0=>xs
 | _,[],_+1=>[]
 | k,_::xs,j+1=>(k,k+1,k+2)::mkI (k+3) xs j
theorem mkI_len:∀ (k:Int) (xs:List I3) (j:Nat),(mkI k xs j).length=xs.length
 | _,xs,0=>by simp [mkI]
 | _,[],_+1=>by simp [mkI]
 | k,_::xs,j+1=>by simp [mkI,mkI_len]
theorem mkI_set:∀ (k:Int) (xs:List I3) (j:Nat),j<xs.length →
  (((flat (mkI k xs j)).set (j*3) (.int .i64 (k+j*3))).set (j*3+1) (.int .i64 (k+j*3+1))).set (j*3+2) (.int .i64 (k+j*3+2))=flat (mkI k xs (j+1))
 | _,[],j,h=>by simp at h
 | k,x::xs,0,_=>by simp [mkI,flat,I3.cells]
 | k,x::xs,j+1,h=>by
  have ih:=mkI_set (k+3) xs j (by simpa using h)
  have e1:k+((j+1:Nat):Int)*3=k+3+(j:Int)*3:=by omega
  rw [e1]
  have e2:(j+1)*3=j*3+1+1+1:=by omega
  simp only [mkI,flat,List.flatMap_cons,I3.cells,List.cons_append,List.nil_append] at ih ⊢
  rw [e2]
  simp only [List.set_cons_succ]
  rw [ih]
theorem mkI_get:∀ (k:Int) (xs:List I3) (j i:Nat),i<j→j≤xs.length→(mkI k xs j).getD i (0,0,0)=(k+i*3,k+i*3+1,k+i*3+2)
 | _,xs,0,i,h,_=>by omega
 | _,[],j+1,i,_,h=>by simp at h
 | k,x::xs,j+1,0,_,_=>by simp [mkI]
 | k,x::xs,j+1,i+1,h,hl=>by
  have ih:=mkI_get (k+3) xs j i (by omega) (by simpa using hl)
  have e:k+((i+1:Nat):Int)*3=k+3+(i:Int)*3:=by omega
  rw [e,← ih]
  simp [mkI]

theorem grownBy_set (w:World) (g j:Nat) (u:Value):w.grownBy (w.setCell ⟨g,j,none⟩ u) (some g):=
 ⟨rfl,rfl,rfl,by simp [World.setCell],fun k _ hk=>Below.heap_setCell _ _ _ _ (fun e=>hk (by rw [e]))⟩
theorem grownBy_tr {a b c:World} {row:Option Nat} (h:a.grownBy b row) (k:b.grownBy c row):a.grownBy c row:=
 ⟨k.os.trans h.os,k.tape.trans h.tape,k.output.trans h.output,Nat.le_trans h.size k.size,fun i hi hne=>(k.block i (by have:=h.size;omega) hne).trans (h.block i hi hne)⟩

theorem markInstrS_own (base g n cap:Nat) (k:Int) (xs:List I3) (w:World) (hk0:0≤k) (hk:k≤1000000000) (hn:n≤1048576) (hl:xs.length=n) (ho:w.ownsRow base 141 3 (.slice (some ⟨g,0,none⟩) n cap) n (flat xs)) :
  Calls Tryz.prog 138 #[.slice (some ⟨g,0,none⟩) n cap,.int .i64 k] w fun e w'=>e=.returned (.int .i64 (k+n*3)) ∧
   w'.ownsRow base 141 3 (.slice (some ⟨g,0,none⟩) n cap) n (flat (mkI k xs n))∧w.grownBy w' (some g):=by
 go_enter Tryz.func138,Tryz.ntmps138
 go_wp2
 go_loopw [1,5] (fun sk si wr=>∃ j:Nat,j≤n∧si=.int .i64 j∧sk=.int .i64 (k+j*3)∧wr.ownsRow base 141 3 (.slice (some ⟨g,0,none⟩) n cap) n (flat (mkI k xs j))∧w.grownBy wr (some g)) (fun _ si _=>n - (intOf si).toNat)
 case atStart=>exact ⟨0,by omega,rfl,by go_num,by simpa [mkI] using ho,World.grownBy.refl _ _⟩
 case round =>
  obtain ⟨j,hj,rfl,rfl,hr,hg⟩:=hrel
  by_cases hlt:j<n
  ·have hlt2:(j:Int)<(n:Int):=by omega
   have hj0:(0:Int)≤(j:Int):=by omega
   have f0:=hr.frozenAt (j*3)
   have f1:=hr.frozenAt (j*3+1)
   have f2:=hr.frozenAt (j*3+2)
   have hlen:(flat (mkI k xs j)).length=n*3:=by rw [flat_length,mkI_len,hl]
   obtain ⟨u0,hu0⟩:∃ u,wr.cell? ⟨g,j*3,none⟩=some u:=⟨_,by rw [hr.cellAt _ (by omega)];exact List.getElem?_eq_getElem (by omega)⟩
   obtain ⟨u1,hu1⟩:∃ u,wr.cell? ⟨g,j*3+1,none⟩=some u:=⟨_,by rw [hr.cellAt _ (by omega)];exact List.getElem?_eq_getElem (by omega)⟩
   obtain ⟨u2,hu2⟩:∃ u,wr.cell? ⟨g,j*3+2,none⟩=some u:=⟨_,by rw [hr.cellAt _ (by omega)];exact List.getElem?_eq_getElem (by omega)⟩
   have R:=(((hr.stored (j*3) (.int .i64 (k+j*3))).1.stored (j*3+1) (.int .i64 (k+j*3+1))).1.stored (j*3+2) (.int .i64 (k+j*3+1+1))).1
   rw [show (k+(j:Int)*3+1+1)=k+j*3+2 by omega,mkI_set k xs j (by omega),show (k+(j:Int)*3+2)=k+j*3+1+1 by omega] at R
   have G:=grownBy_tr hg (grownBy_tr (grownBy_set wr g (j*3) (.int .i64 (k+j*3))) (grownBy_tr (grownBy_set _ g (j*3+1) (.int .i64 (k+j*3+1))) (grownBy_set _ g (j*3+2) (.int .i64 (k+j*3+1+1)))))
   clear hr hg ho hlen
   go_wp2
   go_roundw
   case rel=>exact ⟨j+1,by omega,by go_num,by go_num,R,G⟩
   case measure=>simp [intOf];omega
  ·obtain rfl:j=n:=by omega
   go_wp2
   go_ret
   exact ⟨rfl,hr,hg⟩

theorem markInstrS_none (k:Int) (w:World):Calls Tryz.prog 138 #[.slice none 0 0,.int .i64 k] w fun e w'=>e=.returned (.int .i64 k)∧w=w':=by
 go_enter Tryz.func138,Tryz.ntmps138
 go_wp2
 refine wp_loop_rounds 1 ?_
 rw [rounds_succ]
 go_wp2
 go_ret
 exact ⟨rfl,rfl⟩

theorem markInstrS_any (base:Nat) (v:Value) (k:Int) (xs:List I3) (w:World) (hk0:0≤k) (hk:k≤1000000000) (hn:xs.length≤1048576) (ho:w.ownsRow base 141 3 v xs.length (flat xs)) :
  Calls Tryz.prog 138 #[v,.int .i64 k] w fun e w'=>e=.returned (.int .i64 (k+xs.length*3)) ∧
   w'.ownsRow base 141 3 v xs.length (flat (mkI k xs xs.length))∧w.grownBy w' v.ownBlock:=by
 rcases ho.2 with ⟨rfl,h0⟩ | ⟨g,cap,cur,rfl,_⟩
 ·obtain rfl:xs=[]:=List.eq_nil_of_length_eq_zero h0
  refine (markInstrS_none k w).mono ?_
  rintro e w' ⟨rfl,rfl⟩
  exact ⟨by simp,ho,World.grownBy.refl _ _⟩
 ·exact markInstrS_own base g _ cap k xs w hk0 hk hn rfl ho

def KeptBut (t:TypeId) (w w':World):Prop:=∀ (j:Nat) (cur:Array Value) (e:TypeId) (fz:Nat × Nat),w.heap[j]?=some (Obj.cells cur e fz)→e≠t→w'.heap[j]?=some (Obj.cells cur e fz)
theorem KeptBut.refl (t:TypeId) (w:World):KeptBut t w w:=fun _ _ _ _ h _=>h
theorem KeptBut.trans {t:TypeId} {a b c:World} (h:KeptBut t a b) (k:KeptBut t b c):KeptBut t a c:=fun j cur e fz h0 he=>k j cur e fz (h j cur e fz h0 he) he
theorem KeptBut.of_below {t:TypeId} {w w':World} (h:Below w.heap.size w w'):KeptBut t w w':=fun j cur e fz h0 _=>by rw [h.block j (Array.getElem?_eq_some_iff.1 h0).1];exact h0
theorem KeptBut.of_grown {t B s n:Nat} {w w':World} {v:Value} {xs:List Value} (hg:w.grownBy w' v.ownBlock) (ho:w.ownsRow B t s v n xs):KeptBut t w w':=fun j cur e fz h0 he=>by
 rw [hg.block j (Array.getElem?_eq_some_iff.1 h0).1 ?_]
 ·exact h0
 ·rcases ho.2 with ⟨rfl,_⟩ | ⟨g,cap,cur',rfl,_,hh,_⟩
  ·simp [Value.ownBlock]
  ·simp only [Value.ownBlock,ne_eq,Option.some.injEq]
   rintro rfl
   rw [hh] at h0
   simp at h0
   exact he h0.2.1.symm
theorem KeptBut.owns {t B e s n:Nat} {w w':World} {v:Value} {xs:List Value} (h:KeptBut t w w') (ho:w.ownsRow B e s v n xs) (he:e≠t):w'.ownsRow B e s v n xs:=by
 refine ⟨ho.1,?_⟩
 rcases ho.2 with h0 | ⟨g,cap,cur,hv,hB,hg,rest⟩
 ·exact .inl h0
 ·exact .inr ⟨g,cap,cur,hv,hB,h g cur e _ hg he,rest⟩

def OwnRows (w:World) (B:Nat) (vs:List Value) (rows:List (List I3)):Prop:=
 vs.length=rows.length∧(∀ t,t<rows.length→w.ownsRow B 141 3 (vs.getD t undef) (rows.getD t []).length (flat (rows.getD t []))) ∧
 ∀ t t',t<rows.length→t'<rows.length→t≠t'→(vs.getD t undef).ownBlock=none∨(vs.getD t undef).ownBlock≠(vs.getD t' undef).ownBlock

def OwnProg (w:World) (B:Nat) (v:Value) (rows:List (List I3)):Prop:=∃ vs,w.ownsRow B 73 1 v rows.length vs∧OwnRows w B vs rows

theorem OwnProg.nil (w:World) (B:Nat):OwnProg w B (.slice none 0 0) []:=⟨[],World.ownsRow_nil _ _ _ _,rfl,fun t ht=>by simp at ht,fun t _ ht=>by simp at ht⟩

theorem OwnRows.below {w w':World} {B:Nat} {vs:List Value} {rows:List (List I3)} (h:OwnRows w B vs rows) (hb:Below w.heap.size w w'):OwnRows w' B vs rows:=⟨h.1,fun t ht=>owns_below (h.2.1 t ht) hb,h.2.2⟩
theorem OwnProg.below {w w':World} {B:Nat} {v:Value} {rows:List (List I3)} (h:OwnProg w B v rows) (hb:Below w.heap.size w w'):OwnProg w' B v rows:=by
 obtain ⟨vs,h1,h2⟩:=h
 exact ⟨vs,owns_below h1 hb,h2.below hb⟩

theorem OwnProg.slice {w:World} {B:Nat} {v:Value} {rows:List (List I3)} (h:OwnProg w B v rows):∃ a cap,v=.slice a rows.length cap:=by
 obtain ⟨vs,h1,_⟩:=h
 rcases h1.2 with ⟨hv,h0⟩ | ⟨g,cap,cur,hv,_⟩
 ·rw [h0];exact ⟨none,0,hv⟩
 ·exact ⟨some ⟨g,0,none⟩,cap,hv⟩

theorem Instrs.of_own {w:World} {B:Nat} {v:Value} {xs:List I3} (h:w.ownsRow B 141 3 v xs.length (flat xs)) (hf:∀ x ∈ xs,I3.fits x):∃ a cap,v=.slice a xs.length cap∧Instrs w a xs.length cap xs:=by
 rcases h.2 with ⟨hv,h0⟩ | ⟨g,cap,cur,hv,_⟩
 ·obtain rfl:xs=[]:=List.eq_nil_of_length_eq_zero h0
  exact ⟨none,0,hv,rfl,Nat.le_refl _,by unfold maxLen;omega,by simp,.inl rfl⟩
 ·subst hv
  exact ⟨_,_,rfl,Instrs.of_owns h rfl hf rfl⟩

theorem OwnProg.codes {w:World} {B:Nat} {a:Option Addr} {len cap:Nat} {rows:List (List I3)} (h:OwnProg w B (.slice a len cap) rows) (hf:∀ r ∈ rows,∀ x ∈ r,I3.fits x):Codes w a len cap rows:=by
 obtain ⟨vs,h1,h2⟩:=h
 have hcellAt:=h1.2
 rcases h1.2 with ⟨hv,h0⟩ | ⟨g,cap',cur,hv,_,hh,hn,hcm,_⟩
 ·cases hv
  obtain rfl:rows=[]:=List.eq_nil_of_length_eq_zero h0
  exact ⟨rfl,Nat.le_refl _,by unfold maxLen;omega,.inl rfl⟩
 ·cases hv
  have hl:=h1.1
  refine ⟨rfl,hn,hcm,.inr ⟨g,0,rfl,(h1.lt g rfl).2,fun t ht=>?_⟩⟩
  have hc:=h1.cellAt t (by omega)
  have hvt:vs[t]?=some (vs.getD t undef):=by simp [List.getD,show t<vs.length by omega]
  rw [hvt] at hc
  obtain ⟨a',cap',hva,hI⟩:=Instrs.of_own (h2.2.1 t ht) (hf _ (by simp [List.getD,ht]))
  rw [hva] at hc
  exact ⟨a',_,cap',by rw [Nat.zero_add];exact hc,hI⟩

def mkP:Int→List (List I3)→Nat→List (List I3)
 | _,rows,0=>rows
 | _,[],_+1=>[]
 | k,r::rows,j+1=>mkI k r r.length::mkP (k+r.length*3) rows j
theorem mkP_len:∀ (k:Int) (rows:List (List I3)) (j:Nat),(mkP k rows j).length=rows.length
 | _,rows,0=>by simp [mkP]
 | _,[],_+1=>by simp [mkP]
 | k,_::rows,j+1=>by simp [mkP,mkP_len]
def cntP:List (List I3)→Nat→Nat
 | _,0=>0
 | [],_+1=>0
 | r::rows,j+1=>r.length*3+cntP rows j
theorem cntP_step:∀ (rows:List (List I3)) (j:Nat),j<rows.length→cntP rows (j+1)=cntP rows j+(rows.getD j []).length*3
 | [],j,h=>by simp at h
 | r::rows,0,_=>by simp [cntP]
 | r::rows,j+1,h=>by
  have:=cntP_step rows j (by simpa using h)
  simp only [cntP] at this ⊢
  rw [List.getD_cons_succ]
  omega
theorem cntP_mono:∀ (rows:List (List I3)) (j:Nat),cntP rows j≤cntP rows rows.length
 | [],0=>by simp [cntP]
 | [],_+1=>by simp [cntP]
 | r::rows,0=>by simp [cntP]
 | r::rows,j+1=>by
  have:=cntP_mono rows j
  simp only [cntP,List.length_cons]
  omega
theorem lessAll_cnt:∀ (rows:List (List I3)) (left:Int),0≤lessAll left rows→(cntP rows rows.length:Int)≤3*left
 | [],left,h=>by simp only [lessAll] at h;simp only [cntP,List.length_nil];omega
 | r::rows,left,h=>by
  unfold lessAll at h
  split at h
  ·omega
  ·have:=lessAll_cnt rows (left - r.length) h
   simp only [cntP,List.length_cons]
   omega
theorem sizeLeft_cnt {rows:List (List I3)} {left:Int} (h:0≤sizeLeft left rows):(cntP rows rows.length:Int)≤3*left:=by
 unfold sizeLeft at h
 split at h
 ·omega
 ·have:=lessAll_cnt rows _ h
  omega
theorem mkP_set:∀ (k:Int) (rows:List (List I3)) (j:Nat),j<rows.length→(mkP k rows j).set j (mkI (k+cntP rows j) (rows.getD j []) (rows.getD j []).length)=mkP k rows (j+1)
 | _,[],j,h=>by simp at h
 | k,r::rows,0,_=>by simp [mkP,cntP]
 | k,r::rows,j+1,h=>by
  have ih:=mkP_set (k+r.length*3) rows j (by simpa using h)
  have e:k+((cntP (r::rows) (j+1):Nat):Int)=k+r.length*3+(cntP rows j:Int):=by simp only [cntP];omega
  rw [e,List.getD_cons_succ]
  simp only [mkP,List.set_cons_succ,ih]
theorem mkP_old:∀ (k:Int) (rows:List (List I3)) (j i:Nat),j≤i→i<rows.length→(mkP k rows j).getD i []=rows.getD i []
 | _,rows,0,i,_,_=>by simp [mkP]
 | _,[],j+1,i,_,h=>by simp at h
 | k,r::rows,j+1,i,h,hl=>by
  cases i with
  | zero=>omega
  | succ i =>
   have ih:=mkP_old (k+r.length*3) rows j i (by omega) (by simpa using hl)
   simpa [mkP] using ih
theorem OwnRows.turn {w w':World} {B:Nat} {vs:List Value} {rows:List (List I3)} {t:Nat} {r:List I3} (h:OwnRows w B vs rows) (ht:t<rows.length) (hl:r.length=(rows.getD t []).length)
  (hr:w'.ownsRow B 141 3 (vs.getD t undef) (rows.getD t []).length (flat r)) (hg:w.grownBy w' (vs.getD t undef).ownBlock):OwnRows w' B vs (rows.set t r):=by
 obtain ⟨h1,h2,h3⟩:=h
 refine ⟨by simpa using h1,fun i hi=>?_,fun i j hi hj=>h3 i j (by simpa using hi) (by simpa using hj)⟩
 have hi':i<rows.length:=by simpa using hi
 by_cases hit:i=t
 ·subst hit
  have e:(rows.set i r).getD i []=r:=by simp [List.getD,ht]
  rw [e,hl]
  exact hr
 ·have e:(rows.set t r).getD i []=rows.getD i []:=by simp [List.getD,List.getElem?_set_ne (Ne.symm hit)]
  rw [e]
  exact (h2 i hi').kept hg (h3 i t hi' ht hit)

theorem markInstrSS_own (B:Nat) (v:Value) (k:Int) (rows:List (List I3)) (w:World) (hk0:0≤k) (hk:k≤1000) (hc:cntP rows rows.length≤10000000) (hcj:∀ j,j≤rows.length→cntP rows j≤10000000) (hn:∀ j,j<rows.length→(rows.getD j []).length≤1048576) (h:OwnProg w B v rows) :
  Calls Tryz.prog 90 #[v,.int .i64 k] w fun e w'=>e=.returned (.int .i64 (k+cntP rows rows.length))∧OwnProg w' B v (mkP k rows rows.length)∧KeptBut 141 w w'∧Below B w w':=by
 obtain ⟨vs,h1,h2⟩:=h
 rcases h1.2 with ⟨rfl,h0⟩ | ⟨P,cap,cur,rfl,hPB,hh,hlc,hcm,_⟩
 ·obtain rfl:rows=[]:=List.eq_nil_of_length_eq_zero h0
  go_enter Tryz.func90,Tryz.ntmps90
  go_wp2
  refine wp_loop_rounds 1 ?_
  rw [rounds_succ]
  go_wp2
  go_ret
  exact ⟨by simp [cntP],OwnProg.nil _ _,KeptBut.refl _ _,Below.refl _ _⟩
 ·clear hh
  unfold maxLen at hcm
  have HL:Hid (vs.length=rows.length):=h2.1
  go_enter Tryz.func90,Tryz.ntmps90
  go_wp2
  go_loopw [1,5] (fun sk si wr=>∃ j:Nat,j≤rows.length∧si=.int .i64 j∧sk=.int .i64 (k+cntP rows j)∧wr.ownsRow B 73 1 (.slice (some ⟨P,0,none⟩) rows.length cap) rows.length vs∧OwnRows wr B vs (mkP k rows j)∧KeptBut 141 w wr∧Below B w wr) (fun _ si _=>rows.length - (intOf si).toNat)
  case atStart=>exact ⟨0,by omega,rfl,by simp [cntP],h1,by simpa [mkP] using h2,KeptBut.refl _ _,Below.refl _ _⟩
  case round =>
   obtain ⟨j,hj,rfl,rfl,hr,hR,hK,hb⟩:=hrel
   by_cases hlt:j<rows.length
   ·have hlt2:(j:Int)<(rows.length:Int):=by omega
    have hj0:(0:Int)≤(j:Int):=by omega
    have hc0:=hr.cellAt j (by omega)
    have hvt:vs[j]?=some (vs.getD j undef):=by simp [List.getD,show j<vs.length by have:=HL.out;omega]
    rw [hvt] at hc0
    have hrow:=hR.2.1 j (by rw [mkP_len];exact hlt)
    have hcs:=hcj j hj
    have hnj:=hn j hlt
    have hstep:=cntP_step rows j hlt
    have hset:=mkP_set k rows j hlt
    have hold:=mkP_old k rows j j (Nat.le_refl _) hlt
    rw [hold] at hrow
    obtain ⟨c,hcd⟩:∃ c,c=cntP rows j:=⟨_,rfl⟩
    obtain ⟨r,hrd⟩:∃ r,r=rows.getD j []:=⟨_,rfl⟩
    rw [← hcd] at hcs hstep hset ⊢
    rw [← hrd] at hnj hstep hset hold hrow
    have hturn:=fun w' (hr':w'.ownsRow B 141 3 (vs.getD j undef) r.length (flat (mkI (k+c) r r.length))) (hg:wr.grownBy w' (vs.getD j undef).ownBlock)=>OwnRows.turn (w':=w') (t:=j) (r:=mkI (k+c) r r.length) hR (by rw [mkP_len];exact hlt) (by rw [mkI_len,hold]) (by rw [hold];exact hr') hg
    rw [hset] at hturn
    have HS:Hid (cntP rows (j+1)=c+r.length*3):=hstep
    have hlow:∀ x,(vs.getD j undef).ownBlock=some x→B≤x:=fun x hx=>(hrow.lt x hx).1
    have hsz:B≤wr.heap.size:=by have:=(hr.lt P rfl).2;omega
    have hne:=owns_ne hr hrow (by decide)
    have K:=markInstrS_any B (vs.getD j undef) (k+c) r
    clear hcd hrd hstep hset hold hvt hR
    generalize vs.getD j undef=u at hc0 hrow hturn hlow hne K
    go_wp2_with fail
    refine (K _ (by omega) (by omega) hnj hrow).mono ?_
    rintro e w1 ⟨rfl,hr1,hg1⟩
    have hR1:=hturn w1 hr1 hg1
    have hr2:=hr.kept hg1 hne
    have hb1:=hb.grown hg1 hsz hlow
    have hK1:=hK.trans (KeptBut.of_grown hg1 hrow)
    clear hturn hr1 hr hb hg1 hlow hne hrow hc0 K hK
    go_wp2
    go_roundw
    case rel=>exact ⟨j+1,by omega,by go_num,by rw [HS.out];go_num,hr2,hR1,hK1,hb1⟩
    case measure=>simp [intOf];omega
   ·obtain rfl:j=rows.length:=by omega
    go_wp2
    go_ret
    exact ⟨rfl,⟨vs,by rw [mkP_len];exact hr,hR⟩,hK,hb⟩

theorem markProgram_own (B:Nat) (v:Value) (k:Int) (rows:List (List I3)) (w:World) (hk0:0≤k) (hk:k≤1000) (hc:cntP rows rows.length≤10000000) (hcj:∀ j,j≤rows.length→cntP rows j≤10000000) (hn:∀ j,j<rows.length→(rows.getD j []).length≤1048576) (hB:B≤w.heap.size) (h:OwnProg w B v rows) :
  Calls Tryz.prog 37 #[.agg #[v],.int .i64 k] w fun e w'=>e=.returned (.int .i64 (k+cntP rows rows.length))∧OwnProg w' B v (mkP k rows rows.length)∧KeptBut 141 w w'∧Below B w w':=by
 obtain ⟨a,cap,rfl⟩:=h.slice
 go_enter Tryz.func37,Tryz.ntmps37
 go_wp2_with fail
 refine (markInstrSS_own B _ k rows _ hk0 hk hc hcj hn (h.below (by go_grown))).mono ?_
 rintro e w1 ⟨rfl,h1,hK1,hb1⟩
 have b1:Below B w w1:=((by go_grown:Below w.heap.size w _).mono hB).trans hb1
 have K1:KeptBut 141 w w1:=(KeptBut.of_below (by go_grown)).trans hK1
 clear hb1 hK1 h
 go_wp2
 go_ret
 exact ⟨rfl,h1,K1,b1⟩
end Go.Proofs.YtjgffnlmjmibgaaGreatDoor
