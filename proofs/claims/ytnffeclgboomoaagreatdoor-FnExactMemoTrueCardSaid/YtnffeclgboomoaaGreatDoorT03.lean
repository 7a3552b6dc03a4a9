/-
  Joined: Prog2, Prog3, MarkP, Prog4, MarkH, BugS.
-/
import Derived.OwnWalk
import Derived.Test.YtnffeclgboomoaaGreatDoorT02

namespace Go.Proofs.YtnffeclgboomoaaGreatDoor
set_option maxRecDepth 100000
set_option maxHeartbeats 16000000
open Go.RowKit

def I3.cells (x:I3):List Value:=[.int .i64 x.1,.int .i64 x.2.1,.int .i64 x.2.2]

def Zm (xs:List I3):List Value:=xs.flatMap I3.cells

theorem Zo (xs:List I3):(Zm xs).length=xs.length*3:=by
 induction xs with
 | nil=>rfl
 | cons x xs ih=>simp [Zm,I3.cells] at *;omega

theorem XA {xs:List I3} {k:Nat} (hk:k<xs.length):Zm (xs.take (k+1))=Zm (xs.take k)++(xs.getD k (0,0,0)).cells:=by
 unfold Zm
 rw [List.take_succ_eq_append_getElem hk,List.flatMap_append]
 simp [List.getD,hk,I3.cells]

theorem Q8 {cs l:List Value} {k:Nat} (a b c:Value) (hl:k*3+3≤cs.length) (ht:cs.take (k*3)=l) :
  (((cs.set (k*3) a).set (k*3+1) b).set (k*3+2) c).take ((k+1)*3)=l++[a,b,c]:=by
 have hll:l.length=k*3:=by rw [← ht,List.length_take];omega
 obtain ⟨x,y,z,rest,hd⟩:∃ x y z rest,cs.drop (k*3)=x::y::z::rest:=by
  match h:cs.drop (k*3),(by rw [List.length_drop];omega:3≤(cs.drop (k*3)).length) with
  | x::y::z::rest,_=>exact ⟨x,y,z,rest,rfl⟩
 have hcs:cs=l++x::y::z::rest:=by rw [← ht,← hd,List.take_append_drop]
 rw [hcs,← hll,List.set_append_right _ _ (Nat.le_refl _),List.set_append_right _ _ (by omega),List.set_append_right _ _ (by omega)]
 rw [show (k+1)*3=l.length+3 by omega,List.take_length_add_append]
 simp [show l.length+1 - l.length=1 by omega,show l.length+2 - l.length=2 by omega]

theorem Zl.of_owns {w:World} {base e n cap g:Nat} {cs:List Value} {xs:List I3} (h:w.ownsRow base e 3 (.slice (some ⟨g,0,none⟩) n cap) n cs) (hl:xs.length=n) (hf:∀ x ∈ xs,I3.fits x) (hcs:cs=Zm xs) :
  Zl w (some ⟨g,0,none⟩) n cap xs:=by
 have hcell:∀ t,t<n→∀ j,j<3→w.cell? ⟨g,t*3+j,none⟩=((xs.getD t (0,0,0)).cells)[j]?:=by
  intro t ht j hj
  rw [h.cellAt (t*3+j) (by omega),hcs]
  have hsplit:Zm xs=Zm (xs.take t)++((xs.getD t (0,0,0)).cells++Zm (xs.drop (t+1))):=by
   rw [← List.append_assoc,← XA (by omega)]
   unfold Zm
   rw [← List.flatMap_append,List.take_append_drop]
  have hlt:(Zm (xs.take t)).length=t*3:=by rw [Zo,List.length_take];rw [Nat.min_eq_left (by omega)]
  rw [hsplit,List.getElem?_append_right (by omega),hlt,Nat.add_sub_cancel_left,List.getElem?_append_left (by simp [I3.cells];omega)]
 have hg:=(h.lt g rfl).2
 rcases h.2 with ⟨h0,_⟩ | ⟨g',cap',cur,hv,_,_,hn,hcap,_,_⟩
 ·cases h0
 cases hv
 exact ⟨hl,hn,hcap,hf,.inr ⟨g,0,rfl,hg,fun t ht=>⟨by simpa [I3.cells] using hcell t ht 0 (by omega),by simpa [I3.cells] using hcell t ht 1 (by omega),by simpa [I3.cells] using hcell t ht 2 (by omega)⟩⟩⟩

theorem ML:(Tryz.prog.info? 161).map (fun i=>(i.zero,i.size,i.bytes))=some (some (.agg #[.int .i64 0,.int .i64 0,.int .i64 0]),3,24):=by kernel_rfl

theorem Zz {B e k n:Nat} {v:Value} {xs:List Value} {w w':World} (h:w.ownsRow B e k v n xs) (hb:Below w.heap.size w w'):w'.ownsRow B e k v n xs:=by
 refine ⟨h.1,?_⟩
 rcases h.2 with h0 | ⟨g,cap,cur,hv,hB,hg,rest⟩
 ·exact .inl h0
 have hlt:g<w.heap.size:=by
  rcases Nat.lt_or_ge g w.heap.size with h' | h'
  ·exact h'
  simp [Array.getElem?_eq_none h'] at hg
 exact .inr ⟨g,cap,cur,hv,hB,by rw [hb.block g hlt];exact hg,rest⟩

theorem Qv (a:Option Addr) (len cap:Nat) (xs:List I3) (w:World) (h:Zl w a len cap xs) (hn:len≤1048576) :
  Calls Tryz.prog 135 #[.slice a len cap] w fun e w'=>e=.returned (.slice (some ⟨w.heap.size,0,none⟩) len len) ∧
   (∃ cs,cs=Zm xs∧w'.ownsRow w.heap.size 161 3 (.slice (some ⟨w.heap.size,0,none⟩) len len) len cs)∧Below w.heap.size w w':=by
 obtain ⟨i0,hi,hz0,hz1,hz2⟩:=info_parts ML
 have hI:=h
 obtain ⟨hl,hlc,hcm,hfit,hcase⟩:=h
 unfold maxLen at hcm
 go_enter Tryz.func135,Tryz.ntmps135
 go_wp2_with (at_make;refine wpList_make_full _ rfl _ _ 115 rfl w.heap.size 161 i0 (.agg #[.int .i64 0,.int .i64 0,.int .i64 0]) 3 Tryz.underlying115 hi hz0 hz1 _ _ _ _ len rfl rfl (by omega) (by omega) ?b2 ?b3 (Nat.le_refl _) ?_)
 case b2=>rw [hz2];omega
 case b3=>unfold maxLen;omega
 intro w0 hown0 hgrow0
 have hb0:Below w.heap.size w w0:=(Below.refl _ _).grown hgrow0 (Nat.le_refl _) (fun k h=>by cases h)
 obtain ⟨cs0,hcs0⟩:∃ cs0,cs0=(madeCells #[Value.int .i64 0,.int .i64 0,.int .i64 0] (len*3)).toList:=⟨_,rfl⟩
 rw [← hcs0] at hown0
 clear hgrow0 hcs0
 go_wp2
 go_loopw [4] (fun si wr=>∃ (k:Nat) (cs:List Value),k≤len∧si=.int .i64 k∧Hid (cs.take (k*3)=Zm (xs.take k))∧wr.ownsRow w.heap.size 161 3 (.slice (some ⟨w.heap.size,0,none⟩) len len) len cs∧Below w.heap.size w wr) (fun si _=>len - (intOf si).toNat)
 case atStart=>exact ⟨0,cs0,by omega,rfl,by simp [Hid,Zm],hown0,hb0⟩
 case round =>
  obtain ⟨k,cs,hk,rfl,hH,ho,hbel⟩:=hrel
  by_cases hlt:k<len
  ·rcases hcase with h0 | ⟨b,off,rfl,hblt,hcell⟩
   ·omega
   have hlt2:(k:Int)<(len:Int):=by omega
   obtain ⟨c0,c1,c2⟩:=hcell k hlt
   have hstep:=XA (xs:=xs) (k:=k) (by omega)
   have hstep':Hid (Zm (xs.take (k+1))=Zm (xs.take k)++(xs.getD k (0,0,0)).cells):=hstep
   clear hstep hcell
   generalize xs.getD k (0,0,0)=x at c0 c1 c2 hstep'
   have d0:wr.cell? ⟨b,off+k*3,none⟩=some (.int .i64 x.1):=by rw [hbel.cell (p:=⟨b,_,none⟩) hblt];exact c0
   have d1:wr.cell? ⟨b,off+k*3+1,none⟩=some (.int .i64 x.2.1):=by rw [hbel.cell (p:=⟨b,_,none⟩) hblt];exact c1
   have d2:wr.cell? ⟨b,off+k*3+2,none⟩=some (.int .i64 x.2.2):=by rw [hbel.cell (p:=⟨b,_,none⟩) hblt];exact c2
   clear c0 c1 c2
   go_wp2_with fail
   refine (P1 x wr).mono ?_
   rintro e w1 ⟨rfl,hb1⟩
   clear d0 d1 d2
   have ho1:=Zz ho hb1
   have hbel1:Below w.heap.size w w1:=Zb hbel hb1
   clear ho hbel hb1
   obtain ⟨x0,x1,x2⟩:=x
   have hlen:=ho1.1
   have f0:=ho1.frozenAt (k*3)
   have f1:=ho1.frozenAt (k*3+1)
   have f2:=ho1.frozenAt (k*3+2)
   obtain ⟨u0,hu0⟩:∃ u,w1.cell? ⟨w.heap.size,k*3,none⟩=some u:=⟨_,by rw [ho1.cellAt _ (by omega)];exact List.getElem?_eq_getElem (by omega)⟩
   obtain ⟨u1,hu1⟩:∃ u,w1.cell? ⟨w.heap.size,k*3+1,none⟩=some u:=⟨_,by rw [ho1.cellAt _ (by omega)];exact List.getElem?_eq_getElem (by omega)⟩
   obtain ⟨u2,hu2⟩:∃ u,w1.cell? ⟨w.heap.size,k*3+2,none⟩=some u:=⟨_,by rw [ho1.cellAt _ (by omega)];exact List.getElem?_eq_getElem (by omega)⟩
   have R:=(((ho1.stored (k*3) (.int .i64 x0)).1.stored (k*3+1) (.int .i64 x1)).1.stored (k*3+2) (.int .i64 x2)).1
   have hT:Hid ((((cs.set (k*3) (.int .i64 x0)).set (k*3+1) (.int .i64 x1)).set (k*3+2) (.int .i64 x2)).take ((k+1)*3)=Zm (xs.take (k+1))):=by
    rw [Hid,hstep'.out]
    exact Q8 _ _ _ (by omega) hH.out
   have hb3:Below w.heap.size w (((w1.setCell ⟨w.heap.size,k*3,none⟩ (.int .i64 x0)).setCell ⟨w.heap.size,k*3+1,none⟩ (.int .i64 x1)).setCell ⟨w.heap.size,k*3+2,none⟩ (.int .i64 x2)):=
    ((hbel1.setCell (Nat.le_refl _) _).setCell (Nat.le_refl _) _).setCell (Nat.le_refl _) _
   clear hH hstep' ho1 hbel1
   generalize ((cs.set (k*3) (.int .i64 x0)).set (k*3+1) (.int .i64 x1)).set (k*3+2) (.int .i64 x2)=cs' at R hT
   unfold I3.val
   go_wp2
   go_roundw
   case rel=>exact ⟨k+1,cs',by omega,by go_num,hT,R,hb3⟩
   case measure=>simp [intOf];omega
  obtain rfl:k=len:=by omega
  clear hcase hI
  go_wp2
  go_ret
  refine ⟨rfl,⟨cs,?_,ho⟩,hbel⟩
  have h1:=hH.out
  have h2:=ho.1
  rwa [List.take_of_length_le (by omega),List.take_of_length_le (by omega)] at h1


theorem Xh (w:World) (p:Addr) (u:Value) {q:Addr} (h:q.block≠p.block):(w.setCell p u).cell? q=w.cell? q:=by
 have:=heap_setCell_other w p q.block u h
 unfold World.cell?
 rw [this]

theorem Zl.setCell {w:World} {g len cap:Nat} {xs:List I3} (h:Zl w (some ⟨g,0,none⟩) len cap xs) (p:Addr) (u:Value) (hne:g≠p.block):Zl (w.setCell p u) (some ⟨g,0,none⟩) len cap xs:=by
 obtain ⟨h1,h2,h3,hf,h4⟩:=h
 refine ⟨h1,h2,h3,hf,?_⟩
 rcases h4 with h4 | ⟨b,off,ha,hlt,hc⟩
 ·exact .inl h4
 cases ha
 refine .inr ⟨g,0,rfl,by simpa using hlt,fun t ht=>?_⟩
 obtain ⟨c0,c1,c2⟩:=hc t ht
 exact ⟨by rw [Xh _ _ _ hne];exact c0,by rw [Xh _ _ _ hne];exact c1,by rw [Xh _ _ _ hne];exact c2⟩

def Wj (w:World) (B k:Nat) (cs:List Value) (rows:List (List I3)):Prop:=
 ∀ t,t<k→∃ g len',cs[t]?=some (.slice (some ⟨g,0,none⟩) len' len')∧B<g∧Zl w (some ⟨g,0,none⟩) len' len' (rows.getD t [])

theorem Wj.below {w w':World} {B k:Nat} {cs:List Value} {rows:List (List I3)} (h:Wj w B k cs rows) (hb:Below w.heap.size w w'):Wj w' B k cs rows:=fun t ht=>by
 obtain ⟨g,l,hc,hg,hi⟩:=h t ht
 exact ⟨g,l,hc,hg,hi.below hb⟩

theorem Wj.put {w:World} {B k:Nat} {cs:List Value} {rows:List (List I3)} (h:Wj w B k cs rows) (hk:k<cs.length) {g len':Nat} (hg:B<g) (hi:Zl w (some ⟨g,0,none⟩) len' len' (rows.getD k [])) :
  Wj (w.setCell ⟨B,k,none⟩ (.slice (some ⟨g,0,none⟩) len' len')) B (k+1) (cs.set k (.slice (some ⟨g,0,none⟩) len' len')) rows:=fun t ht=>by
 by_cases htk:t=k
 ·subst htk
  exact ⟨g,len',by simp [hk],hg,hi.setCell _ _ (show g≠B by omega)⟩
 obtain ⟨g',l',hc,hg',hi'⟩:=h t (by omega)
 exact ⟨g',l',by rw [List.getElem?_set_ne (by omega)];exact hc,hg',hi'.setCell _ _ (show g'≠B by omega)⟩

theorem Nv:(Tryz.prog.info? 115).map (fun i=>(i.zero,i.size,i.bytes))=some (some (.slice none 0 0),1,24):=by kernel_rfl

theorem ZZ.of_rows {w:World} {B e len cap:Nat} {cs:List Value} {rows:List (List I3)} (ho:w.ownsRow B e 1 (.slice (some ⟨B,0,none⟩) len cap) len cs) (hl:rows.length=len) (h:Wj w B len cs rows) :
  ZZ w (some ⟨B,0,none⟩) len cap rows:=by
 have hg:=(ho.lt B rfl).2
 have hcell:=ho.cellAt
 rcases ho.2 with ⟨h0,_⟩ | ⟨g',cap',cur,hv,_,_,hn,hcap,_,_⟩
 ·cases h0
 cases hv
 refine ⟨hl,hn,hcap,.inr ⟨B,0,rfl,hg,fun t ht=>?_⟩⟩
 obtain ⟨g,l,hc,_,hi⟩:=h t ht
 exact ⟨_,_,_,by rw [Nat.zero_add,hcell t (by omega)];exact hc,hi⟩

theorem Wj.low {w:World} {B k:Nat} {cs:List Value} {rows:List (List I3)} (h:Wj w B k cs rows) {p:Addr} (hp:p.block<B) (u:Value):Wj (w.setCell p u) B k cs rows:=fun t ht=>by
 obtain ⟨g,l,hc,hg,hi⟩:=h t ht
 exact ⟨g,l,hc,hg,hi.setCell _ _ (by omega)⟩

def Wy (w:World) (B len:Nat) (rows:List (List I3)):Prop:=
 rows.length=len∧∃ cs,w.ownsRow B 115 1 (.slice (some ⟨B,0,none⟩) len len) len cs∧Wj w B len cs rows

theorem Wy.codes {w:World} {B len:Nat} {rows:List (List I3)} (h:Wy w B len rows):ZZ w (some ⟨B,0,none⟩) len len rows:=by
 obtain ⟨hl,cs,ho,hR⟩:=h
 exact ZZ.of_rows ho hl hR

theorem Wy.low {w:World} {B len:Nat} {rows:List (List I3)} (h:Wy w B len rows) {p:Addr} (hp:p.block<B) (u:Value):Wy (w.setCell p u) B len rows:=by
 obtain ⟨hl,cs,ho,hR⟩:=h
 exact ⟨hl,cs,ownsRow_setCell_below ho hp _,hR.low hp u⟩

theorem R4 (a:Option Addr) (len cap:Nat) (rows:List (List I3)) (w:World) (h:ZZ w a len cap rows) (hn:len≤1048576) (hr:∀ t,t<len→(rows.getD t []).length≤1048576) :
  Calls Tryz.prog 77 #[.slice a len cap] w fun e w'=>e=.returned (.slice (some ⟨w.heap.size,0,none⟩) len len) ∧
   Wy w' w.heap.size len rows∧Below w.heap.size w w':=by
 obtain ⟨i0,hi,hz0,hz1,hz2⟩:=info_parts Nv
 obtain ⟨hl,hlc,hcm,hcase⟩:=h
 unfold maxLen at hcm
 go_enter Tryz.func77,Tryz.ntmps77
 go_wp2_with (at_make;refine wpList_make_full _ rfl _ _ 23 rfl w.heap.size 115 i0 (.slice none 0 0) 1 Tryz.underlying23 hi hz0 hz1 _ _ _ _ len rfl rfl (by omega) (by omega) ?b2 ?b3 (Nat.le_refl _) ?_)
 case b2=>rw [hz2];omega
 case b3=>unfold maxLen;omega
 intro w0 hown0 hgrow0
 have hb0:Below w.heap.size w w0:=(Below.refl _ _).grown hgrow0 (Nat.le_refl _) (fun k h=>by cases h)
 obtain ⟨cs0,hcs0⟩:∃ cs0,cs0=(madeCells #[Value.slice none 0 0] len).toList:=⟨_,rfl⟩
 rw [← hcs0] at hown0
 clear hgrow0 hcs0
 go_wp2
 go_loopw [4] (fun si wr=>∃ (k:Nat) (cs:List Value),k≤len∧si=.int .i64 k∧Wj wr w.heap.size k cs rows∧wr.ownsRow w.heap.size 115 1 (.slice (some ⟨w.heap.size,0,none⟩) len len) len cs∧Below w.heap.size w wr) (fun si _=>len - (intOf si).toNat)
 case atStart=>exact ⟨0,cs0,by omega,rfl,fun t ht=>by omega,hown0,hb0⟩
 case round =>
  obtain ⟨k,cs,hk,rfl,hR,ho,hbel⟩:=hrel
  by_cases hlt:k<len
  ·rcases hcase with h0 | ⟨b,off,rfl,hblt,hcell⟩
   ·omega
   have hlt2:(k:Int)<(len:Int):=by omega
   obtain ⟨a',len',cap',hc,hI⟩:=hcell k hlt
   have hrk:=hr k hlt
   rw [hI.1] at hrk
   have hc':wr.cell? ⟨b,off+k,none⟩=some (.slice a' len' cap'):=by rw [hbel.cell (p:=⟨b,_,none⟩) hblt];exact hc
   clear hcell hc
   have hIr:Zl wr a' len' cap' (rows.getD k []):=hI.below hbel
   have hwr:=(ho.lt w.heap.size rfl).2
   go_wp2_with fail
   refine (Qv a' len' cap' _ wr hIr hrk).mono ?_
   rintro e w1 ⟨rfl,⟨cs2,hcs2,hown2⟩,hb1⟩
   have hI2:=Zl.of_owns hown2 hIr.1 hIr.2.2.2.1 hcs2
   clear hcs2 hown2 hIr hI hc'
   have ho1:=Zz ho hb1
   have hR1:=hR.below hb1
   have hbel1:Below w.heap.size w w1:=Zb hbel hb1
   clear ho hbel hb1 hR
   have hlen:=ho1.1
   have f0:=ho1.frozenAt k
   obtain ⟨u0,hu0⟩:∃ u,w1.cell? ⟨w.heap.size,k,none⟩=some u:=⟨_,by rw [ho1.cellAt _ (by omega)];exact List.getElem?_eq_getElem (by omega)⟩
   have R:=(ho1.stored k (.slice (some ⟨wr.heap.size,0,none⟩) len' len')).1
   have R2:=hR1.put (by omega) hwr hI2
   have hb3:Below w.heap.size w (w1.setCell ⟨w.heap.size,k,none⟩ (.slice (some ⟨wr.heap.size,0,none⟩) len' len')):=hbel1.setCell (Nat.le_refl _) _
   clear ho1 hbel1 hR1 hI2
   generalize cs.set k (.slice (some ⟨wr.heap.size,0,none⟩) len' len')=cs' at R R2
   go_wp2
   go_roundw
   case rel=>exact ⟨k+1,cs',by omega,by go_num,R2,R,hb3⟩
   case measure=>simp [intOf];omega
  obtain rfl:k=len:=by omega
  clear hcase
  go_wp2
  go_ret
  exact ⟨rfl,⟨hl,cs,ho,hR⟩,hbel⟩

theorem Um (a:Option Addr) (len cap:Nat) (rows:List (List I3)) (w:World) (h:ZZ w a len cap rows) (hn:len≤1048576) (hr:∀ t,t<len→(rows.getD t []).length≤1048576) :
  Calls Tryz.prog 28 #[.agg #[.slice a len cap]] w fun e w'=>e=.returned (.agg #[.slice (some ⟨w.heap.size+3,0,none⟩) len len]) ∧
   Wy w' (w.heap.size+3) len rows∧Below w.heap.size w w':=by
 go_enter Tryz.func28,Tryz.ntmps28
 go_wp2_with fail
 refine (R4 _ _ _ rows _ (h.below (by go_grown)) hn hr).mono ?_
 rintro e w1 ⟨rfl,hC,hb1⟩
 have k1:w1.cell? ⟨w.heap.size+1,0,none⟩=some (.slice none 0 0):=by rw [hb1.cell (by simp)];first | (simp [go_sem];done) | (simp [World.cell?];done)
 have k2:w1.cell? ⟨w.heap.size+1+1,0,none⟩=some (.slice none 0 0):=by rw [hb1.cell (by simp)];first | (simp [go_sem];done) | (simp [World.cell?];done)
 have f1:w1.frozen? ⟨w.heap.size+1,0,none⟩=false:=by rw [hb1.frozen (by simp)];first | (simp [go_sem];done) | (simp [World.frozen?];done)
 have f2:w1.frozen? ⟨w.heap.size+1+1,0,none⟩=false:=by rw [hb1.frozen (by simp)];first | (simp [go_sem];done) | (simp [World.frozen?];done)
 have hbw:Below w.heap.size w w1:=Zb (by go_grown) hb1
 simp only [World.size_alloc] at hC
 rw [show w.heap.size+1+1+1=w.heap.size+3 from rfl] at hC
 clear hb1 h
 simp only [World.size_alloc]
 have k3:((w1.setCell ⟨w.heap.size+1+1,0,none⟩ (.slice (some ⟨w.heap.size+1+1+1,0,none⟩) len len)).setCell ⟨w.heap.size+1,0,none⟩ (.slice (some ⟨w.heap.size+1+1+1,0,none⟩) len len)).cell? ⟨w.heap.size+1,0,none⟩=some (.slice (some ⟨w.heap.size+1+1+1,0,none⟩) len len):=
  World.cell?_setCell_same' _ _ _ (by rw [Xh _ _ _ (by simp),k1];rfl)
 go_wp2
 have R:=(hC.low (p:=⟨w.heap.size+1+1,0,none⟩) (by simp) (.slice (some ⟨w.heap.size+1+1+1,0,none⟩) len len)).low (p:=⟨w.heap.size+1,0,none⟩) (by simp) (.slice (some ⟨w.heap.size+1+1+1,0,none⟩) len len)
 have hb3:=(hbw.setCell (p:=⟨w.heap.size+1+1,0,none⟩) (by simp;omega) (.slice (some ⟨w.heap.size+1+1+1,0,none⟩) len len)).setCell (p:=⟨w.heap.size+1,0,none⟩) (by simp) (.slice (some ⟨w.heap.size+1+1+1,0,none⟩) len len)
 clear hC hbw k1 k2 f1 f2
 generalize (w1.setCell ⟨w.heap.size+1+1,0,none⟩ (.slice (some ⟨w.heap.size+1+1+1,0,none⟩) len len)).setCell ⟨w.heap.size+1,0,none⟩ (.slice (some ⟨w.heap.size+1+1+1,0,none⟩) len len)=w2 at k3 R hb3
 refine bodyPost_ret (by simp [results,Tryz.results28,go_sem,k3];try rfl) rfl ?_
 exact ⟨rfl,R,hb3⟩


theorem Xo {w:World} {B B' e e' s s' n n':Nat} {v v':Value} {xs xs':List Value} (h:w.ownsRow B e s v n xs) (h':w.ownsRow B' e' s' v' n' xs') (he:e≠e'):v.ownBlock=none∨v.ownBlock≠v'.ownBlock:=by
 rcases h.2 with ⟨rfl,_⟩ | ⟨g,cap,cur,rfl,_,hg,_⟩
 ·exact .inl rfl
 rcases h'.2 with ⟨rfl,_⟩ | ⟨g',cap',cur',rfl,_,hg',_⟩
 ·exact .inr (by simp [Value.ownBlock])
 refine .inr ?_
 simp only [Value.ownBlock,ne_eq,Option.some.injEq]
 rintro rfl
 rw [hg] at hg'
 simp at hg'
 exact he hg'.2

theorem Yg (w:World) (g j:Nat) (u:Value):w.grownBy (w.setCell ⟨g,j,none⟩ u) (some g):=
 ⟨rfl,rfl,rfl,by simp [World.setCell],fun k _ hk=>Below.heap_setCell _ _ _ _ (fun e=>hk (by rw [e]))⟩
theorem Yk {a b c:World} {row:Option Nat} (h:a.grownBy b row) (k:b.grownBy c row):a.grownBy c row:=
 ⟨k.os.trans h.os,k.tape.trans h.tape,k.output.trans h.output,Nat.le_trans h.size k.size,fun i hi hne=>(k.block i (by have:=h.size;omega) hne).trans (h.block i hi hne)⟩


theorem Za {w w':World} (h:Below w.heap.size w w'):∀ (p:Addr) (v:Value),w.cell? p=some v→w'.cell? p=some v:=by
 intro p v hv
 have hlt:p.block<w.heap.size:=by
  rcases Nat.lt_or_ge p.block w.heap.size with h' | h'
  ·exact h'
  simp [World.cell?,Array.getElem?_eq_none h'] at hv
 rw [h.cell hlt]
 exact hv

theorem Ql (a a':Option Addr) (len cap cap':Nat) (xs:List I3) (w:World) (h:Zl w a len cap xs) (h':Zl w a' len cap' xs) :
  Calls Tryz.prog 137 #[.slice a len cap,.slice a' len cap'] w fun e w'=>e=.returned (.bool true)∧Below w.heap.size w w':=by
 obtain ⟨hl,hlc,hcm,_,hcase⟩:=h
 obtain ⟨_,hlc',hcm',_,hcase'⟩:=h'
 unfold maxLen at hcm hcm'
 have hne:((len:Int) != (len:Int))=false:=by simp
 by_cases h0:len=0
 ·subst h0
  go_enter Tryz.func137,Tryz.ntmps137
  go_wp2
  refine wp_loop_rounds 1 ?_
  rw [rounds_succ]
  go_wp2
  go_ret
  exact ⟨rfl,Below.refl _ _⟩
 rcases hcase with h0' | ⟨b,off,rfl,hblt,hcell⟩
 ·exact absurd h0' h0
 rcases hcase' with h0' | ⟨b',off',rfl,hblt',hcell'⟩
 ·exact absurd h0' h0
 go_enter Tryz.func137,Tryz.ntmps137
 go_wp2
 go_loopw [5] (fun si wr=>∃ k:Nat,k≤len∧si=.int .i64 k∧Below w.heap.size w wr) (fun si _=>len - (intOf si).toNat)
 case atStart=>exact ⟨0,by omega,rfl,Below.refl _ _⟩
 case round =>
  obtain ⟨k,hk,rfl,hbel⟩:=hrel
  by_cases hlt:k<len
  ·obtain ⟨c0,c1,c2⟩:=hcell k hlt
   obtain ⟨e0,e1,e2⟩:=hcell' k hlt
   rw [← hbel.cell (p:=⟨b,_,none⟩) hblt] at c0 c1 c2
   rw [← hbel.cell (p:=⟨b',_,none⟩) hblt'] at e0 e1 e2
   have hlt':(k:Int)<(len:Int):=by omega
   generalize xs.getD k (0,0,0)=x at c0 c1 c2 e0 e1 e2
   clear hcell hcell'
   go_wp2_with fail
   have hk0:(0:Int)≤(k:Int):=by omega
   go_region_held3 (fun w'=>w'.cell? ⟨b,off+k*3,none⟩=some (.int .i64 x.1)∧w'.cell? ⟨b,off+k*3+1,none⟩=some (.int .i64 x.2.1)∧w'.cell? ⟨b,off+k*3+2,none⟩=some (.int .i64 x.2.2)∧w'.cell? ⟨b',off'+k*3,none⟩=some (.int .i64 x.1)∧w'.cell? ⟨b',off'+k*3+1,none⟩=some (.int .i64 x.2.1)∧w'.cell? ⟨b',off'+k*3+2,none⟩=some (.int .i64 x.2.2)) (first | (exact ⟨c0,c1,c2,e0,e1,e2⟩) | (refine ⟨?_,?_,?_,?_,?_,?_⟩<;>(apply Za (by assumption);assumption)) | go_keep)
    (first | (go_at_call 190;refine (Pu x _).mono ?_;rintro e w1 ⟨rfl,hb1⟩))
   have hbel1:Below w.heap.size w w1:=Zb hbel (Zb (by go_grown) hb1)
   go_wp2
   go_roundw
   case rel=>exact ⟨k+1,by omega,by go_num,hbel1⟩
   case measure=>simp [intOf];omega
  go_wp2
  go_ret
  exact ⟨rfl,hbel⟩

theorem Rn (a a':Option Addr) (len cap cap':Nat) (rows:List (List I3)) (w:World) (h:ZZ w a len cap rows) (h':ZZ w a' len cap' rows) :
  Calls Tryz.prog 80 #[.slice a len cap,.slice a' len cap'] w fun e w'=>e=.returned (.bool true)∧Below w.heap.size w w':=by
 obtain ⟨hl,hlc,hcm,hcase⟩:=h
 obtain ⟨_,hlc',hcm',hcase'⟩:=h'
 unfold maxLen at hcm hcm'
 have hne:((len:Int) != (len:Int))=false:=by simp
 by_cases h0:len=0
 ·subst h0
  go_enter Tryz.func80,Tryz.ntmps80
  go_wp2
  refine wp_loop_rounds 1 ?_
  rw [rounds_succ]
  go_wp2
  go_ret
  exact ⟨rfl,Below.refl _ _⟩
 rcases hcase with h0' | ⟨b,off,rfl,hblt,hcell⟩
 ·exact absurd h0' h0
 rcases hcase' with h0' | ⟨b',off',rfl,hblt',hcell'⟩
 ·exact absurd h0' h0
 go_enter Tryz.func80,Tryz.ntmps80
 go_wp2
 go_loopw [5] (fun si wr=>∃ k:Nat,k≤len∧si=.int .i64 k∧Below w.heap.size w wr) (fun si _=>len - (intOf si).toNat)
 case atStart=>exact ⟨0,by omega,rfl,Below.refl _ _⟩
 case round =>
  obtain ⟨k,hk,rfl,hbel⟩:=hrel
  by_cases hlt:k<len
  ·obtain ⟨a1,l1,c1,hc,hI⟩:=hcell k hlt
   obtain ⟨a2,l2,c2,hc',hI'⟩:=hcell' k hlt
   obtain rfl:l1=l2:=hI.1.symm.trans hI'.1
   rw [← hbel.cell (p:=⟨b,_,none⟩) hblt] at hc
   rw [← hbel.cell (p:=⟨b',_,none⟩) hblt'] at hc'
   have hJ:=(hI.below hbel).below (w':=wr.drew) (by go_grown)
   have hJ':=(hI'.below hbel).below (w':=wr.drew) (by go_grown)
   have hlt':(k:Int)<(len:Int):=by omega
   have hk0:(0:Int)≤(k:Int):=by omega
   clear hcell hcell' hI hI'
   go_wp2_with fail
   go_region_held3 (fun w'=>w'.cell? ⟨b,off+k,none⟩=some (.slice a1 l1 c1)∧w'.cell? ⟨b',off'+k,none⟩=some (.slice a2 l1 c2)) (first | (exact ⟨hc,hc'⟩) | (refine ⟨?_,?_⟩<;>(apply Za (by assumption);assumption)) | go_keep)
    (first | (go_at_call 137;refine (Ql a1 a2 l1 c1 c2 _ _ hJ hJ').mono ?_;rintro e w1 ⟨rfl,hb1⟩))
   have hbel1:Below w.heap.size w w1:=Zb hbel (Zb (by go_grown) hb1)
   clear hJ hJ'
   go_wp2
   go_roundw
   case rel=>exact ⟨k+1,by omega,by go_num,hbel1⟩
   case measure=>simp [intOf];omega
  go_wp2
  go_ret
  exact ⟨rfl,hbel⟩

theorem VQ (a a':Option Addr) (len cap cap':Nat) (rows:List (List I3)) (w:World) (h:ZZ w a len cap rows) (h':ZZ w a' len cap' rows) :
  Calls Tryz.prog 31 #[.agg #[.slice a len cap],.agg #[.slice a' len cap']] w fun e w'=>e=.returned (.bool true)∧Below w.heap.size w w':=by
 go_enter Tryz.func31,Tryz.ntmps31
 go_wp2_with fail
 refine (Rn _ _ _ _ _ rows _ (h.below (by go_grown)) (h'.below (by go_grown))).mono ?_
 rintro e w1 ⟨rfl,hb1⟩
 have hbw:Below w.heap.size w w1:=Zb (by go_grown) hb1
 clear hb1 h h'
 go_wp2
 go_ret
 exact ⟨rfl,hbw⟩


theorem Pv {xs:List I3} {t:Nat} (ht:t<xs.length):(Zm xs)[t*3]?=some (.int .i64 (xs.getD t (0,0,0)).1)∧(Zm xs)[t*3+1]?=some (.int .i64 (xs.getD t (0,0,0)).2.1)∧(Zm xs)[t*3+2]?=some (.int .i64 (xs.getD t (0,0,0)).2.2):=by
 have hsplit:Zm xs=Zm (xs.take t)++((xs.getD t (0,0,0)).cells++Zm (xs.drop (t+1))):=by
  rw [← List.append_assoc,← XA ht]
  unfold Zm
  rw [← List.flatMap_append,List.take_append_drop]
 have hlt:(Zm (xs.take t)).length=t*3:=by rw [Zo,List.length_take];rw [Nat.min_eq_left (by omega)]
 have h:∀ j,j<3→(Zm xs)[t*3+j]?=((xs.getD t (0,0,0)).cells)[j]?:=fun j hj=>by
  rw [hsplit,List.getElem?_append_right (by omega),hlt,Nat.add_sub_cancel_left,List.getElem?_append_left (by simp [I3.cells];omega)]
 exact ⟨by simpa [I3.cells] using h 0 (by omega),by simpa [I3.cells] using h 1 (by omega),by simpa [I3.cells] using h 2 (by omega)⟩

set_option linter.unusedVariables false

theorem SH (a:Option Addr) (len cap:Nat) (left:Int) (w:World) (hl:len≤maxLen) (h0:0≤left) (h1:left≤2 ^ 20) :
  Calls Tryz.prog 88 #[.slice a len cap,.int .i64 left] w fun e w'=>e=.returned (.int .i64 (SN left len))∧w=w':=by
 unfold maxLen at hl
 unfold SN
 go_enter Tryz.func88,Tryz.ntmps88
 by_cases h:left - len<0
 ·rw [if_pos h]
  go_wp2
  go_ret
  exact ⟨rfl,rfl⟩
 rw [if_neg h]
 go_wp2
 go_ret
 exact ⟨rfl,rfl⟩

theorem Wc:(Tryz.prog.info? 127).map (fun i=>(i.zero,i.size,i.bytes))=some (some (.agg #[.int .i64 0,.int .i64 0,.int .i64 0]),3,24):=by kernel_rfl

theorem Mi (a:Option Addr) (len cap:Nat) (xs:List I3) (w:World) (h:Zl w a len cap xs) (hn:len≤1048576) :
  Calls Tryz.prog 92 #[.slice a len cap] w fun e w'=>e=.returned (.slice (some ⟨w.heap.size,0,none⟩) len len) ∧
   (∃ cs,cs=Zm xs∧w'.ownsRow w.heap.size 127 3 (.slice (some ⟨w.heap.size,0,none⟩) len len) len cs)∧Below w.heap.size w w':=by
 obtain ⟨i0,hi,hz0,hz1,hz2⟩:=info_parts Wc
 have hI:=h
 obtain ⟨hl,hlc,hcm,hfit,hcase⟩:=h
 unfold maxLen at hcm
 go_enter Tryz.func92,Tryz.ntmps92
 go_wp2_with (at_make;refine wpList_make_full _ rfl _ _ 28 rfl w.heap.size 127 i0 (.agg #[.int .i64 0,.int .i64 0,.int .i64 0]) 3 Tryz.underlying28 hi hz0 hz1 _ _ _ _ len rfl rfl (by omega) (by omega) ?b2 ?b3 (Nat.le_refl _) ?_)
 case b2=>rw [hz2];omega
 case b3=>unfold maxLen;omega
 intro w0 hown0 hgrow0
 have hb0:Below w.heap.size w w0:=(Below.refl _ _).grown hgrow0 (Nat.le_refl _) (fun k h=>by cases h)
 obtain ⟨cs0,hcs0⟩:∃ cs0,cs0=(madeCells #[Value.int .i64 0,.int .i64 0,.int .i64 0] (len*3)).toList:=⟨_,rfl⟩
 rw [← hcs0] at hown0
 clear hgrow0 hcs0
 go_wp2
 go_loopw [4] (fun si wr=>∃ (k:Nat) (cs:List Value),k≤len∧si=.int .i64 k∧Hid (cs.take (k*3)=Zm (xs.take k))∧wr.ownsRow w.heap.size 127 3 (.slice (some ⟨w.heap.size,0,none⟩) len len) len cs∧Below w.heap.size w wr) (fun si _=>len - (intOf si).toNat)
 case atStart=>exact ⟨0,cs0,by omega,rfl,by simp [Hid,Zm],hown0,hb0⟩
 case round =>
  obtain ⟨k,cs,hk,rfl,hH,ho,hbel⟩:=hrel
  by_cases hlt:k<len
  ·rcases hcase with h0 | ⟨b,off,rfl,hblt,hcell⟩
   ·omega
   have hlt2:(k:Int)<(len:Int):=by omega
   obtain ⟨c0,c1,c2⟩:=hcell k hlt
   have hstep:=XA (xs:=xs) (k:=k) (by omega)
   have hstep':Hid (Zm (xs.take (k+1))=Zm (xs.take k)++(xs.getD k (0,0,0)).cells):=hstep
   clear hstep hcell
   generalize xs.getD k (0,0,0)=x at c0 c1 c2 hstep'
   have d0:wr.cell? ⟨b,off+k*3,none⟩=some (.int .i64 x.1):=by rw [hbel.cell (p:=⟨b,_,none⟩) hblt];exact c0
   have d1:wr.cell? ⟨b,off+k*3+1,none⟩=some (.int .i64 x.2.1):=by rw [hbel.cell (p:=⟨b,_,none⟩) hblt];exact c1
   have d2:wr.cell? ⟨b,off+k*3+2,none⟩=some (.int .i64 x.2.2):=by rw [hbel.cell (p:=⟨b,_,none⟩) hblt];exact c2
   clear c0 c1 c2
   go_wp2_with fail
   refine (Lj x wr).mono ?_
   rintro e w1 ⟨rfl,hb1⟩
   clear d0 d1 d2
   have ho1:=Zz ho hb1
   have hbel1:Below w.heap.size w w1:=Zb hbel hb1
   clear ho hbel hb1
   obtain ⟨x0,x1,x2⟩:=x
   have hlen:=ho1.1
   have f0:=ho1.frozenAt (k*3)
   have f1:=ho1.frozenAt (k*3+1)
   have f2:=ho1.frozenAt (k*3+2)
   obtain ⟨u0,hu0⟩:∃ u,w1.cell? ⟨w.heap.size,k*3,none⟩=some u:=⟨_,by rw [ho1.cellAt _ (by omega)];exact List.getElem?_eq_getElem (by omega)⟩
   obtain ⟨u1,hu1⟩:∃ u,w1.cell? ⟨w.heap.size,k*3+1,none⟩=some u:=⟨_,by rw [ho1.cellAt _ (by omega)];exact List.getElem?_eq_getElem (by omega)⟩
   obtain ⟨u2,hu2⟩:∃ u,w1.cell? ⟨w.heap.size,k*3+2,none⟩=some u:=⟨_,by rw [ho1.cellAt _ (by omega)];exact List.getElem?_eq_getElem (by omega)⟩
   have R:=(((ho1.stored (k*3) (.int .i64 x0)).1.stored (k*3+1) (.int .i64 x1)).1.stored (k*3+2) (.int .i64 x2)).1
   have hT:Hid ((((cs.set (k*3) (.int .i64 x0)).set (k*3+1) (.int .i64 x1)).set (k*3+2) (.int .i64 x2)).take ((k+1)*3)=Zm (xs.take (k+1))):=by
    rw [Hid,hstep'.out]
    exact Q8 _ _ _ (by omega) hH.out
   have hb3:Below w.heap.size w (((w1.setCell ⟨w.heap.size,k*3,none⟩ (.int .i64 x0)).setCell ⟨w.heap.size,k*3+1,none⟩ (.int .i64 x1)).setCell ⟨w.heap.size,k*3+2,none⟩ (.int .i64 x2)):=
    ((hbel1.setCell (Nat.le_refl _) _).setCell (Nat.le_refl _) _).setCell (Nat.le_refl _) _
   clear hH hstep' ho1 hbel1
   generalize ((cs.set (k*3) (.int .i64 x0)).set (k*3+1) (.int .i64 x1)).set (k*3+2) (.int .i64 x2)=cs' at R hT
   unfold I3.val
   go_wp2
   go_roundw
   case rel=>exact ⟨k+1,cs',by omega,by go_num,hT,R,hb3⟩
   case measure=>simp [intOf];omega
  obtain rfl:k=len:=by omega
  clear hcase hI
  go_wp2
  go_ret
  refine ⟨rfl,⟨cs,?_,ho⟩,hbel⟩
  have h1:=hH.out
  have h2:=ho.1
  rwa [List.take_of_length_le (by omega),List.take_of_length_le (by omega)] at h1

theorem Ni (a a':Option Addr) (len cap cap':Nat) (xs:List I3) (w:World) (h:Zl w a len cap xs) (h':Zl w a' len cap' xs) :
  Calls Tryz.prog 78 #[.slice a len cap,.slice a' len cap'] w fun e w'=>e=.returned (.bool true)∧Below w.heap.size w w':=by
 obtain ⟨hl,hlc,hcm,_,hcase⟩:=h
 obtain ⟨_,hlc',hcm',_,hcase'⟩:=h'
 unfold maxLen at hcm hcm'
 have hne:((len:Int) != (len:Int))=false:=by simp
 by_cases h0:len=0
 ·subst h0
  go_enter Tryz.func78,Tryz.ntmps78
  go_wp2
  refine wp_loop_rounds 1 ?_
  rw [rounds_succ]
  go_wp2
  go_ret
  exact ⟨rfl,Below.refl _ _⟩
 rcases hcase with h0' | ⟨b,off,rfl,hblt,hcell⟩
 ·exact absurd h0' h0
 rcases hcase' with h0' | ⟨b',off',rfl,hblt',hcell'⟩
 ·exact absurd h0' h0
 go_enter Tryz.func78,Tryz.ntmps78
 go_wp2
 go_loopw [5] (fun si wr=>∃ k:Nat,k≤len∧si=.int .i64 k∧Below w.heap.size w wr) (fun si _=>len - (intOf si).toNat)
 case atStart=>exact ⟨0,by omega,rfl,Below.refl _ _⟩
 case round =>
  obtain ⟨k,hk,rfl,hbel⟩:=hrel
  by_cases hlt:k<len
  ·obtain ⟨c0,c1,c2⟩:=hcell k hlt
   obtain ⟨e0,e1,e2⟩:=hcell' k hlt
   rw [← hbel.cell (p:=⟨b,_,none⟩) hblt] at c0 c1 c2
   rw [← hbel.cell (p:=⟨b',_,none⟩) hblt'] at e0 e1 e2
   have hlt':(k:Int)<(len:Int):=by omega
   generalize xs.getD k (0,0,0)=x at c0 c1 c2 e0 e1 e2
   clear hcell hcell'
   go_wp2_with fail
   have hk0:(0:Int)≤(k:Int):=by omega
   go_region_held3 (fun w'=>w'.cell? ⟨b,off+k*3,none⟩=some (.int .i64 x.1)∧w'.cell? ⟨b,off+k*3+1,none⟩=some (.int .i64 x.2.1)∧w'.cell? ⟨b,off+k*3+2,none⟩=some (.int .i64 x.2.2)∧w'.cell? ⟨b',off'+k*3,none⟩=some (.int .i64 x.1)∧w'.cell? ⟨b',off'+k*3+1,none⟩=some (.int .i64 x.2.1)∧w'.cell? ⟨b',off'+k*3+2,none⟩=some (.int .i64 x.2.2)) (first | (exact ⟨c0,c1,c2,e0,e1,e2⟩) | (refine ⟨?_,?_,?_,?_,?_,?_⟩<;>(apply Za (by assumption);assumption)) | go_keep)
    (first | (go_at_call 136;refine (MG x _).mono ?_;rintro e w1 ⟨rfl,hb1⟩))
   have hbel1:Below w.heap.size w w1:=Zb hbel (Zb (by go_grown) hb1)
   go_wp2
   go_roundw
   case rel=>exact ⟨k+1,by omega,by go_num,hbel1⟩
   case measure=>simp [intOf];omega
  go_wp2
  go_ret
  exact ⟨rfl,hbel⟩

end Go.Proofs.YtnffeclgboomoaaGreatDoor
