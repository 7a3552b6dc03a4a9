/-
  Joined: Prog2, Prog3, MarkP, Prog4, MarkH, BugS, Prog5.
-/
import Derived.OwnWalk
import Derived.Test.YtmhlokahmblboaaGreatDoorQ02
import Derived.Test.YtmhlokahmblboaaGreatDoorQ03

namespace Go.Proofs.YtmhlokahmblboaaGreatDoor
set_option maxRecDepth 100000
set_option maxHeartbeats 16000000
open Go.RowKit

def I3.cells (x:I3):List Value:=[.int .i64 x.1,.int .i64 x.2.1,.int .i64 x.2.2]

def Zk (xs:List I3):List Value:=xs.flatMap I3.cells

theorem Zr (xs:List I3):(Zk xs).length=xs.length*3:=by
 induction xs with
 | nil=>rfl
 | cons x xs ih=>simp [Zk,I3.cells] at *;omega

theorem XL {xs:List I3} {k:Nat} (hk:k<xs.length):Zk (xs.take (k+1))=Zk (xs.take k)++(xs.getD k (0,0,0)).cells:=by
 unfold Zk
 rw [List.take_succ_eq_append_getElem hk,List.flatMap_append]
 simp [List.getD,hk,I3.cells]

theorem Pk {cs l:List Value} {k:Nat} (a b c:Value) (hl:k*3+3≤cs.length) (ht:cs.take (k*3)=l) :
  (((cs.set (k*3) a).set (k*3+1) b).set (k*3+2) c).take ((k+1)*3)=l++[a,b,c]:=by
 have hll:l.length=k*3:=by rw [← ht,List.length_take];omega
 obtain ⟨x,y,z,rest,hd⟩:∃ x y z rest,cs.drop (k*3)=x::y::z::rest:=by
  match h:cs.drop (k*3),(by rw [List.length_drop];omega:3≤(cs.drop (k*3)).length) with
  | x::y::z::rest,_=>exact ⟨x,y,z,rest,rfl⟩
 have hcs:cs=l++x::y::z::rest:=by rw [← ht,← hd,List.take_append_drop]
 rw [hcs,← hll,List.set_append_right _ _ (Nat.le_refl _),List.set_append_right _ _ (by omega),List.set_append_right _ _ (by omega)]
 rw [show (k+1)*3=l.length+3 by omega,List.take_length_add_append]
 simp [show l.length+1 - l.length=1 by omega,show l.length+2 - l.length=2 by omega]

theorem Zj.of_owns {w:World} {base e n cap g:Nat} {cs:List Value} {xs:List I3} (h:w.ownsRow base e 3 (.slice (some ⟨g,0,none⟩) n cap) n cs) (hl:xs.length=n) (hf:∀ x ∈ xs,I3.fits x) (hcs:cs=Zk xs) :
  Zj w (some ⟨g,0,none⟩) n cap xs:=by
 have hcell:∀ t,t<n→∀ j,j<3→w.cell? ⟨g,t*3+j,none⟩=((xs.getD t (0,0,0)).cells)[j]?:=by
  intro t ht j hj
  rw [h.cellAt (t*3+j) (by omega),hcs]
  have hsplit:Zk xs=Zk (xs.take t)++((xs.getD t (0,0,0)).cells++Zk (xs.drop (t+1))):=by
   rw [← List.append_assoc,← XL (by omega)]
   unfold Zk
   rw [← List.flatMap_append,List.take_append_drop]
  have hlt:(Zk (xs.take t)).length=t*3:=by rw [Zr,List.length_take];rw [Nat.min_eq_left (by omega)]
  rw [hsplit,List.getElem?_append_right (by omega),hlt,Nat.add_sub_cancel_left,List.getElem?_append_left (by simp [I3.cells];omega)]
 have hg:=(h.lt g rfl).2
 rcases h.2 with ⟨h0,_⟩ | ⟨g',cap',cur,hv,_,_,hn,hcap,_,_⟩
 ·cases h0
 cases hv
 exact ⟨hl,hn,hcap,hf,.inr ⟨g,0,rfl,hg,fun t ht=>⟨by simpa [I3.cells] using hcell t ht 0 (by omega),by simpa [I3.cells] using hcell t ht 1 (by omega),by simpa [I3.cells] using hcell t ht 2 (by omega)⟩⟩⟩

theorem MQ:(Tryz.prog.info? 122).map (fun i=>(i.zero,i.size,i.bytes))=some (some (.agg #[.int .i64 0,.int .i64 0,.int .i64 0]),3,24):=by kernel_rfl

theorem Zz {B e k n:Nat} {v:Value} {xs:List Value} {w w':World} (h:w.ownsRow B e k v n xs) (hb:Below w.heap.size w w'):w'.ownsRow B e k v n xs:=by
 refine ⟨h.1,?_⟩
 rcases h.2 with h0 | ⟨g,cap,cur,hv,hB,hg,rest⟩
 ·exact .inl h0
 have hlt:g<w.heap.size:=by
  rcases Nat.lt_or_ge g w.heap.size with h' | h'
  ·exact h'
  simp [Array.getElem?_eq_none h'] at hg
 exact .inr ⟨g,cap,cur,hv,hB,by rw [hb.block g hlt];exact hg,rest⟩

theorem Ut (a:Option Addr) (len cap:Nat) (xs:List I3) (w:World) (h:Zj w a len cap xs) (hn:len≤1048576) :
  Calls Tryz.prog 102 #[.slice a len cap] w fun e w'=>e=.returned (.slice (some ⟨w.heap.size,0,none⟩) len len) ∧
   (∃ cs,cs=Zk xs∧w'.ownsRow w.heap.size 122 3 (.slice (some ⟨w.heap.size,0,none⟩) len len) len cs)∧Below w.heap.size w w':=by
 obtain ⟨i0,hi,hz0,hz1,hz2⟩:=info_parts MQ
 have hI:=h
 obtain ⟨hl,hlc,hcm,hfit,hcase⟩:=h
 unfold maxLen at hcm
 go_enter Tryz.func102,Tryz.ntmps102
 go_wp2_with (at_make;refine wpList_make_full _ rfl _ _ 62 rfl w.heap.size 122 i0 (.agg #[.int .i64 0,.int .i64 0,.int .i64 0]) 3 Tryz.underlying62 hi hz0 hz1 _ _ _ _ len rfl rfl (by omega) (by omega) ?b2 ?b3 (Nat.le_refl _) ?_)
 case b2=>rw [hz2];omega
 case b3=>unfold maxLen;omega
 intro w0 hown0 hgrow0
 have hb0:Below w.heap.size w w0:=(Below.refl _ _).grown hgrow0 (Nat.le_refl _) (fun k h=>by cases h)
 obtain ⟨cs0,hcs0⟩:∃ cs0,cs0=(madeCells #[Value.int .i64 0,.int .i64 0,.int .i64 0] (len*3)).toList:=⟨_,rfl⟩
 rw [← hcs0] at hown0
 clear hgrow0 hcs0
 go_wp2
 go_loopw [4] (fun si wr=>∃ (k:Nat) (cs:List Value),k≤len∧si=.int .i64 k∧Hid (cs.take (k*3)=Zk (xs.take k))∧wr.ownsRow w.heap.size 122 3 (.slice (some ⟨w.heap.size,0,none⟩) len len) len cs∧Below w.heap.size w wr) (fun si _=>len - (intOf si).toNat)
 case atStart=>exact ⟨0,cs0,by omega,rfl,by simp [Hid,Zk],hown0,hb0⟩
 case round =>
  obtain ⟨k,cs,hk,rfl,hH,ho,hbel⟩:=hrel
  by_cases hlt:k<len
  ·rcases hcase with h0 | ⟨b,off,rfl,hblt,hcell⟩
   ·omega
   have hlt2:(k:Int)<(len:Int):=by omega
   obtain ⟨c0,c1,c2⟩:=hcell k hlt
   have hstep:=XL (xs:=xs) (k:=k) (by omega)
   have hstep':Hid (Zk (xs.take (k+1))=Zk (xs.take k)++(xs.getD k (0,0,0)).cells):=hstep
   clear hstep hcell
   generalize xs.getD k (0,0,0)=x at c0 c1 c2 hstep'
   have d0:wr.cell? ⟨b,off+k*3,none⟩=some (.int .i64 x.1):=by rw [hbel.cell (p:=⟨b,_,none⟩) hblt];exact c0
   have d1:wr.cell? ⟨b,off+k*3+1,none⟩=some (.int .i64 x.2.1):=by rw [hbel.cell (p:=⟨b,_,none⟩) hblt];exact c1
   have d2:wr.cell? ⟨b,off+k*3+2,none⟩=some (.int .i64 x.2.2):=by rw [hbel.cell (p:=⟨b,_,none⟩) hblt];exact c2
   clear c0 c1 c2
   go_wp2_with fail
   refine (Nb x wr).mono ?_
   rintro e w1 ⟨rfl,hb1⟩
   clear d0 d1 d2
   have ho1:=Zz ho hb1
   have hbel1:Below w.heap.size w w1:=Zb hbel hb1
   clear ho hbel hb1
   obtain ⟨x0,x1,x2⟩:=x
   have hlen:=ho1.1
   have f0:=ho1.frozenAt (k*3)
   have f1:=ho1.frozenAt (k*3+1)
   have f2:=ho1.frozenAt (k*3+2)
   obtain ⟨u0,hu0⟩:∃ u,w1.cell? ⟨w.heap.size,k*3,none⟩=some u:=⟨_,by rw [ho1.cellAt _ (by omega)];exact List.getElem?_eq_getElem (by omega)⟩
   obtain ⟨u1,hu1⟩:∃ u,w1.cell? ⟨w.heap.size,k*3+1,none⟩=some u:=⟨_,by rw [ho1.cellAt _ (by omega)];exact List.getElem?_eq_getElem (by omega)⟩
   obtain ⟨u2,hu2⟩:∃ u,w1.cell? ⟨w.heap.size,k*3+2,none⟩=some u:=⟨_,by rw [ho1.cellAt _ (by omega)];exact List.getElem?_eq_getElem (by omega)⟩
   have R:=(((ho1.stored (k*3) (.int .i64 x0)).1.stored (k*3+1) (.int .i64 x1)).1.stored (k*3+2) (.int .i64 x2)).1
   have hT:Hid ((((cs.set (k*3) (.int .i64 x0)).set (k*3+1) (.int .i64 x1)).set (k*3+2) (.int .i64 x2)).take ((k+1)*3)=Zk (xs.take (k+1))):=by
    rw [Hid,hstep'.out]
    exact Pk _ _ _ (by omega) hH.out
   have hb3:Below w.heap.size w (((w1.setCell ⟨w.heap.size,k*3,none⟩ (.int .i64 x0)).setCell ⟨w.heap.size,k*3+1,none⟩ (.int .i64 x1)).setCell ⟨w.heap.size,k*3+2,none⟩ (.int .i64 x2)):=
    ((hbel1.setCell (Nat.le_refl _) _).setCell (Nat.le_refl _) _).setCell (Nat.le_refl _) _
   clear hH hstep' ho1 hbel1
   generalize ((cs.set (k*3) (.int .i64 x0)).set (k*3+1) (.int .i64 x1)).set (k*3+2) (.int .i64 x2)=cs' at R hT
   unfold I3.val
   go_wp2
   go_roundw
   case rel=>exact ⟨k+1,cs',by omega,by go_num,hT,R,hb3⟩
   case measure=>simp [intOf];omega
  obtain rfl:k=len:=by omega
  clear hcase hI
  go_wp2
  go_ret
  refine ⟨rfl,⟨cs,?_,ho⟩,hbel⟩
  have h1:=hH.out
  have h2:=ho.1
  rwa [List.take_of_length_le (by omega),List.take_of_length_le (by omega)] at h1


theorem YO (w:World) (p:Addr) (u:Value) {q:Addr} (h:q.block≠p.block):(w.setCell p u).cell? q=w.cell? q:=by
 have:=heap_setCell_other w p q.block u h
 unfold World.cell?
 rw [this]

theorem Zj.setCell {w:World} {g len cap:Nat} {xs:List I3} (h:Zj w (some ⟨g,0,none⟩) len cap xs) (p:Addr) (u:Value) (hne:g≠p.block):Zj (w.setCell p u) (some ⟨g,0,none⟩) len cap xs:=by
 obtain ⟨h1,h2,h3,hf,h4⟩:=h
 refine ⟨h1,h2,h3,hf,?_⟩
 rcases h4 with h4 | ⟨b,off,ha,hlt,hc⟩
 ·exact .inl h4
 cases ha
 refine .inr ⟨g,0,rfl,by simpa using hlt,fun t ht=>?_⟩
 obtain ⟨c0,c1,c2⟩:=hc t ht
 exact ⟨by rw [YO _ _ _ hne];exact c0,by rw [YO _ _ _ hne];exact c1,by rw [YO _ _ _ hne];exact c2⟩

def Wp (w:World) (B k:Nat) (cs:List Value) (rows:List (List I3)):Prop:=
 ∀ t,t<k→∃ g len',cs[t]?=some (.slice (some ⟨g,0,none⟩) len' len')∧B<g∧Zj w (some ⟨g,0,none⟩) len' len' (rows.getD t [])

theorem Wp.below {w w':World} {B k:Nat} {cs:List Value} {rows:List (List I3)} (h:Wp w B k cs rows) (hb:Below w.heap.size w w'):Wp w' B k cs rows:=fun t ht=>by
 obtain ⟨g,l,hc,hg,hi⟩:=h t ht
 exact ⟨g,l,hc,hg,hi.below hb⟩

theorem Wp.put {w:World} {B k:Nat} {cs:List Value} {rows:List (List I3)} (h:Wp w B k cs rows) (hk:k<cs.length) {g len':Nat} (hg:B<g) (hi:Zj w (some ⟨g,0,none⟩) len' len' (rows.getD k [])) :
  Wp (w.setCell ⟨B,k,none⟩ (.slice (some ⟨g,0,none⟩) len' len')) B (k+1) (cs.set k (.slice (some ⟨g,0,none⟩) len' len')) rows:=fun t ht=>by
 by_cases htk:t=k
 ·subst htk
  exact ⟨g,len',by simp [hk],hg,hi.setCell _ _ (show g≠B by omega)⟩
 obtain ⟨g',l',hc,hg',hi'⟩:=h t (by omega)
 exact ⟨g',l',by rw [List.getElem?_set_ne (by omega)];exact hc,hg',hi'.setCell _ _ (show g'≠B by omega)⟩

theorem Sj:(Tryz.prog.info? 62).map (fun i=>(i.zero,i.size,i.bytes))=some (some (.slice none 0 0),1,24):=by kernel_rfl

theorem Z1.of_rows {w:World} {B e len cap:Nat} {cs:List Value} {rows:List (List I3)} (ho:w.ownsRow B e 1 (.slice (some ⟨B,0,none⟩) len cap) len cs) (hl:rows.length=len) (h:Wp w B len cs rows) :
  Z1 w (some ⟨B,0,none⟩) len cap rows:=by
 have hg:=(ho.lt B rfl).2
 have hcell:=ho.cellAt
 rcases ho.2 with ⟨h0,_⟩ | ⟨g',cap',cur,hv,_,_,hn,hcap,_,_⟩
 ·cases h0
 cases hv
 refine ⟨hl,hn,hcap,.inr ⟨B,0,rfl,hg,fun t ht=>?_⟩⟩
 obtain ⟨g,l,hc,_,hi⟩:=h t ht
 exact ⟨_,_,_,by rw [Nat.zero_add,hcell t (by omega)];exact hc,hi⟩

theorem Wp.low {w:World} {B k:Nat} {cs:List Value} {rows:List (List I3)} (h:Wp w B k cs rows) {p:Addr} (hp:p.block<B) (u:Value):Wp (w.setCell p u) B k cs rows:=fun t ht=>by
 obtain ⟨g,l,hc,hg,hi⟩:=h t ht
 exact ⟨g,l,hc,hg,hi.setCell _ _ (by omega)⟩

def WI (w:World) (B len:Nat) (rows:List (List I3)):Prop:=
 rows.length=len∧∃ cs,w.ownsRow B 62 1 (.slice (some ⟨B,0,none⟩) len len) len cs∧Wp w B len cs rows

theorem WI.codes {w:World} {B len:Nat} {rows:List (List I3)} (h:WI w B len rows):Z1 w (some ⟨B,0,none⟩) len len rows:=by
 obtain ⟨hl,cs,ho,hR⟩:=h
 exact Z1.of_rows ho hl hR

theorem WI.low {w:World} {B len:Nat} {rows:List (List I3)} (h:WI w B len rows) {p:Addr} (hp:p.block<B) (u:Value):WI (w.setCell p u) B len rows:=by
 obtain ⟨hl,cs,ho,hR⟩:=h
 exact ⟨hl,cs,ownsRow_setCell_below ho hp _,hR.low hp u⟩

theorem Qb (a:Option Addr) (len cap:Nat) (rows:List (List I3)) (w:World) (h:Z1 w a len cap rows) (hn:len≤1048576) (hr:∀ t,t<len→(rows.getD t []).length≤1048576) :
  Calls Tryz.prog 48 #[.slice a len cap] w fun e w'=>e=.returned (.slice (some ⟨w.heap.size,0,none⟩) len len) ∧
   WI w' w.heap.size len rows∧Below w.heap.size w w':=by
 obtain ⟨i0,hi,hz0,hz1,hz2⟩:=info_parts Sj
 obtain ⟨hl,hlc,hcm,hcase⟩:=h
 unfold maxLen at hcm
 go_enter Tryz.func48,Tryz.ntmps48
 go_wp2_with (at_make;refine wpList_make_full _ rfl _ _ 23 rfl w.heap.size 62 i0 (.slice none 0 0) 1 Tryz.underlying23 hi hz0 hz1 _ _ _ _ len rfl rfl (by omega) (by omega) ?b2 ?b3 (Nat.le_refl _) ?_)
 case b2=>rw [hz2];omega
 case b3=>unfold maxLen;omega
 intro w0 hown0 hgrow0
 have hb0:Below w.heap.size w w0:=(Below.refl _ _).grown hgrow0 (Nat.le_refl _) (fun k h=>by cases h)
 obtain ⟨cs0,hcs0⟩:∃ cs0,cs0=(madeCells #[Value.slice none 0 0] len).toList:=⟨_,rfl⟩
 rw [← hcs0] at hown0
 clear hgrow0 hcs0
 go_wp2
 go_loopw [4] (fun si wr=>∃ (k:Nat) (cs:List Value),k≤len∧si=.int .i64 k∧Wp wr w.heap.size k cs rows∧wr.ownsRow w.heap.size 62 1 (.slice (some ⟨w.heap.size,0,none⟩) len len) len cs∧Below w.heap.size w wr) (fun si _=>len - (intOf si).toNat)
 case atStart=>exact ⟨0,cs0,by omega,rfl,fun t ht=>by omega,hown0,hb0⟩
 case round =>
  obtain ⟨k,cs,hk,rfl,hR,ho,hbel⟩:=hrel
  by_cases hlt:k<len
  ·rcases hcase with h0 | ⟨b,off,rfl,hblt,hcell⟩
   ·omega
   have hlt2:(k:Int)<(len:Int):=by omega
   obtain ⟨a',len',cap',hc,hI⟩:=hcell k hlt
   have hrk:=hr k hlt
   rw [hI.1] at hrk
   have hc':wr.cell? ⟨b,off+k,none⟩=some (.slice a' len' cap'):=by rw [hbel.cell (p:=⟨b,_,none⟩) hblt];exact hc
   clear hcell hc
   have hIr:Zj wr a' len' cap' (rows.getD k []):=hI.below hbel
   have hwr:=(ho.lt w.heap.size rfl).2
   go_wp2_with fail
   refine (Ut a' len' cap' _ wr hIr hrk).mono ?_
   rintro e w1 ⟨rfl,⟨cs2,hcs2,hown2⟩,hb1⟩
   have hI2:=Zj.of_owns hown2 hIr.1 hIr.2.2.2.1 hcs2
   clear hcs2 hown2 hIr hI hc'
   have ho1:=Zz ho hb1
   have hR1:=hR.below hb1
   have hbel1:Below w.heap.size w w1:=Zb hbel hb1
   clear ho hbel hb1 hR
   have hlen:=ho1.1
   have f0:=ho1.frozenAt k
   obtain ⟨u0,hu0⟩:∃ u,w1.cell? ⟨w.heap.size,k,none⟩=some u:=⟨_,by rw [ho1.cellAt _ (by omega)];exact List.getElem?_eq_getElem (by omega)⟩
   have R:=(ho1.stored k (.slice (some ⟨wr.heap.size,0,none⟩) len' len')).1
   have R2:=hR1.put (by omega) hwr hI2
   have hb3:Below w.heap.size w (w1.setCell ⟨w.heap.size,k,none⟩ (.slice (some ⟨wr.heap.size,0,none⟩) len' len')):=hbel1.setCell (Nat.le_refl _) _
   clear ho1 hbel1 hR1 hI2
   generalize cs.set k (.slice (some ⟨wr.heap.size,0,none⟩) len' len')=cs' at R R2
   go_wp2
   go_roundw
   case rel=>exact ⟨k+1,cs',by omega,by go_num,R2,R,hb3⟩
   case measure=>simp [intOf];omega
  obtain rfl:k=len:=by omega
  clear hcase
  go_wp2
  go_ret
  exact ⟨rfl,⟨hl,cs,ho,hR⟩,hbel⟩

theorem Qc (a:Option Addr) (len cap:Nat) (rows:List (List I3)) (w:World) (h:Z1 w a len cap rows) (hn:len≤1048576) (hr:∀ t,t<len→(rows.getD t []).length≤1048576) :
  Calls Tryz.prog 12 #[.agg #[.slice a len cap]] w fun e w'=>e=.returned (.agg #[.slice (some ⟨w.heap.size+3,0,none⟩) len len]) ∧
   WI w' (w.heap.size+3) len rows∧Below w.heap.size w w':=by
 go_enter Tryz.func12,Tryz.ntmps12
 go_wp2_with fail
 refine (Qb _ _ _ rows _ (h.below (by go_grown)) hn hr).mono ?_
 rintro e w1 ⟨rfl,hC,hb1⟩
 have k1:w1.cell? ⟨w.heap.size+1,0,none⟩=some (.slice none 0 0):=by rw [hb1.cell (by simp)];first | (simp [go_sem];done) | (simp [World.cell?];done)
 have k2:w1.cell? ⟨w.heap.size+1+1,0,none⟩=some (.slice none 0 0):=by rw [hb1.cell (by simp)];first | (simp [go_sem];done) | (simp [World.cell?];done)
 have f1:w1.frozen? ⟨w.heap.size+1,0,none⟩=false:=by rw [hb1.frozen (by simp)];first | (simp [go_sem];done) | (simp [World.frozen?];done)
 have f2:w1.frozen? ⟨w.heap.size+1+1,0,none⟩=false:=by rw [hb1.frozen (by simp)];first | (simp [go_sem];done) | (simp [World.frozen?];done)
 have hbw:Below w.heap.size w w1:=Zb (by go_grown) hb1
 simp only [World.size_alloc] at hC
 rw [show w.heap.size+1+1+1=w.heap.size+3 from rfl] at hC
 clear hb1 h
 simp only [World.size_alloc]
 have k3:((w1.setCell ⟨w.heap.size+1+1,0,none⟩ (.slice (some ⟨w.heap.size+1+1+1,0,none⟩) len len)).setCell ⟨w.heap.size+1,0,none⟩ (.slice (some ⟨w.heap.size+1+1+1,0,none⟩) len len)).cell? ⟨w.heap.size+1,0,none⟩=some (.slice (some ⟨w.heap.size+1+1+1,0,none⟩) len len):=
  World.cell?_setCell_same' _ _ _ (by rw [YO _ _ _ (by simp),k1];rfl)
 go_wp2
 have R:=(hC.low (p:=⟨w.heap.size+1+1,0,none⟩) (by simp) (.slice (some ⟨w.heap.size+1+1+1,0,none⟩) len len)).low (p:=⟨w.heap.size+1,0,none⟩) (by simp) (.slice (some ⟨w.heap.size+1+1+1,0,none⟩) len len)
 have hb3:=(hbw.setCell (p:=⟨w.heap.size+1+1,0,none⟩) (by simp;omega) (.slice (some ⟨w.heap.size+1+1+1,0,none⟩) len len)).setCell (p:=⟨w.heap.size+1,0,none⟩) (by simp) (.slice (some ⟨w.heap.size+1+1+1,0,none⟩) len len)
 clear hC hbw k1 k2 f1 f2
 generalize (w1.setCell ⟨w.heap.size+1+1,0,none⟩ (.slice (some ⟨w.heap.size+1+1+1,0,none⟩) len len)).setCell ⟨w.heap.size+1,0,none⟩ (.slice (some ⟨w.heap.size+1+1+1,0,none⟩) len len)=w2 at k3 R hb3
 refine bodyPost_ret (by simp [results,Tryz.results12,go_sem,k3];try rfl) rfl ?_
 exact ⟨rfl,R,hb3⟩


theorem Z0 {w:World} {B B' e e' s s' n n':Nat} {v v':Value} {xs xs':List Value} (h:w.ownsRow B e s v n xs) (h':w.ownsRow B' e' s' v' n' xs') (he:e≠e'):v.ownBlock=none∨v.ownBlock≠v'.ownBlock:=by
 rcases h.2 with ⟨rfl,_⟩ | ⟨g,cap,cur,rfl,_,hg,_⟩
 ·exact .inl rfl
 rcases h'.2 with ⟨rfl,_⟩ | ⟨g',cap',cur',rfl,_,hg',_⟩
 ·exact .inr (by simp [Value.ownBlock])
 refine .inr ?_
 simp only [Value.ownBlock,ne_eq,Option.some.injEq]
 rintro rfl
 rw [hg] at hg'
 simp at hg'
 exact he hg'.2

def mkI:Int→List I3→Nat→List I3
 | _,xs,0=>xs
 | _,[],_+1=>[]
 | k,_::xs,j+1=>(k,k+1,k+2)::mkI (k+3) xs j
theorem WZ:∀ (k:Int) (xs:List I3) (j:Nat),(mkI k xs j).length=xs.length
 | _,xs,0=>by simp [mkI]
 | _,[],_+1=>by simp [mkI]
 | k,_::xs,j+1=>by simp [mkI,WZ]
theorem PX:∀ (k:Int) (xs:List I3) (j:Nat),j<xs.length →
  (((Zk (mkI k xs j)).set (j*3) (.int .i64 (k+j*3))).set (j*3+1) (.int .i64 (k+j*3+1))).set (j*3+2) (.int .i64 (k+j*3+2))=Zk (mkI k xs (j+1))
 | _,[],j,h=>by simp at h
 | k,x::xs,0,_=>by simp [mkI,Zk,I3.cells]
 | k,x::xs,j+1,h=>by
  have ih:=PX (k+3) xs j (by simpa using h)
  have e1:k+((j+1:Nat):Int)*3=k+3+(j:Int)*3:=by omega
  rw [e1]
  have e2:(j+1)*3=j*3+1+1+1:=by omega
  simp only [mkI,Zk,List.flatMap_cons,I3.cells,List.cons_append,List.nil_append] at ih ⊢
  rw [e2]
  simp only [List.set_cons_succ]
  rw [ih]
theorem LJ:∀ (k:Int) (xs:List I3) (j i:Nat),i<j→j≤xs.length→(mkI k xs j).getD i (0,0,0)=(k+i*3,k+i*3+1,k+i*3+2)
 | _,xs,0,i,h,_=>by omega
 | _,[],j+1,i,_,h=>by simp at h
 | k,x::xs,j+1,0,_,_=>by simp [mkI]
 | k,x::xs,j+1,i+1,h,hl=>by
  have ih:=LJ (k+3) xs j i (by omega) (by simpa using hl)
  have e:k+((i+1:Nat):Int)*3=k+3+(i:Int)*3:=by omega
  rw [e,← ih]
  simp [mkI]

theorem Yc (w:World) (g j:Nat) (u:Value):w.grownBy (w.setCell ⟨g,j,none⟩ u) (some g):=
 ⟨rfl,rfl,rfl,by simp [World.setCell],fun k _ hk=>Below.heap_setCell _ _ _ _ (fun e=>hk (by rw [e]))⟩
theorem Yi {a b c:World} {row:Option Nat} (h:a.grownBy b row) (k:b.grownBy c row):a.grownBy c row:=
 ⟨k.os.trans h.os,k.tape.trans h.tape,k.output.trans h.output,Nat.le_trans h.size k.size,fun i hi hne=>(k.block i (by have:=h.size;omega) hne).trans (h.block i hi hne)⟩

theorem RH (base g n cap:Nat) (k:Int) (xs:List I3) (w:World) (hk0:0≤k) (hk:k≤1000000000) (hn:n≤1048576) (hl:xs.length=n) (ho:w.ownsRow base 122 3 (.slice (some ⟨g,0,none⟩) n cap) n (Zk xs)) :
  Calls Tryz.prog 116 #[.slice (some ⟨g,0,none⟩) n cap,.int .i64 k] w fun e w'=>e=.returned (.int .i64 (k+n*3)) ∧
   w'.ownsRow base 122 3 (.slice (some ⟨g,0,none⟩) n cap) n (Zk (mkI k xs n))∧w.grownBy w' (some g):=by
 go_enter Tryz.func116,Tryz.ntmps116
 go_wp2
 go_loopw [1,5] (fun sk si wr=>∃ j:Nat,j≤n∧si=.int .i64 j∧sk=.int .i64 (k+j*3)∧wr.ownsRow base 122 3 (.slice (some ⟨g,0,none⟩) n cap) n (Zk (mkI k xs j))∧w.grownBy wr (some g)) (fun _ si _=>n - (intOf si).toNat)
 case atStart=>exact ⟨0,by omega,rfl,by go_num,by simpa [mkI] using ho,World.grownBy.refl _ _⟩
 case round =>
  obtain ⟨j,hj,rfl,rfl,hr,hg⟩:=hrel
  by_cases hlt:j<n
  ·have hlt2:(j:Int)<(n:Int):=by omega
   have hj0:(0:Int)≤(j:Int):=by omega
   have f0:=hr.frozenAt (j*3)
   have f1:=hr.frozenAt (j*3+1)
   have f2:=hr.frozenAt (j*3+2)
   have hlen:(Zk (mkI k xs j)).length=n*3:=by rw [Zr,WZ,hl]
   obtain ⟨u0,hu0⟩:∃ u,wr.cell? ⟨g,j*3,none⟩=some u:=⟨_,by rw [hr.cellAt _ (by omega)];exact List.getElem?_eq_getElem (by omega)⟩
   obtain ⟨u1,hu1⟩:∃ u,wr.cell? ⟨g,j*3+1,none⟩=some u:=⟨_,by rw [hr.cellAt _ (by omega)];exact List.getElem?_eq_getElem (by omega)⟩
   obtain ⟨u2,hu2⟩:∃ u,wr.cell? ⟨g,j*3+2,none⟩=some u:=⟨_,by rw [hr.cellAt _ (by omega)];exact List.getElem?_eq_getElem (by omega)⟩
   have R:=(((hr.stored (j*3) (.int .i64 (k+j*3))).1.stored (j*3+1) (.int .i64 (k+j*3+1))).1.stored (j*3+2) (.int .i64 (k+j*3+1+1))).1
   rw [show (k+(j:Int)*3+1+1)=k+j*3+2 by omega,PX k xs j (by omega),show (k+(j:Int)*3+2)=k+j*3+1+1 by omega] at R
   have G:=Yi hg (Yi (Yc wr g (j*3) (.int .i64 (k+j*3))) (Yi (Yc _ g (j*3+1) (.int .i64 (k+j*3+1))) (Yc _ g (j*3+2) (.int .i64 (k+j*3+1+1)))))
   clear hr hg ho hlen
   go_wp2
   go_roundw
   case rel=>exact ⟨j+1,by omega,by go_num,by go_num,R,G⟩
   case measure=>simp [intOf];omega
  obtain rfl:j=n:=by omega
  go_wp2
  go_ret
  exact ⟨rfl,hr,hg⟩

theorem SN (k:Int) (w:World):Calls Tryz.prog 116 #[.slice none 0 0,.int .i64 k] w fun e w'=>e=.returned (.int .i64 k)∧w=w':=by
 go_enter Tryz.func116,Tryz.ntmps116
 go_wp2
 refine wp_loop_rounds 1 ?_
 rw [rounds_succ]
 go_wp2
 go_ret
 exact ⟨rfl,rfl⟩

theorem RG (base:Nat) (v:Value) (k:Int) (xs:List I3) (w:World) (hk0:0≤k) (hk:k≤1000000000) (hn:xs.length≤1048576) (ho:w.ownsRow base 122 3 v xs.length (Zk xs)) :
  Calls Tryz.prog 116 #[v,.int .i64 k] w fun e w'=>e=.returned (.int .i64 (k+xs.length*3)) ∧
   w'.ownsRow base 122 3 v xs.length (Zk (mkI k xs xs.length))∧w.grownBy w' v.ownBlock:=by
 rcases ho.2 with ⟨rfl,h0⟩ | ⟨g,cap,cur,rfl,_⟩
 ·obtain rfl:xs=[]:=List.eq_nil_of_length_eq_zero h0
  refine (SN k w).mono ?_
  rintro e w' ⟨rfl,rfl⟩
  exact ⟨by simp,ho,World.grownBy.refl _ _⟩
 exact RH base g _ cap k xs w hk0 hk hn rfl ho

def X6 (w:World) (B:Nat) (vs:List Value) (rows:List (List I3)):Prop:=
 vs.length=rows.length∧(∀ t,t<rows.length→w.ownsRow B 122 3 (vs.getD t undef) (rows.getD t []).length (Zk (rows.getD t []))) ∧
 ∀ t t',t<rows.length→t'<rows.length→t≠t'→(vs.getD t undef).ownBlock=none∨(vs.getD t undef).ownBlock≠(vs.getD t' undef).ownBlock

def Xr (w:World) (B:Nat) (v:Value) (rows:List (List I3)):Prop:=∃ vs,w.ownsRow B 62 1 v rows.length vs∧X6 w B vs rows

theorem X6.below {w w':World} {B:Nat} {vs:List Value} {rows:List (List I3)} (h:X6 w B vs rows) (hb:Below w.heap.size w w'):X6 w' B vs rows:=⟨h.1,fun t ht=>Zz (h.2.1 t ht) hb,h.2.2⟩
theorem Xr.slice {w:World} {B:Nat} {v:Value} {rows:List (List I3)} (h:Xr w B v rows):∃ a cap,v=.slice a rows.length cap:=by
 obtain ⟨vs,h1,_⟩:=h
 rcases h1.2 with ⟨hv,h0⟩ | ⟨g,cap,cur,hv,_⟩
 ·rw [h0];exact ⟨none,0,hv⟩
 exact ⟨some ⟨g,0,none⟩,cap,hv⟩

theorem Zj.of_own {w:World} {B:Nat} {v:Value} {xs:List I3} (h:w.ownsRow B 122 3 v xs.length (Zk xs)) (hf:∀ x ∈ xs,I3.fits x):∃ a cap,v=.slice a xs.length cap∧Zj w a xs.length cap xs:=by
 rcases h.2 with ⟨hv,h0⟩ | ⟨g,cap,cur,hv,_⟩
 ·obtain rfl:xs=[]:=List.eq_nil_of_length_eq_zero h0
  exact ⟨none,0,hv,rfl,Nat.le_refl _,by unfold maxLen;omega,by simp,.inl rfl⟩
 subst hv
 exact ⟨_,_,rfl,Zj.of_owns h rfl hf rfl⟩

theorem Xr.codes {w:World} {B:Nat} {a:Option Addr} {len cap:Nat} {rows:List (List I3)} (h:Xr w B (.slice a len cap) rows) (hf:∀ r ∈ rows,∀ x ∈ r,I3.fits x):Z1 w a len cap rows:=by
 obtain ⟨vs,h1,h2⟩:=h
 have hcellAt:=h1.2
 rcases h1.2 with ⟨hv,h0⟩ | ⟨g,cap',cur,hv,_,hh,hn,hcm,_⟩
 ·cases hv
  obtain rfl:rows=[]:=List.eq_nil_of_length_eq_zero h0
  exact ⟨rfl,Nat.le_refl _,by unfold maxLen;omega,.inl rfl⟩
 cases hv
 have hl:=h1.1
 refine ⟨rfl,hn,hcm,.inr ⟨g,0,rfl,(h1.lt g rfl).2,fun t ht=>?_⟩⟩
 have hc:=h1.cellAt t (by omega)
 have hvt:vs[t]?=some (vs.getD t undef):=by simp [List.getD,show t<vs.length by omega]
 rw [hvt] at hc
 obtain ⟨a',cap',hva,hI⟩:=Zj.of_own (h2.2.1 t ht) (hf _ (by simp [List.getD,ht]))
 rw [hva] at hc
 exact ⟨a',_,cap',by rw [Nat.zero_add];exact hc,hI⟩

def mkP:Int→List (List I3)→Nat→List (List I3)
 | _,rows,0=>rows
 | _,[],_+1=>[]
 | k,r::rows,j+1=>mkI k r r.length::mkP (k+r.length*3) rows j
theorem PY:∀ (k:Int) (rows:List (List I3)) (j:Nat),(mkP k rows j).length=rows.length
 | _,rows,0=>by simp [mkP]
 | _,[],_+1=>by simp [mkP]
 | k,_::rows,j+1=>by simp [mkP,PY]
def Y4:List (List I3)→Nat→Nat
 | _,0=>0
 | [],_+1=>0
 | r::rows,j+1=>r.length*3+Y4 rows j
theorem QN:∀ (rows:List (List I3)) (j:Nat),j<rows.length→Y4 rows (j+1)=Y4 rows j+(rows.getD j []).length*3
 | [],j,h=>by simp at h
 | r::rows,0,_=>by simp [Y4]
 | r::rows,j+1,h=>by
  have:=QN rows j (by simpa using h)
  simp only [Y4] at this ⊢
  rw [List.getD_cons_succ]
  omega
theorem QM:∀ (rows:List (List I3)) (j:Nat),Y4 rows j≤Y4 rows rows.length
 | [],0=>by simp [Y4]
 | [],_+1=>by simp [Y4]
 | r::rows,0=>by simp [Y4]
 | r::rows,j+1=>by
  have:=QM rows j
  simp only [Y4,List.length_cons]
  omega
theorem Sq:∀ (rows:List (List I3)) (left:Int),0≤Z4 left rows→(Y4 rows rows.length:Int)≤3*left
 | [],left,h=>by simp only [Z4] at h;simp only [Y4,List.length_nil];omega
 | r::rows,left,h=>by
  unfold Z4 at h
  split at h
  ·omega
  have:=Sq rows (left - r.length) h
  simp only [Y4,List.length_cons]
  omega
theorem P5 {rows:List (List I3)} {left:Int} (h:0≤YU left rows):(Y4 rows rows.length:Int)≤3*left:=by
 unfold YU at h
 split at h
 ·omega
 have:=Sq rows _ h
 omega
theorem LO:∀ (k:Int) (rows:List (List I3)) (j:Nat),j<rows.length→(mkP k rows j).set j (mkI (k+Y4 rows j) (rows.getD j []) (rows.getD j []).length)=mkP k rows (j+1)
 | _,[],j,h=>by simp at h
 | k,r::rows,0,_=>by simp [mkP,Y4]
 | k,r::rows,j+1,h=>by
  have ih:=LO (k+r.length*3) rows j (by simpa using h)
  have e:k+((Y4 (r::rows) (j+1):Nat):Int)=k+r.length*3+(Y4 rows j:Int):=by simp only [Y4];omega
  rw [e,List.getD_cons_succ]
  simp only [mkP,List.set_cons_succ,ih]
theorem LN:∀ (k:Int) (rows:List (List I3)) (j i:Nat),j≤i→i<rows.length→(mkP k rows j).getD i []=rows.getD i []
 | _,rows,0,i,_,_=>by simp [mkP]
 | _,[],j+1,i,_,h=>by simp at h
 | k,r::rows,j+1,i,h,hl=>by
  cases i with
  | zero=>omega
  | succ i =>
   have ih:=LN (k+r.length*3) rows j i (by omega) (by simpa using hl)
   simpa [mkP] using ih
theorem X6.turn {w w':World} {B:Nat} {vs:List Value} {rows:List (List I3)} {t:Nat} {r:List I3} (h:X6 w B vs rows) (ht:t<rows.length) (hl:r.length=(rows.getD t []).length)
  (hr:w'.ownsRow B 122 3 (vs.getD t undef) (rows.getD t []).length (Zk r)) (hg:w.grownBy w' (vs.getD t undef).ownBlock):X6 w' B vs (rows.set t r):=by
 obtain ⟨h1,h2,h3⟩:=h
 refine ⟨by simpa using h1,fun i hi=>?_,fun i j hi hj=>h3 i j (by simpa using hi) (by simpa using hj)⟩
 have hi':i<rows.length:=by simpa using hi
 by_cases hit:i=t
 ·subst hit
  have e:(rows.set i r).getD i []=r:=by simp [List.getD,ht]
  rw [e,hl]
  exact hr
 have e:(rows.set t r).getD i []=rows.getD i []:=by simp [List.getD,List.getElem?_set_ne (Ne.symm hit)]
 rw [e]
 exact (h2 i hi').kept hg (h3 i t hi' ht hit)


theorem Za {w w':World} (h:Below w.heap.size w w'):∀ (p:Addr) (v:Value),w.cell? p=some v→w'.cell? p=some v:=by
 intro p v hv
 have hlt:p.block<w.heap.size:=by
  rcases Nat.lt_or_ge p.block w.heap.size with h' | h'
  ·exact h'
  simp [World.cell?,Array.getElem?_eq_none h'] at hv
 rw [h.cell hlt]
 exact hv

theorem Qo (a a':Option Addr) (len cap cap':Nat) (xs:List I3) (w:World) (h:Zj w a len cap xs) (h':Zj w a' len cap' xs) :
  Calls Tryz.prog 115 #[.slice a len cap,.slice a' len cap'] w fun e w'=>e=.returned (.bool true)∧Below w.heap.size w w':=by
 obtain ⟨hl,hlc,hcm,_,hcase⟩:=h
 obtain ⟨_,hlc',hcm',_,hcase'⟩:=h'
 unfold maxLen at hcm hcm'
 have hne:((len:Int) != (len:Int))=false:=by simp
 by_cases h0:len=0
 ·subst h0
  go_enter Tryz.func115,Tryz.ntmps115
  go_wp2
  refine wp_loop_rounds 1 ?_
  rw [rounds_succ]
  go_wp2
  go_ret
  exact ⟨rfl,Below.refl _ _⟩
 rcases hcase with h0' | ⟨b,off,rfl,hblt,hcell⟩
 ·exact absurd h0' h0
 rcases hcase' with h0' | ⟨b',off',rfl,hblt',hcell'⟩
 ·exact absurd h0' h0
 go_enter Tryz.func115,Tryz.ntmps115
 go_wp2
 go_loopw [5] (fun si wr=>∃ k:Nat,k≤len∧si=.int .i64 k∧Below w.heap.size w wr) (fun si _=>len - (intOf si).toNat)
 case atStart=>exact ⟨0,by omega,rfl,Below.refl _ _⟩
 case round =>
  obtain ⟨k,hk,rfl,hbel⟩:=hrel
  by_cases hlt:k<len
  ·obtain ⟨c0,c1,c2⟩:=hcell k hlt
   obtain ⟨e0,e1,e2⟩:=hcell' k hlt
   rw [← hbel.cell (p:=⟨b,_,none⟩) hblt] at c0 c1 c2
   rw [← hbel.cell (p:=⟨b',_,none⟩) hblt'] at e0 e1 e2
   have hlt':(k:Int)<(len:Int):=by omega
   generalize xs.getD k (0,0,0)=x at c0 c1 c2 e0 e1 e2
   clear hcell hcell'
   go_wp2_with fail
   have hk0:(0:Int)≤(k:Int):=by omega
   go_region_held3 (fun w'=>w'.cell? ⟨b,off+k*3,none⟩=some (.int .i64 x.1)∧w'.cell? ⟨b,off+k*3+1,none⟩=some (.int .i64 x.2.1)∧w'.cell? ⟨b,off+k*3+2,none⟩=some (.int .i64 x.2.2)∧w'.cell? ⟨b',off'+k*3,none⟩=some (.int .i64 x.1)∧w'.cell? ⟨b',off'+k*3+1,none⟩=some (.int .i64 x.2.1)∧w'.cell? ⟨b',off'+k*3+2,none⟩=some (.int .i64 x.2.2)) (first | (exact ⟨c0,c1,c2,e0,e1,e2⟩) | (refine ⟨?_,?_,?_,?_,?_,?_⟩<;>(apply Za (by assumption);assumption)) | go_keep)
    (first | (go_at_call 172;refine (PC x _).mono ?_;rintro e w1 ⟨rfl,hb1⟩))
   have hbel1:Below w.heap.size w w1:=Zb hbel (Zb (by go_grown) hb1)
   go_wp2
   go_roundw
   case rel=>exact ⟨k+1,by omega,by go_num,hbel1⟩
   case measure=>simp [intOf];omega
  go_wp2
  go_ret
  exact ⟨rfl,hbel⟩

theorem Ro (a a':Option Addr) (len cap cap':Nat) (rows:List (List I3)) (w:World) (h:Z1 w a len cap rows) (h':Z1 w a' len cap' rows) :
  Calls Tryz.prog 58 #[.slice a len cap,.slice a' len cap'] w fun e w'=>e=.returned (.bool true)∧Below w.heap.size w w':=by
 obtain ⟨hl,hlc,hcm,hcase⟩:=h
 obtain ⟨_,hlc',hcm',hcase'⟩:=h'
 unfold maxLen at hcm hcm'
 have hne:((len:Int) != (len:Int))=false:=by simp
 by_cases h0:len=0
 ·subst h0
  go_enter Tryz.func58,Tryz.ntmps58
  go_wp2
  refine wp_loop_rounds 1 ?_
  rw [rounds_succ]
  go_wp2
  go_ret
  exact ⟨rfl,Below.refl _ _⟩
 rcases hcase with h0' | ⟨b,off,rfl,hblt,hcell⟩
 ·exact absurd h0' h0
 rcases hcase' with h0' | ⟨b',off',rfl,hblt',hcell'⟩
 ·exact absurd h0' h0
 go_enter Tryz.func58,Tryz.ntmps58
 go_wp2
 go_loopw [5] (fun si wr=>∃ k:Nat,k≤len∧si=.int .i64 k∧Below w.heap.size w wr) (fun si _=>len - (intOf si).toNat)
 case atStart=>exact ⟨0,by omega,rfl,Below.refl _ _⟩
 case round =>
  obtain ⟨k,hk,rfl,hbel⟩:=hrel
  by_cases hlt:k<len
  ·obtain ⟨a1,l1,c1,hc,hI⟩:=hcell k hlt
   obtain ⟨a2,l2,c2,hc',hI'⟩:=hcell' k hlt
   obtain rfl:l1=l2:=hI.1.symm.trans hI'.1
   rw [← hbel.cell (p:=⟨b,_,none⟩) hblt] at hc
   rw [← hbel.cell (p:=⟨b',_,none⟩) hblt'] at hc'
   have hJ:=(hI.below hbel).below (w':=wr.drew) (by go_grown)
   have hJ':=(hI'.below hbel).below (w':=wr.drew) (by go_grown)
   have hlt':(k:Int)<(len:Int):=by omega
   have hk0:(0:Int)≤(k:Int):=by omega
   clear hcell hcell' hI hI'
   go_wp2_with fail
   go_region_held3 (fun w'=>w'.cell? ⟨b,off+k,none⟩=some (.slice a1 l1 c1)∧w'.cell? ⟨b',off'+k,none⟩=some (.slice a2 l1 c2)) (first | (exact ⟨hc,hc'⟩) | (refine ⟨?_,?_⟩<;>(apply Za (by assumption);assumption)) | go_keep)
    (first | (go_at_call 115;refine (Qo a1 a2 l1 c1 c2 _ _ hJ hJ').mono ?_;rintro e w1 ⟨rfl,hb1⟩))
   have hbel1:Below w.heap.size w w1:=Zb hbel (Zb (by go_grown) hb1)
   clear hJ hJ'
   go_wp2
   go_roundw
   case rel=>exact ⟨k+1,by omega,by go_num,hbel1⟩
   case measure=>simp [intOf];omega
  go_wp2
  go_ret
  exact ⟨rfl,hbel⟩

theorem Rp (a a':Option Addr) (len cap cap':Nat) (rows:List (List I3)) (w:World) (h:Z1 w a len cap rows) (h':Z1 w a' len cap' rows) :
  Calls Tryz.prog 17 #[.agg #[.slice a len cap],.agg #[.slice a' len cap']] w fun e w'=>e=.returned (.bool true)∧Below w.heap.size w w':=by
 go_enter Tryz.func17,Tryz.ntmps17
 go_wp2_with fail
 refine (Ro _ _ _ _ _ rows _ (h.below (by go_grown)) (h'.below (by go_grown))).mono ?_
 rintro e w1 ⟨rfl,hb1⟩
 have hbw:Below w.heap.size w w1:=Zb (by go_grown) hb1
 clear hb1 h h'
 go_wp2
 go_ret
 exact ⟨rfl,hbw⟩


theorem SY {xs:List I3} {t:Nat} (ht:t<xs.length):(Zk xs)[t*3]?=some (.int .i64 (xs.getD t (0,0,0)).1)∧(Zk xs)[t*3+1]?=some (.int .i64 (xs.getD t (0,0,0)).2.1)∧(Zk xs)[t*3+2]?=some (.int .i64 (xs.getD t (0,0,0)).2.2):=by
 have hsplit:Zk xs=Zk (xs.take t)++((xs.getD t (0,0,0)).cells++Zk (xs.drop (t+1))):=by
  rw [← List.append_assoc,← XL ht]
  unfold Zk
  rw [← List.flatMap_append,List.take_append_drop]
 have hlt:(Zk (xs.take t)).length=t*3:=by rw [Zr,List.length_take];rw [Nat.min_eq_left (by omega)]
 have h:∀ j,j<3→(Zk xs)[t*3+j]?=((xs.getD t (0,0,0)).cells)[j]?:=fun j hj=>by
  rw [hsplit,List.getElem?_append_right (by omega),hlt,Nat.add_sub_cancel_left,List.getElem?_append_left (by simp [I3.cells];omega)]
 exact ⟨by simpa [I3.cells] using h 0 (by omega),by simpa [I3.cells] using h 1 (by omega),by simpa [I3.cells] using h 2 (by omega)⟩

set_option linter.unusedVariables false

theorem SF (a:Option Addr) (len cap:Nat) (left:Int) (w:World) (hl:len≤maxLen) (h0:0≤left) (h1:left≤2 ^ 20) :
  Calls Tryz.prog 143 #[.slice a len cap,.int .i64 left] w fun e w'=>e=.returned (.int .i64 (SJ left len))∧w=w':=by
 unfold maxLen at hl
 unfold SJ
 go_enter Tryz.func143,Tryz.ntmps143
 by_cases h:left - len<0
 ·rw [if_pos h]
  go_wp2
  go_ret
  exact ⟨rfl,rfl⟩
 rw [if_neg h]
 go_wp2
 go_ret
 exact ⟨rfl,rfl⟩

theorem Y6:(Tryz.prog.info? 90).map (fun i=>(i.zero,i.size,i.bytes))=some (some (.agg #[.int .i64 0,.int .i64 0,.int .i64 0]),3,24):=by kernel_rfl

theorem Mt (a:Option Addr) (len cap:Nat) (xs:List I3) (w:World) (h:Zj w a len cap xs) (hn:len≤1048576) :
  Calls Tryz.prog 154 #[.slice a len cap] w fun e w'=>e=.returned (.slice (some ⟨w.heap.size,0,none⟩) len len) ∧
   (∃ cs,cs=Zk xs∧w'.ownsRow w.heap.size 90 3 (.slice (some ⟨w.heap.size,0,none⟩) len len) len cs)∧Below w.heap.size w w':=by
 obtain ⟨i0,hi,hz0,hz1,hz2⟩:=info_parts Y6
 have hI:=h
 obtain ⟨hl,hlc,hcm,hfit,hcase⟩:=h
 unfold maxLen at hcm
 go_enter Tryz.func154,Tryz.ntmps154
 go_wp2_with (at_make;refine wpList_make_full _ rfl _ _ 29 rfl w.heap.size 90 i0 (.agg #[.int .i64 0,.int .i64 0,.int .i64 0]) 3 Tryz.underlying29 hi hz0 hz1 _ _ _ _ len rfl rfl (by omega) (by omega) ?b2 ?b3 (Nat.le_refl _) ?_)
 case b2=>rw [hz2];omega
 case b3=>unfold maxLen;omega
 intro w0 hown0 hgrow0
 have hb0:Below w.heap.size w w0:=(Below.refl _ _).grown hgrow0 (Nat.le_refl _) (fun k h=>by cases h)
 obtain ⟨cs0,hcs0⟩:∃ cs0,cs0=(madeCells #[Value.int .i64 0,.int .i64 0,.int .i64 0] (len*3)).toList:=⟨_,rfl⟩
 rw [← hcs0] at hown0
 clear hgrow0 hcs0
 go_wp2
 go_loopw [4] (fun si wr=>∃ (k:Nat) (cs:List Value),k≤len∧si=.int .i64 k∧Hid (cs.take (k*3)=Zk (xs.take k))∧wr.ownsRow w.heap.size 90 3 (.slice (some ⟨w.heap.size,0,none⟩) len len) len cs∧Below w.heap.size w wr) (fun si _=>len - (intOf si).toNat)
 case atStart=>exact ⟨0,cs0,by omega,rfl,by simp [Hid,Zk],hown0,hb0⟩
 case round =>
  obtain ⟨k,cs,hk,rfl,hH,ho,hbel⟩:=hrel
  by_cases hlt:k<len
  ·rcases hcase with h0 | ⟨b,off,rfl,hblt,hcell⟩
   ·omega
   have hlt2:(k:Int)<(len:Int):=by omega
   obtain ⟨c0,c1,c2⟩:=hcell k hlt
   have hstep:=XL (xs:=xs) (k:=k) (by omega)
   have hstep':Hid (Zk (xs.take (k+1))=Zk (xs.take k)++(xs.getD k (0,0,0)).cells):=hstep
   clear hstep hcell
   generalize xs.getD k (0,0,0)=x at c0 c1 c2 hstep'
   have d0:wr.cell? ⟨b,off+k*3,none⟩=some (.int .i64 x.1):=by rw [hbel.cell (p:=⟨b,_,none⟩) hblt];exact c0
   have d1:wr.cell? ⟨b,off+k*3+1,none⟩=some (.int .i64 x.2.1):=by rw [hbel.cell (p:=⟨b,_,none⟩) hblt];exact c1
   have d2:wr.cell? ⟨b,off+k*3+2,none⟩=some (.int .i64 x.2.2):=by rw [hbel.cell (p:=⟨b,_,none⟩) hblt];exact c2
   clear c0 c1 c2
   go_wp2_with fail
   refine (Ll x wr).mono ?_
   rintro e w1 ⟨rfl,hb1⟩
   clear d0 d1 d2
   have ho1:=Zz ho hb1
   have hbel1:Below w.heap.size w w1:=Zb hbel hb1
   clear ho hbel hb1
   obtain ⟨x0,x1,x2⟩:=x
   have hlen:=ho1.1
   have f0:=ho1.frozenAt (k*3)
   have f1:=ho1.frozenAt (k*3+1)
   have f2:=ho1.frozenAt (k*3+2)
   obtain ⟨u0,hu0⟩:∃ u,w1.cell? ⟨w.heap.size,k*3,none⟩=some u:=⟨_,by rw [ho1.cellAt _ (by omega)];exact List.getElem?_eq_getElem (by omega)⟩
   obtain ⟨u1,hu1⟩:∃ u,w1.cell? ⟨w.heap.size,k*3+1,none⟩=some u:=⟨_,by rw [ho1.cellAt _ (by omega)];exact List.getElem?_eq_getElem (by omega)⟩
   obtain ⟨u2,hu2⟩:∃ u,w1.cell? ⟨w.heap.size,k*3+2,none⟩=some u:=⟨_,by rw [ho1.cellAt _ (by omega)];exact List.getElem?_eq_getElem (by omega)⟩
   have R:=(((ho1.stored (k*3) (.int .i64 x0)).1.stored (k*3+1) (.int .i64 x1)).1.stored (k*3+2) (.int .i64 x2)).1
   have hT:Hid ((((cs.set (k*3) (.int .i64 x0)).set (k*3+1) (.int .i64 x1)).set (k*3+2) (.int .i64 x2)).take ((k+1)*3)=Zk (xs.take (k+1))):=by
    rw [Hid,hstep'.out]
    exact Pk _ _ _ (by omega) hH.out
   have hb3:Below w.heap.size w (((w1.setCell ⟨w.heap.size,k*3,none⟩ (.int .i64 x0)).setCell ⟨w.heap.size,k*3+1,none⟩ (.int .i64 x1)).setCell ⟨w.heap.size,k*3+2,none⟩ (.int .i64 x2)):=
    ((hbel1.setCell (Nat.le_refl _) _).setCell (Nat.le_refl _) _).setCell (Nat.le_refl _) _
   clear hH hstep' ho1 hbel1
   generalize ((cs.set (k*3) (.int .i64 x0)).set (k*3+1) (.int .i64 x1)).set (k*3+2) (.int .i64 x2)=cs' at R hT
   unfold I3.val
   go_wp2
   go_roundw
   case rel=>exact ⟨k+1,cs',by omega,by go_num,hT,R,hb3⟩
   case measure=>simp [intOf];omega
  obtain rfl:k=len:=by omega
  clear hcase hI
  go_wp2
  go_ret
  refine ⟨rfl,⟨cs,?_,ho⟩,hbel⟩
  have h1:=hH.out
  have h2:=ho.1
  rwa [List.take_of_length_le (by omega),List.take_of_length_le (by omega)] at h1

theorem Sg (a a':Option Addr) (len cap cap':Nat) (xs:List I3) (w:World) (h:Zj w a len cap xs) (h':Zj w a' len cap' xs) :
  Calls Tryz.prog 56 #[.slice a len cap,.slice a' len cap'] w fun e w'=>e=.returned (.bool true)∧Below w.heap.size w w':=by
 obtain ⟨hl,hlc,hcm,_,hcase⟩:=h
 obtain ⟨_,hlc',hcm',_,hcase'⟩:=h'
 unfold maxLen at hcm hcm'
 have hne:((len:Int) != (len:Int))=false:=by simp
 by_cases h0:len=0
 ·subst h0
  go_enter Tryz.func56,Tryz.ntmps56
  go_wp2
  refine wp_loop_rounds 1 ?_
  rw [rounds_succ]
  go_wp2
  go_ret
  exact ⟨rfl,Below.refl _ _⟩
 rcases hcase with h0' | ⟨b,off,rfl,hblt,hcell⟩
 ·exact absurd h0' h0
 rcases hcase' with h0' | ⟨b',off',rfl,hblt',hcell'⟩
 ·exact absurd h0' h0
 go_enter Tryz.func56,Tryz.ntmps56
 go_wp2
 go_loopw [5] (fun si wr=>∃ k:Nat,k≤len∧si=.int .i64 k∧Below w.heap.size w wr) (fun si _=>len - (intOf si).toNat)
 case atStart=>exact ⟨0,by omega,rfl,Below.refl _ _⟩
 case round =>
  obtain ⟨k,hk,rfl,hbel⟩:=hrel
  by_cases hlt:k<len
  ·obtain ⟨c0,c1,c2⟩:=hcell k hlt
   obtain ⟨e0,e1,e2⟩:=hcell' k hlt
   rw [← hbel.cell (p:=⟨b,_,none⟩) hblt] at c0 c1 c2
   rw [← hbel.cell (p:=⟨b',_,none⟩) hblt'] at e0 e1 e2
   have hlt':(k:Int)<(len:Int):=by omega
   generalize xs.getD k (0,0,0)=x at c0 c1 c2 e0 e1 e2
   clear hcell hcell'
   go_wp2_with fail
   have hk0:(0:Int)≤(k:Int):=by omega
   go_region_held3 (fun w'=>w'.cell? ⟨b,off+k*3,none⟩=some (.int .i64 x.1)∧w'.cell? ⟨b,off+k*3+1,none⟩=some (.int .i64 x.2.1)∧w'.cell? ⟨b,off+k*3+2,none⟩=some (.int .i64 x.2.2)∧w'.cell? ⟨b',off'+k*3,none⟩=some (.int .i64 x.1)∧w'.cell? ⟨b',off'+k*3+1,none⟩=some (.int .i64 x.2.1)∧w'.cell? ⟨b',off'+k*3+2,none⟩=some (.int .i64 x.2.2)) (first | (exact ⟨c0,c1,c2,e0,e1,e2⟩) | (refine ⟨?_,?_,?_,?_,?_,?_⟩<;>(apply Za (by assumption);assumption)) | go_keep)
    (first | (go_at_call 113;refine (ML x _).mono ?_;rintro e w1 ⟨rfl,hb1⟩))
   have hbel1:Below w.heap.size w w1:=Zb hbel (Zb (by go_grown) hb1)
   go_wp2
   go_roundw
   case rel=>exact ⟨k+1,by omega,by go_num,hbel1⟩
   case measure=>simp [intOf];omega
  go_wp2
  go_ret
  exact ⟨rfl,hbel⟩

theorem PV (base g n cap:Nat) (k:Int) (xs:List I3) (w:World) (hk0:0≤k) (hk:k≤1000000000) (hn:n≤1048576) (hl:xs.length=n) (ho:w.ownsRow base 90 3 (.slice (some ⟨g,0,none⟩) n cap) n (Zk xs)) :
  Calls Tryz.prog 61 #[.slice (some ⟨g,0,none⟩) n cap,.int .i64 k] w fun e w'=>e=.returned (.int .i64 (k+n*3)) ∧
   w'.ownsRow base 90 3 (.slice (some ⟨g,0,none⟩) n cap) n (Zk (mkI k xs n))∧w.grownBy w' (some g):=by
 go_enter Tryz.func61,Tryz.ntmps61
 go_wp2
 go_loopw [1,5] (fun sk si wr=>∃ j:Nat,j≤n∧si=.int .i64 j∧sk=.int .i64 (k+j*3)∧wr.ownsRow base 90 3 (.slice (some ⟨g,0,none⟩) n cap) n (Zk (mkI k xs j))∧w.grownBy wr (some g)) (fun _ si _=>n - (intOf si).toNat)
 case atStart=>exact ⟨0,by omega,rfl,by go_num,by simpa [mkI] using ho,World.grownBy.refl _ _⟩
 case round =>
  obtain ⟨j,hj,rfl,rfl,hr,hg⟩:=hrel
  by_cases hlt:j<n
  ·have hlt2:(j:Int)<(n:Int):=by omega
   have hj0:(0:Int)≤(j:Int):=by omega
   have f0:=hr.frozenAt (j*3)
   have f1:=hr.frozenAt (j*3+1)
   have f2:=hr.frozenAt (j*3+2)
   have hlen:(Zk (mkI k xs j)).length=n*3:=by rw [Zr,WZ,hl]
   obtain ⟨u0,hu0⟩:∃ u,wr.cell? ⟨g,j*3,none⟩=some u:=⟨_,by rw [hr.cellAt _ (by omega)];exact List.getElem?_eq_getElem (by omega)⟩
   obtain ⟨u1,hu1⟩:∃ u,wr.cell? ⟨g,j*3+1,none⟩=some u:=⟨_,by rw [hr.cellAt _ (by omega)];exact List.getElem?_eq_getElem (by omega)⟩
   obtain ⟨u2,hu2⟩:∃ u,wr.cell? ⟨g,j*3+2,none⟩=some u:=⟨_,by rw [hr.cellAt _ (by omega)];exact List.getElem?_eq_getElem (by omega)⟩
   have R:=(((hr.stored (j*3) (.int .i64 (k+j*3))).1.stored (j*3+1) (.int .i64 (k+j*3+1))).1.stored (j*3+2) (.int .i64 (k+j*3+1+1))).1
   rw [show (k+(j:Int)*3+1+1)=k+j*3+2 by omega,PX k xs j (by omega),show (k+(j:Int)*3+2)=k+j*3+1+1 by omega] at R
   have G:=Yi hg (Yi (Yc wr g (j*3) (.int .i64 (k+j*3))) (Yi (Yc _ g (j*3+1) (.int .i64 (k+j*3+1))) (Yc _ g (j*3+2) (.int .i64 (k+j*3+1+1)))))
   clear hr hg ho hlen
   go_wp2
   go_roundw
   case rel=>exact ⟨j+1,by omega,by go_num,by go_num,R,G⟩
   case measure=>simp [intOf];omega
  obtain rfl:j=n:=by omega
  go_wp2
  go_ret
  exact ⟨rfl,hr,hg⟩

theorem Qw (k:Int) (w:World):Calls Tryz.prog 61 #[.slice none 0 0,.int .i64 k] w fun e w'=>e=.returned (.int .i64 k)∧w=w':=by
 go_enter Tryz.func61,Tryz.ntmps61
 go_wp2
 refine wp_loop_rounds 1 ?_
 rw [rounds_succ]
 go_wp2
 go_ret
 exact ⟨rfl,rfl⟩

theorem Te (base:Nat) (v:Value) (k:Int) (xs:List I3) (w:World) (hk0:0≤k) (hk:k≤1000000000) (hn:xs.length≤1048576) (ho:w.ownsRow base 90 3 v xs.length (Zk xs)) :
  Calls Tryz.prog 61 #[v,.int .i64 k] w fun e w'=>e=.returned (.int .i64 (k+xs.length*3)) ∧
   w'.ownsRow base 90 3 v xs.length (Zk (mkI k xs xs.length))∧w.grownBy w' v.ownBlock:=by
 rcases ho.2 with ⟨rfl,h0⟩ | ⟨g,cap,cur,rfl,_⟩
 ·obtain rfl:xs=[]:=List.eq_nil_of_length_eq_zero h0
  refine (Qw k w).mono ?_
  rintro e w' ⟨rfl,rfl⟩
  exact ⟨by simp,ho,World.grownBy.refl _ _⟩
 exact PV base g _ cap k xs w hk0 hk hn rfl ho

theorem PE (base g n cap:Nat) (k:Int) (xs:List I3) (w:World) (hk0:0≤k) (hk:k≤1000000000) (hn:n≤1048576) (hl:xs.length=n) (ho:w.ownsRow base 90 3 (.slice (some ⟨g,0,none⟩) n cap) n (Zk (mkI k xs n))) :
  Calls Tryz.prog 62 #[.slice (some ⟨g,0,none⟩) n cap,.int .i64 k] w fun e w'=>e=.returned (.int .i64 (k+n*3))∧w=w':=by
 go_enter Tryz.func62,Tryz.ntmps62
 go_wp2
 go_loop [1,5] (fun sk si=>∃ j:Nat,j≤n∧si=.int .i64 j∧sk=.int .i64 (k+j*3)) (fun _ si=>n - (intOf si).toNat)
 case atStart=>exact ⟨0,by omega,rfl,by go_num⟩
 case round =>
  obtain ⟨j,hj,rfl,rfl⟩:=hrel
  by_cases hlt:j<n
  ·have hlt2:(j:Int)<(n:Int):=by omega
   have hj0:(0:Int)≤(j:Int):=by omega
   obtain ⟨a0,a1,a2⟩:=SY (xs:=mkI k xs n) (t:=j) (by rw [WZ];omega)
   rw [LJ k xs n j hlt (by omega)] at a0 a1 a2
   have c0:w.cell? ⟨g,j*3,none⟩=some (.int .i64 (k+j*3)):=by rw [ho.cellAt _ (by omega)];exact a0
   have c1:w.cell? ⟨g,j*3+1,none⟩=some (.int .i64 (k+j*3+1)):=by rw [ho.cellAt _ (by omega)];exact a1
   have c2:w.cell? ⟨g,j*3+2,none⟩=some (.int .i64 (k+j*3+1+1)):=by rw [ho.cellAt _ (by omega),a2];simp;omega
   have n0:((k+(j:Int)*3) != (k+(j:Int)*3))=false:=by simp
   have n1:((k+(j:Int)*3+1) != (k+(j:Int)*3+1))=false:=by simp
   have n2:((k+(j:Int)*3+1+1) != (k+(j:Int)*3+1+1))=false:=by simp
   clear ho a0 a1 a2
   go_wp2
   go_round
   case rel=>exact ⟨j+1,by omega,by go_num,by go_num⟩
   case measure=>simp [intOf];omega
  obtain rfl:j=n:=by omega
  clear ho
  go_wp2
  go_ret
  exact ⟨rfl,rfl⟩

theorem Qp (k:Int) (w:World):Calls Tryz.prog 62 #[.slice none 0 0,.int .i64 k] w fun e w'=>e=.returned (.int .i64 k)∧w=w':=by
 go_enter Tryz.func62,Tryz.ntmps62
 go_wp2
 refine wp_loop_rounds 1 ?_
 rw [rounds_succ]
 go_wp2
 go_ret
 exact ⟨rfl,rfl⟩

theorem UT (base:Nat) (v:Value) (k:Int) (xs:List I3) (w:World) (hk0:0≤k) (hk:k≤1000000000) (hn:xs.length≤1048576) (ho:w.ownsRow base 90 3 v xs.length (Zk (mkI k xs xs.length))) :
  Calls Tryz.prog 62 #[v,.int .i64 k] w fun e w'=>e=.returned (.int .i64 (k+xs.length*3))∧w=w':=by
 rcases ho.2 with ⟨rfl,h0⟩ | ⟨g,cap,cur,rfl,_⟩
 ·obtain rfl:xs=[]:=List.eq_nil_of_length_eq_zero h0
  refine (Qp k w).mono ?_
  rintro e w' ⟨rfl,rfl⟩
  exact ⟨by simp,rfl⟩
 exact PE base g _ cap k xs w hk0 hk hn rfl ho


def SV (w:World) (B k:Nat) (vs:List Value) (rows:List (List I3)):Prop:=
 (∀ t,t<k→w.ownsRow B 122 3 (vs.getD t undef) (rows.getD t []).length (Zk (rows.getD t []))) ∧
 ∀ t t',t<k→t'<k→t≠t'→(vs.getD t undef).ownBlock=none∨(vs.getD t undef).ownBlock≠(vs.getD t' undef).ownBlock

theorem SV.put {w w':World} {B P k G len:Nat} {vs:List Value} {rows:List (List I3)} (h:SV w B k vs rows) (hb:Below w.heap.size w w') (hk:k<vs.length) (hG:w.heap.size≤G)
  (hn:w'.ownsRow B 122 3 (.slice (some ⟨G,0,none⟩) len len) (rows.getD k []).length (Zk (rows.getD k []))) (hP:P<w.heap.size) (hPn:∀ t,t<k→(vs.getD t undef).ownBlock≠some P) :
  SV (w'.setCell ⟨P,k,none⟩ (.slice (some ⟨G,0,none⟩) len len)) B (k+1) (vs.set k (.slice (some ⟨G,0,none⟩) len len)) rows:=by
 have hold:∀ t,t≠k→(vs.set k (.slice (some ⟨G,0,none⟩) len len)).getD t undef=vs.getD t undef:=fun t ht=>by simp [List.getD,List.getElem?_set_ne (Ne.symm ht)]
 have hnew:(vs.set k (.slice (some ⟨G,0,none⟩) len len)).getD k undef=.slice (some ⟨G,0,none⟩) len len:=by simp [List.getD,hk]
 refine ⟨fun t ht=>?_,fun t t' ht ht' hne=>?_⟩
 ·by_cases e:t=k
  ·subst e
   rw [hnew]
   exact ownsRow_setCell_other hn (by simp [Value.ownBlock];omega) _
  rw [hold t e]
  exact ownsRow_setCell_other (Zz (h.1 t (by omega)) hb) (hPn t (by omega)) _
 by_cases e:t=k
 ·subst e
  rw [hnew,hold t' (Ne.symm hne)]
  refine .inr ?_
  simp only [Value.ownBlock,ne_eq]
  intro h'
  have:=((h.1 t' (by omega)).lt G h'.symm).2
  omega
 rw [hold t e]
 by_cases e':t'=k
 ·subst e'
  rw [hnew]
  rcases hbk:(vs.getD t undef).ownBlock with _ | x
  ·exact .inl rfl
  refine .inr ?_
  simp only [Value.ownBlock,ne_eq,Option.some.injEq]
  have:=((h.1 t (by omega)).lt x hbk).2
  omega
 rw [hold t' e']
 exact h.2 t t' (by omega) (by omega) hne

theorem Xr.low {w:World} {B:Nat} {v:Value} {rows:List (List I3)} (h:Xr w B v rows) {p:Addr} (hp:p.block<B) (u:Value):Xr (w.setCell p u) B v rows:=by
 obtain ⟨vs,h1,h2,h3,h4⟩:=h
 exact ⟨vs,ownsRow_setCell_below h1 hp _,h2,fun t ht=>ownsRow_setCell_below (h3 t ht) hp _,h4⟩

theorem QF (a:Option Addr) (len cap:Nat) (rows:List (List I3)) (w:World) (h:Z1 w a len cap rows) (hn:len≤1048576) (hr:∀ t,t<len→(rows.getD t []).length≤1048576) :
  Calls Tryz.prog 48 #[.slice a len cap] w fun e w'=>e=.returned (.slice (some ⟨w.heap.size,0,none⟩) len len) ∧
   Xr w' w.heap.size (.slice (some ⟨w.heap.size,0,none⟩) len len) rows∧Below w.heap.size w w':=by
 obtain ⟨i0,hi,hz0,hz1,hz2⟩:=info_parts Sj
 obtain ⟨hl,hlc,hcm,hcase⟩:=h
 unfold maxLen at hcm
 go_enter Tryz.func48,Tryz.ntmps48
 go_wp2_with (at_make;refine wpList_make_full _ rfl _ _ 23 rfl w.heap.size 62 i0 (.slice none 0 0) 1 Tryz.underlying23 hi hz0 hz1 _ _ _ _ len rfl rfl (by omega) (by omega) ?b2 ?b3 (Nat.le_refl _) ?_)
 case b2=>rw [hz2];omega
 case b3=>unfold maxLen;omega
 intro w0 hown0 hgrow0
 have hb0:Below w.heap.size w w0:=(Below.refl _ _).grown hgrow0 (Nat.le_refl _) (fun k h=>by cases h)
 obtain ⟨cs0,hcs0⟩:∃ cs0,cs0=(madeCells #[Value.slice none 0 0] len).toList:=⟨_,rfl⟩
 rw [← hcs0] at hown0
 clear hgrow0 hcs0
 go_wp2
 go_loopw [4] (fun si wr=>∃ (k:Nat) (cs:List Value),k≤len∧si=.int .i64 k∧SV wr w.heap.size k cs rows∧wr.ownsRow w.heap.size 62 1 (.slice (some ⟨w.heap.size,0,none⟩) len len) len cs∧Below w.heap.size w wr) (fun si _=>len - (intOf si).toNat)
 case atStart=>exact ⟨0,cs0,by omega,rfl,⟨fun t ht=>by omega,fun t _ ht=>by omega⟩,hown0,hb0⟩
 case round =>
  obtain ⟨k,cs,hk,rfl,hR,ho,hbel⟩:=hrel
  by_cases hlt:k<len
  ·rcases hcase with h0 | ⟨b,off,rfl,hblt,hcell⟩
   ·omega
   have hlt2:(k:Int)<(len:Int):=by omega
   obtain ⟨a',len',cap',hc,hI⟩:=hcell k hlt
   have hrk:=hr k hlt
   rw [hI.1] at hrk
   have hc':wr.cell? ⟨b,off+k,none⟩=some (.slice a' len' cap'):=by rw [hbel.cell (p:=⟨b,_,none⟩) hblt];exact hc
   clear hcell hc
   have hIr:Zj wr a' len' cap' (rows.getD k []):=hI.below hbel
   have hwr:=(ho.lt w.heap.size rfl).2
   go_wp2_with fail
   refine (Ut a' len' cap' _ wr hIr hrk).mono ?_
   rintro e w1 ⟨rfl,⟨cs2,hcs2,hown2⟩,hb1⟩
   subst hcs2
   have hl':=hIr.1
   have hn2:w1.ownsRow w.heap.size 122 3 (.slice (some ⟨wr.heap.size,0,none⟩) len' len') (rows.getD k []).length (Zk (rows.getD k [])):=by
    rw [hl']
    rcases hown2 with ⟨q1,q2⟩
    refine ⟨q1,?_⟩
    rcases q2 with q2 | ⟨g,cap,cur,q3,q4,q5⟩
    ·exact .inl q2
    exact .inr ⟨g,cap,cur,q3,by omega,q5⟩
   have hPn:∀ t,t<k→(cs.getD t undef).ownBlock≠some w.heap.size:=fun t ht=>by
    rcases Z0 ho (hR.1 t ht) (by decide) with h | h
    ·simp [Value.ownBlock] at h
    exact fun e=>h (by rw [e];rfl)
   have R2:=hR.put hb1 (by have:=ho.1;omega) (Nat.le_refl _) hn2 hwr hPn
   clear hown2 hIr hI hc' hn2 hPn
   have ho1:=Zz ho hb1
   have hbel1:Below w.heap.size w w1:=Zb hbel hb1
   clear ho hbel hb1 hR
   have hlen:=ho1.1
   have f0:=ho1.frozenAt k
   obtain ⟨u0,hu0⟩:∃ u,w1.cell? ⟨w.heap.size,k,none⟩=some u:=⟨_,by rw [ho1.cellAt _ (by omega)];exact List.getElem?_eq_getElem (by omega)⟩
   have R:=(ho1.stored k (.slice (some ⟨wr.heap.size,0,none⟩) len' len')).1
   have hb3:Below w.heap.size w (w1.setCell ⟨w.heap.size,k,none⟩ (.slice (some ⟨wr.heap.size,0,none⟩) len' len')):=hbel1.setCell (Nat.le_refl _) _
   clear ho1 hbel1
   generalize cs.set k (.slice (some ⟨wr.heap.size,0,none⟩) len' len')=cs' at R R2
   go_wp2
   go_roundw
   case rel=>exact ⟨k+1,cs',by omega,by go_num,R2,R,hb3⟩
   case measure=>simp [intOf];omega
  obtain rfl:k=len:=by omega
  clear hcase
  go_wp2
  go_ret
  exact ⟨rfl,⟨cs,by rw [hl];exact ho,by have:=ho.1;omega,fun t ht=>hR.1 t (by omega),fun t t' ht ht'=>hR.2 t t' (by omega) (by omega)⟩,hbel⟩

theorem QG (a:Option Addr) (len cap:Nat) (rows:List (List I3)) (w:World) (h:Z1 w a len cap rows) (hn:len≤1048576) (hr:∀ t,t<len→(rows.getD t []).length≤1048576) :
  Calls Tryz.prog 12 #[.agg #[.slice a len cap]] w fun e w'=>e=.returned (.agg #[.slice (some ⟨w.heap.size+3,0,none⟩) len len]) ∧
   Xr w' (w.heap.size+3) (.slice (some ⟨w.heap.size+3,0,none⟩) len len) rows∧Below w.heap.size w w':=by
 go_enter Tryz.func12,Tryz.ntmps12
 go_wp2_with fail
 refine (QF _ _ _ rows _ (h.below (by go_grown)) hn hr).mono ?_
 rintro e w1 ⟨rfl,hC,hb1⟩
 have k1:w1.cell? ⟨w.heap.size+1,0,none⟩=some (.slice none 0 0):=by rw [hb1.cell (by simp)];first | (simp [go_sem];done) | (simp [World.cell?];done)
 have k2:w1.cell? ⟨w.heap.size+1+1,0,none⟩=some (.slice none 0 0):=by rw [hb1.cell (by simp)];first | (simp [go_sem];done) | (simp [World.cell?];done)
 have f1:w1.frozen? ⟨w.heap.size+1,0,none⟩=false:=by rw [hb1.frozen (by simp)];first | (simp [go_sem];done) | (simp [World.frozen?];done)
 have f2:w1.frozen? ⟨w.heap.size+1+1,0,none⟩=false:=by rw [hb1.frozen (by simp)];first | (simp [go_sem];done) | (simp [World.frozen?];done)
 have hbw:Below w.heap.size w w1:=Zb (by go_grown) hb1
 simp only [World.size_alloc] at hC
 rw [show w.heap.size+1+1+1=w.heap.size+3 from rfl] at hC
 clear hb1 h
 simp only [World.size_alloc]
 have k3:((w1.setCell ⟨w.heap.size+1+1,0,none⟩ (.slice (some ⟨w.heap.size+1+1+1,0,none⟩) len len)).setCell ⟨w.heap.size+1,0,none⟩ (.slice (some ⟨w.heap.size+1+1+1,0,none⟩) len len)).cell? ⟨w.heap.size+1,0,none⟩=some (.slice (some ⟨w.heap.size+1+1+1,0,none⟩) len len):=
  World.cell?_setCell_same' _ _ _ (by rw [YO _ _ _ (by simp),k1];rfl)
 go_wp2
 have R:=(hC.low (p:=⟨w.heap.size+1+1,0,none⟩) (by simp) (.slice (some ⟨w.heap.size+1+1+1,0,none⟩) len len)).low (p:=⟨w.heap.size+1,0,none⟩) (by simp) (.slice (some ⟨w.heap.size+1+1+1,0,none⟩) len len)
 have hb3:=(hbw.setCell (p:=⟨w.heap.size+1+1,0,none⟩) (by simp;omega) (.slice (some ⟨w.heap.size+1+1+1,0,none⟩) len len)).setCell (p:=⟨w.heap.size+1,0,none⟩) (by simp) (.slice (some ⟨w.heap.size+1+1+1,0,none⟩) len len)
 clear hC hbw k1 k2 f1 f2
 generalize (w1.setCell ⟨w.heap.size+1+1,0,none⟩ (.slice (some ⟨w.heap.size+1+1+1,0,none⟩) len len)).setCell ⟨w.heap.size+1,0,none⟩ (.slice (some ⟨w.heap.size+1+1+1,0,none⟩) len len)=w2 at k3 R hb3
 refine bodyPost_ret (by simp [results,Tryz.results12,go_sem,k3];try rfl) rfl ?_
 exact ⟨rfl,R,hb3⟩
end Go.Proofs.YtmhlokahmblboaaGreatDoor
