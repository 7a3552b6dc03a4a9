/-
  Joined: Prog5, SizeB.
-/
import Derived.Test.YtjgffnlmjmibgaaGreatDoorE06

namespace Go.Proofs.YtjgffnlmjmibgaaGreatDoor
set_option maxRecDepth 100000
set_option maxHeartbeats 16000000
open Go.RowKit

def RowsOwn (w:World) (B k:Nat) (vs:List Value) (rows:List (List I3)):Prop:=
 (∀ t,t<k→w.ownsRow B 141 3 (vs.getD t undef) (rows.getD t []).length (flat (rows.getD t []))) ∧
 ∀ t t',t<k→t'<k→t≠t'→(vs.getD t undef).ownBlock=none∨(vs.getD t undef).ownBlock≠(vs.getD t' undef).ownBlock

theorem RowsOwn.below {w w':World} {B k:Nat} {vs:List Value} {rows:List (List I3)} (h:RowsOwn w B k vs rows) (hb:Below w.heap.size w w'):RowsOwn w' B k vs rows:=⟨fun t ht=>owns_below (h.1 t ht) hb,h.2⟩

theorem RowsOwn.put {w w':World} {B P k G len:Nat} {vs:List Value} {rows:List (List I3)} (h:RowsOwn w B k vs rows) (hb:Below w.heap.size w w') (hk:k<vs.length) (hG:w.heap.size≤G)
  (hn:w'.ownsRow B 141 3 (.slice (some ⟨G,0,none⟩) len len) (rows.getD k []).length (flat (rows.getD k []))) (hP:P<w.heap.size) (hPn:∀ t,t<k→(vs.getD t undef).ownBlock≠some P) :
  RowsOwn (w'.setCell ⟨P,k,none⟩ (.slice (some ⟨G,0,none⟩) len len)) B (k+1) (vs.set k (.slice (some ⟨G,0,none⟩) len len)) rows:=by
 have hold:∀ t,t≠k→(vs.set k (.slice (some ⟨G,0,none⟩) len len)).getD t undef=vs.getD t undef:=fun t ht=>by simp [List.getD,List.getElem?_set_ne (Ne.symm ht)]
 have hnew:(vs.set k (.slice (some ⟨G,0,none⟩) len len)).getD k undef=.slice (some ⟨G,0,none⟩) len len:=by simp [List.getD,hk]
 refine ⟨fun t ht=>?_,fun t t' ht ht' hne=>?_⟩
 ·by_cases e:t=k
  ·subst e
   rw [hnew]
   exact ownsRow_setCell_other hn (by simp [Value.ownBlock];omega) _
  ·rw [hold t e]
   exact ownsRow_setCell_other (owns_below (h.1 t (by omega)) hb) (hPn t (by omega)) _
 ·by_cases e:t=k
  ·subst e
   rw [hnew,hold t' (Ne.symm hne)]
   refine .inr ?_
   simp only [Value.ownBlock,ne_eq]
   intro h'
   have:=((h.1 t' (by omega)).lt G h'.symm).2
   omega
  ·rw [hold t e]
   by_cases e':t'=k
   ·subst e'
    rw [hnew]
    rcases hbk:(vs.getD t undef).ownBlock with _ | x
    ·exact .inl rfl
    ·refine .inr ?_
     simp only [Value.ownBlock,ne_eq,Option.some.injEq]
     have:=((h.1 t (by omega)).lt x hbk).2
     omega
   ·rw [hold t' e']
    exact h.2 t t' (by omega) (by omega) hne

theorem OwnProg.low {w:World} {B:Nat} {v:Value} {rows:List (List I3)} (h:OwnProg w B v rows) {p:Addr} (hp:p.block<B) (u:Value):OwnProg (w.setCell p u) B v rows:=by
 obtain ⟨vs,h1,h2,h3,h4⟩:=h
 exact ⟨vs,ownsRow_setCell_below h1 hp _,h2,fun t ht=>ownsRow_setCell_below (h3 t ht) hp _,h4⟩

theorem toInstrSS_own (a:Option Addr) (len cap:Nat) (rows:List (List I3)) (w:World) (h:Codes w a len cap rows) (hn:len≤1048576) (hr:∀ t,t<len→(rows.getD t []).length≤1048576) :
  Calls Tryz.prog 87 #[.slice a len cap] w fun e w'=>e=.returned (.slice (some ⟨w.heap.size,0,none⟩) len len) ∧
   OwnProg w' w.heap.size (.slice (some ⟨w.heap.size,0,none⟩) len len) rows∧Below w.heap.size w w':=by
 obtain ⟨i0,hi,hz0,hz1,hz2⟩:=info_parts info_instrs
 obtain ⟨hl,hlc,hcm,hcase⟩:=h
 unfold maxLen at hcm
 go_enter Tryz.func87,Tryz.ntmps87
 go_wp2_with (at_make;refine wpList_make_full _ rfl _ _ 23 rfl w.heap.size 73 i0 (.slice none 0 0) 1 Tryz.underlying23 hi hz0 hz1 _ _ _ _ len rfl rfl (by omega) (by omega) ?b2 ?b3 (Nat.le_refl _) ?_)
 case b2=>rw [hz2];omega
 case b3=>unfold maxLen;omega
 intro w0 hown0 hgrow0
 have hb0:Below w.heap.size w w0:=(Below.refl _ _).grown hgrow0 (Nat.le_refl _) (fun k h=>by cases h)
 obtain ⟨cs0,hcs0⟩:∃ cs0,cs0=(madeCells #[Value.slice none 0 0] len).toList:=⟨_,rfl⟩
 rw [← hcs0] at hown0
 clear hgrow0 hcs0
 go_wp2
 go_loopw [4] (fun si wr=>∃ (k:Nat) (cs:List Value),k≤len∧si=.int .i64 k∧RowsOwn wr w.heap.size k cs rows∧wr.ownsRow w.heap.size 73 1 (.slice (some ⟨w.heap.size,0,none⟩) len len) len cs∧Below w.heap.size w wr) (fun si _=>len - (intOf si).toNat)
 case atStart=>exact ⟨0,cs0,by omega,rfl,⟨fun t ht=>by omega,fun t _ ht=>by omega⟩,hown0,hb0⟩
 case round =>
  obtain ⟨k,cs,hk,rfl,hR,ho,hbel⟩:=hrel
  by_cases hlt:k<len
  ·rcases hcase with h0 | ⟨b,off,rfl,hblt,hcell⟩
   ·omega
   have hlt2:(k:Int)<(len:Int):=by omega
   obtain ⟨a',len',cap',hc,hI⟩:=hcell k hlt
   have hrk:=hr k hlt
   rw [hI.1] at hrk
   have hc':wr.cell? ⟨b,off+k,none⟩=some (.slice a' len' cap'):=by rw [hbel.cell (p:=⟨b,_,none⟩) hblt];exact hc
   clear hcell hc
   have hIr:Instrs wr a' len' cap' (rows.getD k []):=hI.below hbel
   have hwr:=(ho.lt w.heap.size rfl).2
   go_wp2_with fail
   refine (toInstrS_copy a' len' cap' _ wr hIr hrk).mono ?_
   rintro e w1 ⟨rfl,⟨cs2,hcs2,hown2⟩,hb1⟩
   subst hcs2
   have hl':=hIr.1
   have hn2:w1.ownsRow w.heap.size 141 3 (.slice (some ⟨wr.heap.size,0,none⟩) len' len') (rows.getD k []).length (flat (rows.getD k [])):=by
    rw [hl']
    rcases hown2 with ⟨q1,q2⟩
    refine ⟨q1,?_⟩
    rcases q2 with q2 | ⟨g,cap,cur,q3,q4,q5⟩
    ·exact .inl q2
    ·exact .inr ⟨g,cap,cur,q3,by omega,q5⟩
   have hPn:∀ t,t<k→(cs.getD t undef).ownBlock≠some w.heap.size:=fun t ht=>by
    rcases owns_ne ho (hR.1 t ht) (by decide) with h | h
    ·simp [Value.ownBlock] at h
    ·exact fun e=>h (by rw [e];rfl)
   have R2:=hR.put hb1 (by have:=ho.1;omega) (Nat.le_refl _) hn2 hwr hPn
   clear hown2 hIr hI hc' hn2 hPn
   have ho1:=owns_below ho hb1
   have hbel1:Below w.heap.size w w1:=bel_trans hbel hb1
   clear ho hbel hb1 hR
   have hlen:=ho1.1
   have f0:=ho1.frozenAt k
   obtain ⟨u0,hu0⟩:∃ u,w1.cell? ⟨w.heap.size,k,none⟩=some u:=⟨_,by rw [ho1.cellAt _ (by omega)];exact List.getElem?_eq_getElem (by omega)⟩
   have R:=(ho1.stored k (.slice (some ⟨wr.heap.size,0,none⟩) len' len')).1
   have hb3:Below w.heap.size w (w1.setCell ⟨w.heap.size,k,none⟩ (.slice (some ⟨wr.heap.size,0,none⟩) len' len')):=hbel1.setCell (Nat.le_refl _) _
   clear ho1 hbel1
   generalize cs.set k (.slice (some ⟨wr.heap.size,0,none⟩) len' len')=cs' at R R2
   go_wp2
   go_roundw
   case rel=>exact ⟨k+1,cs',by omega,by go_num,R2,R,hb3⟩
   case measure=>simp [intOf];omega
  ·obtain rfl:k=len:=by omega
   clear hcase
   go_wp2
   go_ret
   exact ⟨rfl,⟨cs,by rw [hl];exact ho,by have:=ho.1;omega,fun t ht=>hR.1 t (by omega),fun t t' ht ht'=>hR.2 t t' (by omega) (by omega)⟩,hbel⟩

theorem toProgram_own (a:Option Addr) (len cap:Nat) (rows:List (List I3)) (w:World) (h:Codes w a len cap rows) (hn:len≤1048576) (hr:∀ t,t<len→(rows.getD t []).length≤1048576) :
  Calls Tryz.prog 31 #[.agg #[.slice a len cap]] w fun e w'=>e=.returned (.agg #[.slice (some ⟨w.heap.size+3,0,none⟩) len len]) ∧
   OwnProg w' (w.heap.size+3) (.slice (some ⟨w.heap.size+3,0,none⟩) len len) rows∧Below w.heap.size w w':=by
 go_enter Tryz.func31,Tryz.ntmps31
 go_wp2_with fail
 refine (toInstrSS_own _ _ _ rows _ (h.below (by go_grown)) hn hr).mono ?_
 rintro e w1 ⟨rfl,hC,hb1⟩
 have k1:w1.cell? ⟨w.heap.size+1,0,none⟩=some (.slice none 0 0):=by rw [hb1.cell (by simp)];first | (simp [go_sem];done) | (simp [World.cell?];done)
 have k2:w1.cell? ⟨w.heap.size+1+1,0,none⟩=some (.slice none 0 0):=by rw [hb1.cell (by simp)];first | (simp [go_sem];done) | (simp [World.cell?];done)
 have f1:w1.frozen? ⟨w.heap.size+1,0,none⟩=false:=by rw [hb1.frozen (by simp)];first | (simp [go_sem];done) | (simp [World.frozen?];done)
 have f2:w1.frozen? ⟨w.heap.size+1+1,0,none⟩=false:=by rw [hb1.frozen (by simp)];first | (simp [go_sem];done) | (simp [World.frozen?];done)
 have hbw:Below w.heap.size w w1:=bel_trans (by go_grown) hb1
 simp only [World.size_alloc] at hC
 rw [show w.heap.size+1+1+1=w.heap.size+3 from rfl] at hC
 clear hb1 h
 simp only [World.size_alloc]
 have k3:((w1.setCell ⟨w.heap.size+1+1,0,none⟩ (.slice (some ⟨w.heap.size+1+1+1,0,none⟩) len len)).setCell ⟨w.heap.size+1,0,none⟩ (.slice (some ⟨w.heap.size+1+1+1,0,none⟩) len len)).cell? ⟨w.heap.size+1,0,none⟩=some (.slice (some ⟨w.heap.size+1+1+1,0,none⟩) len len):=
  World.cell?_setCell_same' _ _ _ (by rw [cell_setCell_off _ _ _ (by simp),k1];rfl)
 go_wp2
 have R:=(hC.low (p:=⟨w.heap.size+1+1,0,none⟩) (by simp) (.slice (some ⟨w.heap.size+1+1+1,0,none⟩) len len)).low (p:=⟨w.heap.size+1,0,none⟩) (by simp) (.slice (some ⟨w.heap.size+1+1+1,0,none⟩) len len)
 have hb3:=(hbw.setCell (p:=⟨w.heap.size+1+1,0,none⟩) (by simp;omega) (.slice (some ⟨w.heap.size+1+1+1,0,none⟩) len len)).setCell (p:=⟨w.heap.size+1,0,none⟩) (by simp) (.slice (some ⟨w.heap.size+1+1+1,0,none⟩) len len)
 clear hC hbw k1 k2 f1 f2
 generalize (w1.setCell ⟨w.heap.size+1+1,0,none⟩ (.slice (some ⟨w.heap.size+1+1+1,0,none⟩) len len)).setCell ⟨w.heap.size+1,0,none⟩ (.slice (some ⟨w.heap.size+1+1+1,0,none⟩) len len)=w2 at k3 R hb3
 refine bodyPost_ret (by simp [results,Tryz.results31,go_sem,k3];try rfl) rfl ?_
 exact ⟨rfl,R,hb3⟩


theorem lessAll_each:∀ (rows:List (List I3)) (left:Int),0≤lessAll left rows→0≤left→∀ r ∈ rows,(r.length:Int)≤left
 | [],_,_,_,r,hr=>by cases hr
 | x::xs,left,h,h0,r,hr=>by
  unfold lessAll at h
  split at h
  ·omega
  ·rcases List.mem_cons.1 hr with rfl | hr
   ·omega
   ·have:=lessAll_each xs (left - x.length) h (by omega) r hr
    omega

theorem getD_length_le {rows:List (List I3)} {n:Nat} (h:∀ r ∈ rows,r.length≤n) (t:Nat):(rows.getD t []).length≤n:=by
 by_cases ht:t<rows.length
 ·have:rows.getD t []=rows[t]:=by simp [List.getD,ht]
  rw [this]
  exact h _ (List.getElem_mem ht)
 ·have:rows.getD t []=[]:=by simp [List.getD,List.getElem?_eq_none (Nat.le_of_not_lt ht)]
  rw [this]
  exact Nat.zero_le _

theorem size_bounds {rows:List (List I3)} {left:Int} (hm:left≤1048576) (h:0≤sizeLeft left rows) (h0:0≤left):rows.length≤1048576∧∀ t,(rows.getD t []).length≤1048576:=by
 unfold sizeLeft at h
 split at h
 ·omega
 ·refine ⟨by omega,fun t=>getD_length_le (fun r hr=>?_) t⟩
  have:=lessAll_each rows _ h (by omega) r hr
  omega

end Go.Proofs.YtjgffnlmjmibgaaGreatDoor
