/-
  Joined: Prog1, Prog2.
-/
import Derived.Handy
import Derived.OwnWalk
import Derived.Test.YtfpopbbmnbehiaaDoorA02

namespace Go.Proofs.YtfpopbbmnbehiaaDoor
set_option maxRecDepth 100000
set_option maxHeartbeats 16000000
open Go.RowKit

theorem toInstr_same (x:I3) (w:World):Calls Tryd.prog 70 #[x.val] w fun e w'=>e=.returned x.val∧Below w.heap.size w w':=by
 obtain ⟨p,q,r⟩:=x
 unfold I3.val
 go_enter Tryd.func70,Tryd.ntmps70
 go_wp2
 go_returns
 exact ⟨rfl,by go_grown⟩

theorem eqInstr_same (x:I3) (w:World):Calls Tryd.prog 75 #[x.val,x.val] w fun e w'=>e=.returned (.bool true)∧Below w.heap.size w w':=by
 obtain ⟨p,q,r⟩:=x
 unfold I3.val
 go_enter Tryd.func75,Tryd.ntmps75
 go_wp2
 go_returns
 exact ⟨rfl,by go_grown⟩

def less (left n:Int):Int:=if left - n<0 then -1 else left - n

theorem szInstrS_less (a:Option Addr) (len cap:Nat) (left:Int) (w:World) (hl:len≤maxLen) (h0:0≤left) (h1:left≤2 ^ 20) :
  Calls Tryd.prog 50 #[.slice a len cap,.int .i64 left] w fun e w'=>e=.returned (.int .i64 (less left len))∧w=w':=by
 unfold maxLen at hl
 unfold less
 go_enter Tryd.func50,Tryd.ntmps50
 by_cases h:left - len<0
 ·rw [if_pos h]
  go_wp2
  go_ret
  exact ⟨rfl,rfl⟩
 ·rw [if_neg h]
  go_wp2
  go_ret
  exact ⟨rfl,rfl⟩

def lessAll (left:Int):List (List I3)→Int
 | []=>left
 | r::rs=>if left<r.length then -1 else lessAll (left - r.length) rs

theorem lessAll_neg_or:∀ (rows:List (List I3)) (left:Int),0≤left→lessAll left rows=-1∨(0≤lessAll left rows∧lessAll left rows≤left)
 | [],left,h=>.inr ⟨h,Int.le_refl _⟩
 | r::rs,left,h=>by
  unfold lessAll
  split
  ·exact .inl rfl
  ·rcases lessAll_neg_or rs (left - r.length) (by omega) with h' | ⟨h1,h2⟩
   ·exact .inl h'
   ·exact .inr ⟨h1,by omega⟩

theorem lessAll_step {rows:List (List I3)} {k:Nat} {l:Int} (hk:k<rows.length):lessAll l (rows.drop k)=if l<(rows.getD k []).length then -1 else lessAll (l - (rows.getD k []).length) (rows.drop (k+1)):=by
 rw [List.drop_eq_getElem_cons hk]
 show (if l<(rows[k]).length then -1 else lessAll (l - (rows[k]).length) (rows.drop (k+1)))=_
 simp [List.getD,hk]

def sizeLeft (left:Int) (rows:List (List I3)):Int:=if left<rows.length then -1 else lessAll (left - rows.length) rows

theorem sizeLeft_or (rows:List (List I3)) (left:Int) (_h:0≤left):sizeLeft left rows=-1∨(0≤sizeLeft left rows∧sizeLeft left rows≤left):=by
 unfold sizeLeft
 split
 ·exact .inl rfl
 ·rcases lessAll_neg_or rows (left - rows.length) (by omega) with h' | h'
  ·exact .inl h'
  ·exact .inr ⟨h'.1,by omega⟩

theorem szInstrSS_less (a:Option Addr) (len cap:Nat) (rows:List (List I3)) (left:Int) (w:World) (h:Codes w a len cap rows) (h0:0≤left) (h1:left≤2 ^ 20) :
  Calls Tryd.prog 26 #[.slice a len cap,.int .i64 left] w fun e w'=>e=.returned (.int .i64 (sizeLeft left rows))∧Below w.heap.size w w':=by
 obtain ⟨hlen,hlc,hcm,hcase⟩:=h
 unfold maxLen at hcm
 unfold sizeLeft
 rw [hlen]
 go_enter Tryd.func26,Tryd.ntmps26
 by_cases hlt:left - len<0
 ·rw [if_pos (by omega)]
  go_wp2
  go_ret
  exact ⟨rfl,Below.refl _ _⟩
 ·rw [if_neg (by omega)]
  by_cases hz:len=0
  ·subst hz
   obtain rfl:rows=[]:=List.length_eq_zero_iff.1 hlen
   go_wp2
   refine wp_loop_rounds 1 ?_
   rw [rounds_succ]
   go_wp2
   go_ret
   exact ⟨by simp [lessAll],Below.refl _ _⟩
  ·rcases hcase with h0' | ⟨b,off,rfl,hblt,hcell⟩
   ·exact absurd h0' hz
   obtain ⟨fin,hfin⟩:∃ fin,fin=lessAll (left - len) rows:=⟨_,rfl⟩
   rw [← hfin]
   have hfin':Hid (fin=lessAll (left - len) (rows.drop 0)):=hfin
   clear hfin
   go_wp2
   go_loopw [1,5] (fun sl si wr=>∃ (k:Nat) (l:Int),k≤len∧si=.int .i64 k∧sl=.int .i64 l∧0≤l∧l≤2 ^ 20∧Hid (fin=lessAll l (rows.drop k))∧Below w.heap.size w wr) (fun _ si _=>len - (intOf si).toNat)
   case atStart=>exact ⟨0,left - len,by omega,rfl,by go_num,by omega,by omega,hfin',Below.refl _ _⟩
   case round =>
    obtain ⟨k,l,hk,rfl,rfl,hl0,hl1,hH,hb⟩:=hrel
    by_cases hlt':k<len
    ·obtain ⟨a',len',cap',hc,hi⟩:=hcell k hlt'
     have hr:(rows.getD k []).length=len':=hi.1
     have hm:len'≤maxLen:=Nat.le_trans hi.2.1 hi.2.2.1
     have hc':wr.cell? ⟨b,off+k,none⟩=some (.slice a' len' cap'):=by rw [hb.cell (p:=⟨b,_,none⟩) hblt];exact hc
     have hst:=lessAll_step (rows:=rows) (k:=k) (l:=l) (by omega)
     rw [hr] at hst
     have hst':Hid (lessAll l (rows.drop k)=if l<len' then -1 else lessAll (l - len') (rows.drop (k+1))):=hst
     clear hst hcell hc hi hr
     have hlt2:(k:Int)<(len:Int):=by omega
     by_cases hll:l - len'<0
     ·have hless:less l len'=-1:=if_pos hll
      have hff:fin=-1:=by rw [hH.out,hst'.out,if_pos (by omega)]
      subst hff
      clear hH hst'
      go_wp2_with (go_at_call 50;refine (szInstrS_less _ _ _ _ _ hm hl0 hl1).mono ?_;rintro e w1 ⟨rfl,rfl⟩;rw [hless])
      go_ret
      exact ⟨rfl,hb⟩
     ·have hless:less l len'=l - len':=if_neg hll
      have hH':Hid (fin=lessAll (l - len') (rows.drop (k+1))):=by rw [Hid,hH.out,hst'.out,if_neg (by omega)]
      clear hH hst'
      go_wp2_with (go_at_call 50;refine (szInstrS_less _ _ _ _ _ hm hl0 hl1).mono ?_;rintro e w1 ⟨rfl,rfl⟩;rw [hless])
      go_roundw
      case rel=>exact ⟨k+1,l - len',by omega,by go_num,rfl,by omega,by omega,hH',hb⟩
      case measure=>simp [intOf];omega
    ·obtain rfl:k=len:=by omega
     have hd:lessAll l (rows.drop k)=l:=by rw [List.drop_eq_nil_of_le (by omega)];rfl
     have hff:l=fin:=(hH.out.trans hd).symm
     subst hff
     clear hH hd hcell
     go_wp2
     go_ret
     exact ⟨rfl,hb⟩

theorem szProgram_less (a:Option Addr) (len cap:Nat) (rows:List (List I3)) (left:Int) (w:World) (h:Codes w a len cap rows) (h0:0≤left) (h1:left≤2 ^ 20) :
  Calls Tryd.prog 7 #[.agg #[.slice a len cap],.int .i64 left] w fun e w'=>e=.returned (.int .i64 (sizeLeft left rows))∧Below w.heap.size w w':=by
 obtain ⟨fin,hfin⟩:∃ fin,fin=sizeLeft left rows:=⟨_,rfl⟩
 rcases (hfin▸sizeLeft_or rows left h0:fin=-1∨0≤fin∧fin≤left) with hf | ⟨hf,hf'⟩
 ·rw [← hfin]
  subst hf
  go_enter Tryd.func7,Tryd.ntmps7
  go_wp2_with (go_at_call 26;refine (szInstrSS_less _ _ _ rows _ _ (h.below (by go_grown)) h0 h1).mono ?_;rw [← hfin];clear hfin;rintro e w1 ⟨rfl,hb1⟩)
  go_ret
  exact ⟨rfl,bel_trans (by go_grown) hb1⟩
 ·rw [← hfin]
  go_enter Tryd.func7,Tryd.ntmps7
  go_wp2_with (go_at_call 26;refine (szInstrSS_less _ _ _ rows _ _ (h.below (by go_grown)) h0 h1).mono ?_;rw [← hfin];clear hfin;rintro e w1 ⟨rfl,hb1⟩)
  go_ret
  exact ⟨rfl,bel_trans (by go_grown) hb1⟩


def I3.cells (x:I3):List Value:=[.int .i64 x.1,.int .i64 x.2.1,.int .i64 x.2.2]

def flat (xs:List I3):List Value:=xs.flatMap I3.cells

theorem flat_length (xs:List I3):(flat xs).length=xs.length*3:=by
 induction xs with
 | nil=>rfl
 | cons x xs ih=>simp [flat,I3.cells] at *;omega

theorem flat_take_succ {xs:List I3} {k:Nat} (hk:k<xs.length):flat (xs.take (k+1))=flat (xs.take k)++(xs.getD k (0,0,0)).cells:=by
 unfold flat
 rw [List.take_succ_eq_append_getElem hk,List.flatMap_append]
 simp [List.getD,hk,I3.cells]

theorem set3_take {cs l:List Value} {k:Nat} (a b c:Value) (hl:k*3+3≤cs.length) (ht:cs.take (k*3)=l) :
  (((cs.set (k*3) a).set (k*3+1) b).set (k*3+2) c).take ((k+1)*3)=l++[a,b,c]:=by
 have hll:l.length=k*3:=by rw [← ht,List.length_take];omega
 obtain ⟨x,y,z,rest,hd⟩:∃ x y z rest,cs.drop (k*3)=x::y::z::rest:=by
  match h:cs.drop (k*3),(by rw [List.length_drop];omega:3≤(cs.drop (k*3)).length) with
  | x::y::z::rest,_=>exact ⟨x,y,z,rest,rfl⟩
 have hcs:cs=l++x::y::z::rest:=by rw [← ht,← hd,List.take_append_drop]
 rw [hcs,← hll,List.set_append_right _ _ (Nat.le_refl _),List.set_append_right _ _ (by omega),List.set_append_right _ _ (by omega)]
 rw [show (k+1)*3=l.length+3 by omega,List.take_length_add_append]
 simp [show l.length+1 - l.length=1 by omega,show l.length+2 - l.length=2 by omega]

theorem Instrs.of_owns {w:World} {base e n cap g:Nat} {cs:List Value} {xs:List I3} (h:w.ownsRow base e 3 (.slice (some ⟨g,0,none⟩) n cap) n cs) (hl:xs.length=n) (hf:∀ x ∈ xs,I3.fits x) (hcs:cs=flat xs) :
  Instrs w (some ⟨g,0,none⟩) n cap xs:=by
 have hcell:∀ t,t<n→∀ j,j<3→w.cell? ⟨g,t*3+j,none⟩=((xs.getD t (0,0,0)).cells)[j]?:=by
  intro t ht j hj
  rw [h.cellAt (t*3+j) (by omega),hcs]
  have hsplit:flat xs=flat (xs.take t)++((xs.getD t (0,0,0)).cells++flat (xs.drop (t+1))):=by
   rw [← List.append_assoc,← flat_take_succ (by omega)]
   unfold flat
   rw [← List.flatMap_append,List.take_append_drop]
  have hlt:(flat (xs.take t)).length=t*3:=by rw [flat_length,List.length_take];rw [Nat.min_eq_left (by omega)]
  rw [hsplit,List.getElem?_append_right (by omega),hlt,Nat.add_sub_cancel_left,List.getElem?_append_left (by simp [I3.cells];omega)]
 have hg:=(h.lt g rfl).2
 rcases h.2 with ⟨h0,_⟩ | ⟨g',cap',cur,hv,_,_,hn,hcap,_,_⟩
 ·cases h0
 ·cases hv
  exact ⟨hl,hn,hcap,hf,.inr ⟨g,0,rfl,hg,fun t ht=>⟨by simpa [I3.cells] using hcell t ht 0 (by omega),by simpa [I3.cells] using hcell t ht 1 (by omega),by simpa [I3.cells] using hcell t ht 2 (by omega)⟩⟩⟩

theorem info_instr:(Tryd.prog.info? 103).map (fun i=>(i.zero,i.size,i.bytes))=some (some (.agg #[.int .i64 0,.int .i64 0,.int .i64 0]),3,24):=by kernel_rfl

theorem owns_below {B e k n:Nat} {v:Value} {xs:List Value} {w w':World} (h:w.ownsRow B e k v n xs) (hb:Below w.heap.size w w'):w'.ownsRow B e k v n xs:=by
 refine ⟨h.1,?_⟩
 rcases h.2 with h0 | ⟨g,cap,cur,hv,hB,hg,rest⟩
 ·exact .inl h0
 ·have hlt:g<w.heap.size:=by
   rcases Nat.lt_or_ge g w.heap.size with h' | h'
   ·exact h'
   ·simp [Array.getElem?_eq_none h'] at hg
  exact .inr ⟨g,cap,cur,hv,hB,by rw [hb.block g hlt];exact hg,rest⟩

theorem toInstrS_copy (a:Option Addr) (len cap:Nat) (xs:List I3) (w:World) (h:Instrs w a len cap xs) (hn:len≤1048576) :
  Calls Tryd.prog 54 #[.slice a len cap] w fun e w'=>e=.returned (.slice (some ⟨w.heap.size,0,none⟩) len len) ∧
   (∃ cs,cs=flat xs∧w'.ownsRow w.heap.size 103 3 (.slice (some ⟨w.heap.size,0,none⟩) len len) len cs)∧Below w.heap.size w w':=by
 obtain ⟨i0,hi,hz0,hz1,hz2⟩:=info_parts info_instr
 have hI:=h
 obtain ⟨hl,hlc,hcm,hfit,hcase⟩:=h
 unfold maxLen at hcm
 go_enter Tryd.func54,Tryd.ntmps54
 go_wp2_with (at_make;refine wpList_make_full _ rfl _ _ 67 rfl w.heap.size 103 i0 (.agg #[.int .i64 0,.int .i64 0,.int .i64 0]) 3 Tryd.underlying67 hi hz0 hz1 _ _ _ _ len rfl rfl (by omega) (by omega) ?b2 ?b3 (Nat.le_refl _) ?_)
 case b2=>rw [hz2];omega
 case b3=>unfold maxLen;omega
 intro w0 hown0 hgrow0
 have hb0:Below w.heap.size w w0:=(Below.refl _ _).grown hgrow0 (Nat.le_refl _) (fun k h=>by cases h)
 obtain ⟨cs0,hcs0⟩:∃ cs0,cs0=(madeCells #[Value.int .i64 0,.int .i64 0,.int .i64 0] (len*3)).toList:=⟨_,rfl⟩
 rw [← hcs0] at hown0
 clear hgrow0 hcs0
 go_wp2
 go_loopw [4] (fun si wr=>∃ (k:Nat) (cs:List Value),k≤len∧si=.int .i64 k∧Hid (cs.take (k*3)=flat (xs.take k))∧wr.ownsRow w.heap.size 103 3 (.slice (some ⟨w.heap.size,0,none⟩) len len) len cs∧Below w.heap.size w wr) (fun si _=>len - (intOf si).toNat)
 case atStart=>exact ⟨0,cs0,by omega,rfl,by simp [Hid,flat],hown0,hb0⟩
 case round =>
  obtain ⟨k,cs,hk,rfl,hH,ho,hbel⟩:=hrel
  by_cases hlt:k<len
  ·rcases hcase with h0 | ⟨b,off,rfl,hblt,hcell⟩
   ·omega
   have hlt2:(k:Int)<(len:Int):=by omega
   obtain ⟨c0,c1,c2⟩:=hcell k hlt
   have hstep:=flat_take_succ (xs:=xs) (k:=k) (by omega)
   have hstep':Hid (flat (xs.take (k+1))=flat (xs.take k)++(xs.getD k (0,0,0)).cells):=hstep
   clear hstep hcell
   generalize xs.getD k (0,0,0)=x at c0 c1 c2 hstep'
   have d0:wr.cell? ⟨b,off+k*3,none⟩=some (.int .i64 x.1):=by rw [hbel.cell (p:=⟨b,_,none⟩) hblt];exact c0
   have d1:wr.cell? ⟨b,off+k*3+1,none⟩=some (.int .i64 x.2.1):=by rw [hbel.cell (p:=⟨b,_,none⟩) hblt];exact c1
   have d2:wr.cell? ⟨b,off+k*3+2,none⟩=some (.int .i64 x.2.2):=by rw [hbel.cell (p:=⟨b,_,none⟩) hblt];exact c2
   clear c0 c1 c2
   go_wp2_with fail
   refine (toInstr_same x wr).mono ?_
   rintro e w1 ⟨rfl,hb1⟩
   clear d0 d1 d2
   have ho1:=owns_below ho hb1
   have hbel1:Below w.heap.size w w1:=bel_trans hbel hb1
   clear ho hbel hb1
   obtain ⟨x0,x1,x2⟩:=x
   have hlen:=ho1.1
   have f0:=ho1.frozenAt (k*3)
   have f1:=ho1.frozenAt (k*3+1)
   have f2:=ho1.frozenAt (k*3+2)
   obtain ⟨u0,hu0⟩:∃ u,w1.cell? ⟨w.heap.size,k*3,none⟩=some u:=⟨_,by rw [ho1.cellAt _ (by omega)];exact List.getElem?_eq_getElem (by omega)⟩
   obtain ⟨u1,hu1⟩:∃ u,w1.cell? ⟨w.heap.size,k*3+1,none⟩=some u:=⟨_,by rw [ho1.cellAt _ (by omega)];exact List.getElem?_eq_getElem (by omega)⟩
   obtain ⟨u2,hu2⟩:∃ u,w1.cell? ⟨w.heap.size,k*3+2,none⟩=some u:=⟨_,by rw [ho1.cellAt _ (by omega)];exact List.getElem?_eq_getElem (by omega)⟩
   have R:=(((ho1.stored (k*3) (.int .i64 x0)).1.stored (k*3+1) (.int .i64 x1)).1.stored (k*3+2) (.int .i64 x2)).1
   have hT:Hid ((((cs.set (k*3) (.int .i64 x0)).set (k*3+1) (.int .i64 x1)).set (k*3+2) (.int .i64 x2)).take ((k+1)*3)=flat (xs.take (k+1))):=by
    rw [Hid,hstep'.out]
    exact set3_take _ _ _ (by omega) hH.out
   have hb3:Below w.heap.size w (((w1.setCell ⟨w.heap.size,k*3,none⟩ (.int .i64 x0)).setCell ⟨w.heap.size,k*3+1,none⟩ (.int .i64 x1)).setCell ⟨w.heap.size,k*3+2,none⟩ (.int .i64 x2)):=
    ((hbel1.setCell (Nat.le_refl _) _).setCell (Nat.le_refl _) _).setCell (Nat.le_refl _) _
   clear hH hstep' ho1 hbel1
   generalize ((cs.set (k*3) (.int .i64 x0)).set (k*3+1) (.int .i64 x1)).set (k*3+2) (.int .i64 x2)=cs' at R hT
   unfold I3.val
   go_wp2
   go_roundw
   case rel=>exact ⟨k+1,cs',by omega,by go_num,hT,R,hb3⟩
   case measure=>simp [intOf];omega
  ·obtain rfl:k=len:=by omega
   clear hcase hI
   go_wp2
   go_ret
   refine ⟨rfl,⟨cs,?_,ho⟩,hbel⟩
   have h1:=hH.out
   have h2:=ho.1
   rwa [List.take_of_length_le (by omega),List.take_of_length_le (by omega)] at h1
end Go.Proofs.YtfpopbbmnbehiaaDoor
