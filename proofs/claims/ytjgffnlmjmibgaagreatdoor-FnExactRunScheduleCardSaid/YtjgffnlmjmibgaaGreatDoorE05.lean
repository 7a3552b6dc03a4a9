/-
  Joined: Ints, Prog2.
-/
import Derived.OwnWalk
import Derived.Test.YtjgffnlmjmibgaaGreatDoorE03

namespace Go.Proofs.YtjgffnlmjmibgaaGreatDoor
set_option maxRecDepth 100000
set_option maxHeartbeats 16000000
open Go.RowKit

theorem set_step:∀ (zs:List Int) (len k:Nat),k<len→zs.length=len→(zs.take k++List.replicate (len - k) 0).set k (zs.getD k 0)=zs.take (k+1)++List.replicate (len - (k+1)) 0
 | [],len,k,hk,hl=>by simp at hl;omega
 | z::zs,len,0,_,hl=>by
  obtain ⟨n,rfl⟩:∃ n,len=n+1:=⟨len - 1,by simp at hl;omega⟩
  simp [List.replicate_succ]
 | z::zs,len,k+1,hk,hl=>by
  obtain ⟨n,rfl⟩:∃ n,len=n+1:=⟨len - 1,by omega⟩
  have ih:=set_step zs n k (by omega) (by simpa using hl)
  simp only [Nat.add_sub_add_right,List.take_succ_cons,List.cons_append,List.set_cons_succ,List.getD_cons_succ,ih]

theorem toIntS_any (a:Option Addr) (len cap:Nat) (zs:List Int) (w:World) (h:Ints .i64 w a len cap zs) (hlen:len≤1048576) :
  Calls Tryz.prog 32 #[.slice a len cap] w fun e w'=>e=.returned (.slice (some ⟨w.heap.size,0,none⟩) len len) ∧
   w'.ownsRow w.heap.size 3 1 (.slice (some ⟨w.heap.size,0,none⟩) len len) len (zs.map (Value.int .i64))∧Below w.heap.size w w':=by
 obtain ⟨i0,hi,hz0,hz1,hz2⟩:=info_parts info_int
 obtain ⟨hl,hlc,hcm,hcase⟩:=h
 unfold maxLen at hcm
 rcases hcase with h0 | ⟨b,off,rfl,hblt,hcell⟩
 ·subst h0
  have hz:zs=[]:=by simpa using hl
  subst hz
  go_enter Tryz.func32,Tryz.ntmps32
  go_wp2_with (at_make;refine wpList_make_full _ rfl _ _ 27 rfl w.heap.size 3 i0 (.int .i64 0) 1 Tryz.underlying27 hi hz0 hz1 _ _ _ _ 0 rfl rfl (by omega) (by omega) ?b2 ?b3 (Nat.le_refl _) ?_)
  case b2=>omega
  case b3=>unfold maxLen;omega
  intro w0 hown0 hgrow0
  have hb0:Below w.heap.size w w0:=(Below.refl _ _).grown hgrow0 (Nat.le_refl _) (fun k h=>by cases h)
  rw [made_ints] at hown0
  clear hgrow0
  go_wp2
  refine wp_loop_rounds 1 ?_
  rw [rounds_succ]
  go_wp2
  go_ret
  exact ⟨rfl,hown0,hb0⟩
 ·go_enter Tryz.func32,Tryz.ntmps32
  go_wp2_with (at_make;refine wpList_make_full _ rfl _ _ 27 rfl w.heap.size 3 i0 (.int .i64 0) 1 Tryz.underlying27 hi hz0 hz1 _ _ _ _ len rfl rfl (by omega) (by omega) ?b2 ?b3 (Nat.le_refl _) ?_)
  case b2=>rw [hz2];omega
  case b3=>unfold maxLen;omega
  intro w0 hown0 hgrow0
  have hb0:Below w.heap.size w w0:=(Below.refl _ _).grown hgrow0 (Nat.le_refl _) (fun k h=>by cases h)
  rw [made_ints] at hown0
  clear hgrow0
  go_wp2
  go_loopw [4] (fun si wr=>∃ k:Nat,k≤len∧si=.int .i64 k∧wr.ownsRow w.heap.size 3 1 (.slice (some ⟨w.heap.size,0,none⟩) len len) len ((zs.take k++List.replicate (len - k) (0:Int)).map (Value.int .i64))∧Below w.heap.size w wr) (fun si _=>len - (intOf si).toNat)
  case atStart=>exact ⟨0,by omega,rfl,by simpa using hown0,hb0⟩
  case round =>
   obtain ⟨k,hk,rfl,ho,hbel⟩:=hrel
   by_cases hlt:k<len
   ·have hc:wr.cell? ⟨b,off+k,none⟩=some (.int .i64 (zs.getD k 0)):=by rw [hbel.cell (p:=⟨b,off+k,none⟩) hblt];exact hcell k hlt
    have hf:=ho.frozenAt k
    have hst:=ho.stored k (.int .i64 (zs.getD k 0))
    have hold:∃ u,wr.cell? ⟨w.heap.size,k,none⟩=some u:=by
     have:=ho.cellAt k (by omega)
     rw [this]
     exact ⟨_,List.getElem?_eq_getElem (by simp;omega)⟩
    obtain ⟨u,hu⟩:=hold
    have R:(wr.setCell ⟨w.heap.size,k,none⟩ (.int .i64 (zs.getD k 0))).ownsRow w.heap.size 3 1 (.slice (some ⟨w.heap.size,0,none⟩) len len) len ((zs.take (k+1)++List.replicate (len - (k+1)) (0:Int)).map (Value.int .i64)):=by
     have:=hst.1
     rw [← List.map_set,set_step zs len k hlt hl] at this
     exact this
    have hb1:Below w.heap.size w (wr.setCell ⟨w.heap.size,k,none⟩ (.int .i64 (zs.getD k 0))):=hbel.setCell (Nat.le_refl _) _
    clear hst ho
    generalize zs.getD k 0=x at hc R hb1
    go_wp2
    go_roundw
    case rel=>exact ⟨k+1,by omega,by go_num,R,hb1⟩
    case measure=>simp [intOf];omega
   ·obtain rfl:k=len:=by omega
    go_wp2
    go_ret
    refine ⟨rfl,?_,hbel⟩
    have e:zs.take k++List.replicate (k - k) (0:Int)=zs:=by rw [Nat.sub_self];simp [List.take_of_length_le (Nat.le_of_eq hl)]
    rw [e] at ho
    exact ho


def I3.cells (x:I3):List Value:=[.int .i64 x.1,.int .i64 x.2.1,.int .i64 x.2.2]

def flat (xs:List I3):List Value:=xs.flatMap I3.cells

theorem flat_length (xs:List I3):(flat xs).length=xs.length*3:=by
 induction xs with
 | nil=>rfl
 | cons x xs ih=>simp [flat,I3.cells] at *;omega

theorem flat_take_succ {xs:List I3} {k:Nat} (hk:k<xs.length):flat (xs.take (k+1))=flat (xs.take k)++(xs.getD k (0,0,0)).cells:=by
 unfold flat
 rw [List.take_succ_eq_append_getElem hk,List.flatMap_append]
 simp [List.getD,hk,I3.cells]

theorem set3_take {cs l:List Value} {k:Nat} (a b c:Value) (hl:k*3+3≤cs.length) (ht:cs.take (k*3)=l) :
  (((cs.set (k*3) a).set (k*3+1) b).set (k*3+2) c).take ((k+1)*3)=l++[a,b,c]:=by
 have hll:l.length=k*3:=by rw [← ht,List.length_take];omega
 obtain ⟨x,y,z,rest,hd⟩:∃ x y z rest,cs.drop (k*3)=x::y::z::rest:=by
  match h:cs.drop (k*3),(by rw [List.length_drop];omega:3≤(cs.drop (k*3)).length) with
  | x::y::z::rest,_=>exact ⟨x,y,z,rest,rfl⟩
 have hcs:cs=l++x::y::z::rest:=by rw [← ht,← hd,List.take_append_drop]
 rw [hcs,← hll,List.set_append_right _ _ (Nat.le_refl _),List.set_append_right _ _ (by omega),List.set_append_right _ _ (by omega)]
 rw [show (k+1)*3=l.length+3 by omega,List.take_length_add_append]
 simp [show l.length+1 - l.length=1 by omega,show l.length+2 - l.length=2 by omega]

theorem Instrs.of_owns {w:World} {base e n cap g:Nat} {cs:List Value} {xs:List I3} (h:w.ownsRow base e 3 (.slice (some ⟨g,0,none⟩) n cap) n cs) (hl:xs.length=n) (hf:∀ x ∈ xs,I3.fits x) (hcs:cs=flat xs) :
  Instrs w (some ⟨g,0,none⟩) n cap xs:=by
 have hcell:∀ t,t<n→∀ j,j<3→w.cell? ⟨g,t*3+j,none⟩=((xs.getD t (0,0,0)).cells)[j]?:=by
  intro t ht j hj
  rw [h.cellAt (t*3+j) (by omega),hcs]
  have hsplit:flat xs=flat (xs.take t)++((xs.getD t (0,0,0)).cells++flat (xs.drop (t+1))):=by
   rw [← List.append_assoc,← flat_take_succ (by omega)]
   unfold flat
   rw [← List.flatMap_append,List.take_append_drop]
  have hlt:(flat (xs.take t)).length=t*3:=by rw [flat_length,List.length_take];rw [Nat.min_eq_left (by omega)]
  rw [hsplit,List.getElem?_append_right (by omega),hlt,Nat.add_sub_cancel_left,List.getElem?_append_left (by simp [I3.cells];omega)]
 have hg:=(h.lt g rfl).2
 rcases h.2 with ⟨h0,_⟩ | ⟨g',cap',cur,hv,_,_,hn,hcap,_,_⟩
 ·cases h0
 ·cases hv
  exact ⟨hl,hn,hcap,hf,.inr ⟨g,0,rfl,hg,fun t ht=>⟨by simpa [I3.cells] using hcell t ht 0 (by omega),by simpa [I3.cells] using hcell t ht 1 (by omega),by simpa [I3.cells] using hcell t ht 2 (by omega)⟩⟩⟩

theorem info_instr:(Tryz.prog.info? 141).map (fun i=>(i.zero,i.size,i.bytes))=some (some (.agg #[.int .i64 0,.int .i64 0,.int .i64 0]),3,24):=by kernel_rfl

theorem owns_below {B e k n:Nat} {v:Value} {xs:List Value} {w w':World} (h:w.ownsRow B e k v n xs) (hb:Below w.heap.size w w'):w'.ownsRow B e k v n xs:=by
 refine ⟨h.1,?_⟩
 rcases h.2 with h0 | ⟨g,cap,cur,hv,hB,hg,rest⟩
 ·exact .inl h0
 ·have hlt:g<w.heap.size:=by
   rcases Nat.lt_or_ge g w.heap.size with h' | h'
   ·exact h'
   ·simp [Array.getElem?_eq_none h'] at hg
  exact .inr ⟨g,cap,cur,hv,hB,by rw [hb.block g hlt];exact hg,rest⟩

theorem toInstrS_copy (a:Option Addr) (len cap:Nat) (xs:List I3) (w:World) (h:Instrs w a len cap xs) (hn:len≤1048576) :
  Calls Tryz.prog 136 #[.slice a len cap] w fun e w'=>e=.returned (.slice (some ⟨w.heap.size,0,none⟩) len len) ∧
   (∃ cs,cs=flat xs∧w'.ownsRow w.heap.size 141 3 (.slice (some ⟨w.heap.size,0,none⟩) len len) len cs)∧Below w.heap.size w w':=by
 obtain ⟨i0,hi,hz0,hz1,hz2⟩:=info_parts info_instr
 have hI:=h
 obtain ⟨hl,hlc,hcm,hfit,hcase⟩:=h
 unfold maxLen at hcm
 go_enter Tryz.func136,Tryz.ntmps136
 go_wp2_with (at_make;refine wpList_make_full _ rfl _ _ 73 rfl w.heap.size 141 i0 (.agg #[.int .i64 0,.int .i64 0,.int .i64 0]) 3 Tryz.underlying73 hi hz0 hz1 _ _ _ _ len rfl rfl (by omega) (by omega) ?b2 ?b3 (Nat.le_refl _) ?_)
 case b2=>rw [hz2];omega
 case b3=>unfold maxLen;omega
 intro w0 hown0 hgrow0
 have hb0:Below w.heap.size w w0:=(Below.refl _ _).grown hgrow0 (Nat.le_refl _) (fun k h=>by cases h)
 obtain ⟨cs0,hcs0⟩:∃ cs0,cs0=(madeCells #[Value.int .i64 0,.int .i64 0,.int .i64 0] (len*3)).toList:=⟨_,rfl⟩
 rw [← hcs0] at hown0
 clear hgrow0 hcs0
 go_wp2
 go_loopw [4] (fun si wr=>∃ (k:Nat) (cs:List Value),k≤len∧si=.int .i64 k∧Hid (cs.take (k*3)=flat (xs.take k))∧wr.ownsRow w.heap.size 141 3 (.slice (some ⟨w.heap.size,0,none⟩) len len) len cs∧Below w.heap.size w wr) (fun si _=>len - (intOf si).toNat)
 case atStart=>exact ⟨0,cs0,by omega,rfl,by simp [Hid,flat],hown0,hb0⟩
 case round =>
  obtain ⟨k,cs,hk,rfl,hH,ho,hbel⟩:=hrel
  by_cases hlt:k<len
  ·rcases hcase with h0 | ⟨b,off,rfl,hblt,hcell⟩
   ·omega
   have hlt2:(k:Int)<(len:Int):=by omega
   obtain ⟨c0,c1,c2⟩:=hcell k hlt
   have hstep:=flat_take_succ (xs:=xs) (k:=k) (by omega)
   have hstep':Hid (flat (xs.take (k+1))=flat (xs.take k)++(xs.getD k (0,0,0)).cells):=hstep
   clear hstep hcell
   generalize xs.getD k (0,0,0)=x at c0 c1 c2 hstep'
   have d0:wr.cell? ⟨b,off+k*3,none⟩=some (.int .i64 x.1):=by rw [hbel.cell (p:=⟨b,_,none⟩) hblt];exact c0
   have d1:wr.cell? ⟨b,off+k*3+1,none⟩=some (.int .i64 x.2.1):=by rw [hbel.cell (p:=⟨b,_,none⟩) hblt];exact c1
   have d2:wr.cell? ⟨b,off+k*3+2,none⟩=some (.int .i64 x.2.2):=by rw [hbel.cell (p:=⟨b,_,none⟩) hblt];exact c2
   clear c0 c1 c2
   go_wp2_with fail
   refine (toInstr_same x wr).mono ?_
   rintro e w1 ⟨rfl,hb1⟩
   clear d0 d1 d2
   have ho1:=owns_below ho hb1
   have hbel1:Below w.heap.size w w1:=bel_trans hbel hb1
   clear ho hbel hb1
   obtain ⟨x0,x1,x2⟩:=x
   have hlen:=ho1.1
   have f0:=ho1.frozenAt (k*3)
   have f1:=ho1.frozenAt (k*3+1)
   have f2:=ho1.frozenAt (k*3+2)
   obtain ⟨u0,hu0⟩:∃ u,w1.cell? ⟨w.heap.size,k*3,none⟩=some u:=⟨_,by rw [ho1.cellAt _ (by omega)];exact List.getElem?_eq_getElem (by omega)⟩
   obtain ⟨u1,hu1⟩:∃ u,w1.cell? ⟨w.heap.size,k*3+1,none⟩=some u:=⟨_,by rw [ho1.cellAt _ (by omega)];exact List.getElem?_eq_getElem (by omega)⟩
   obtain ⟨u2,hu2⟩:∃ u,w1.cell? ⟨w.heap.size,k*3+2,none⟩=some u:=⟨_,by rw [ho1.cellAt _ (by omega)];exact List.getElem?_eq_getElem (by omega)⟩
   have R:=(((ho1.stored (k*3) (.int .i64 x0)).1.stored (k*3+1) (.int .i64 x1)).1.stored (k*3+2) (.int .i64 x2)).1
   have hT:Hid ((((cs.set (k*3) (.int .i64 x0)).set (k*3+1) (.int .i64 x1)).set (k*3+2) (.int .i64 x2)).take ((k+1)*3)=flat (xs.take (k+1))):=by
    rw [Hid,hstep'.out]
    exact set3_take _ _ _ (by omega) hH.out
   have hb3:Below w.heap.size w (((w1.setCell ⟨w.heap.size,k*3,none⟩ (.int .i64 x0)).setCell ⟨w.heap.size,k*3+1,none⟩ (.int .i64 x1)).setCell ⟨w.heap.size,k*3+2,none⟩ (.int .i64 x2)):=
    ((hbel1.setCell (Nat.le_refl _) _).setCell (Nat.le_refl _) _).setCell (Nat.le_refl _) _
   clear hH hstep' ho1 hbel1
   generalize ((cs.set (k*3) (.int .i64 x0)).set (k*3+1) (.int .i64 x1)).set (k*3+2) (.int .i64 x2)=cs' at R hT
   unfold I3.val
   go_wp2
   go_roundw
   case rel=>exact ⟨k+1,cs',by omega,by go_num,hT,R,hb3⟩
   case measure=>simp [intOf];omega
  ·obtain rfl:k=len:=by omega
   clear hcase hI
   go_wp2
   go_ret
   refine ⟨rfl,⟨cs,?_,ho⟩,hbel⟩
   have h1:=hH.out
   have h2:=ho.1
   rwa [List.take_of_length_le (by omega),List.take_of_length_le (by omega)] at h1
end Go.Proofs.YtjgffnlmjmibgaaGreatDoor
