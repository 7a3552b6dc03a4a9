/-
  Joined: ErrLaid, RecZ, Take, Read, NumOK.
-/
import Derived.LaidHandle
import Derived.Laws.RangeString
import Derived.Laws.RangeAny
import Derived.Laws.Bits
import Derived.LoopTactic
import Derived.Laws.Runes
import Derived.Test.YtdopgkbegjfhjaaGreatDoorL04
import Derived.Test.YtdopgkbegjfhjaaGreatDoorL06

namespace Go.Proofs.YtdopgkbegjfhjaaGreatDoor
set_option maxRecDepth 100000
set_option maxHeartbeats 16000000
open Go.RowKit

theorem et_global:Tryz.prog.globalNamed "errors.errorType"=some 1:=by kernel_rfl
theorem et_rt:(Tryz.prog.cutTypes.find? (·.1 == "internal/reflectlite.rtype")).map (·.2)=some 225:=by kernel_rfl
theorem et_size:Tryz.prog.types.size=270:=by kernel_rfl
theorem et_oneRow:((List.range 270).filter fun t=>Tryz.prog.rowNamed t [101,114,114,111,114])=[163]:=by kernel_rfl
theorem et_handle:typeHandle Tryz.prog 163=.pointer (some ⟨5,163,none⟩):=by kernel_rfl

theorem errType_of_laid {W:World} {l:List (String × DataW Unit)} (hl:l=[("errors.errorType",Rows.laid_errors_errorType)]) (h:laidMetH Tryz.prog l W):ErrType W:=by
 subst hl
 have h':laidMet Tryz.prog [] W∧handlesMet Tryz.prog [("errors.errorType",Rows.laid_errors_errorType)] W:=h
 obtain ⟨name,u,ty,e1,e2,e3,e4,e5⟩:=h'.2 _ (List.mem_singleton.2 rfl)
 have en:name=[101,114,114,111,114]:=(Option.some.inj e1).symm
 subst en
 obtain rfl:=Option.some.inj (et_rt.symm.trans e2)
 have hm:ty ∈ (List.range 270).filter fun t=>Tryz.prog.rowNamed t [101,114,114,111,114]:=List.mem_filter.2 ⟨List.mem_range.2 (by rw [← et_size];exact e3),e4⟩
 rw [et_oneRow] at hm
 obtain rfl:=List.mem_singleton.1 hm
 rw [et_handle] at e5
 unfold ErrType
 simpa using World.var?_cell et_global e5 0

set_option linter.unusedVariables false

theorem laid_parts13 {W:World} {a b c e:String × DataW Unit} (ha:a.2.handleName?=none) (hb:b.2.handleName?=none) (hc:c.2.handleName?=none) (he:e.2.handleName?=none) {d:String × DataW Unit} (hd:d.2.handleName?.isSome=true)
  (h:laidMetH Tryz.prog [a,b,c,d,e] W):laidMetH Tryz.prog [d] W∧laidMet Tryz.prog [e] W:=by
 have hd':d.2.handleName?.isNone=false:=by cases hq:d.2.handleName? with | none=>rw [hq] at hd;cases hd | some _=>rfl
 have f1:([a,b,c,d,e].filter fun x=>x.2.handleName?.isSome)=[d]:=by simp [List.filter,ha,hb,hc,he,hd]
 have f2:([a,b,c,d,e].filter fun x=>x.2.handleName?.isNone)=[a,b,c,e]:=by simp [List.filter,ha,hb,hc,he,hd']
 have g1:([d].filter fun x=>x.2.handleName?.isSome)=[d]:=by simp [List.filter,hd]
 have g2:([d].filter fun x=>x.2.handleName?.isNone)=[]:=by simp [List.filter,hd']
 unfold laidMetH at h ⊢
 rw [f1] at h
 rw [g1]
 simp only at h ⊢
 rw [f2] at h
 rw [g2]
 exact ⟨⟨h.1.tail.tail.tail.tail,h.2⟩,h.1.tail.tail.tail⟩
theorem laidH_of13 {W:World} {e:String × DataW Unit} (he:e.2.handleName?=none) (h:laidMet Tryz.prog [e] W):laidMetH Tryz.prog [e] W:=by
 have f6:([e].filter fun x=>x.2.handleName?.isSome)=[]:=by simp [List.filter,he]
 unfold laidMetH
 rw [f6]
 exact h
theorem laid_five13 {W:World} {a b c d e:String × DataW Unit} (ha:a.2.handleName?=none) (hb:b.2.handleName?=none) (hc:c.2.handleName?=none) (he:e.2.handleName?=none) (hd:d.2.handleName?.isSome=true)
  (h:laidMetH Tryz.prog [a,b,c,d,e] W):laidMetH Tryz.prog [d] W∧laidMetH Tryz.prog [e] W:=
 ⟨(laid_parts13 ha hb hc he hd h).1,laidH_of13 he (laid_parts13 ha hb hc he hd h).2⟩
def LogVars (w:World):Prop:=VmShape w∧ErrType w
theorem logVars_below (a b:World) (h:LogVars a) (g:Below a.heap.size a b):LogVars b:=⟨h.1.below g,h.2.below g⟩


def bt (s:ByteArray) (k:Nat):Nat:=if h:k<s.size then (s[k]'h).toNat else 0
theorem bt_get (s:ByteArray) (k:Nat) (h:k<s.size):(s[k]'h).toNat=bt s k:=by unfold bt;rw [dif_pos h]
theorem bt_lt (s:ByteArray) (k:Nat):bt s k<256:=by
 unfold bt;split
 ·exact (s[k]).toNat_lt
 ·omega
theorem bt_bang (s:ByteArray) (k:Nat) (h:k<s.size):(s.get! k).toNat=bt s k:=by
 rw [← bt_get s k h]
 have e:s.get! k=s[k]'h:=by
  simp [ByteArray.get!,getElem!_pos,h]
  rfl
 rw [e]

def IsEnd (s:ByteArray) (p k:Nat):Prop:=1≤k∧k≤5∧p+k≤s.size∧(∀ i,i+1<k→128≤bt s (p+i))∧bt s (p+k - 1)<128
def NoEnd (s:ByteArray) (p:Nat):Prop:=∀ i,i<5→p+i<s.size→128≤bt s (p+i)
def highTo (s:ByteArray) (p j:Nat):Prop:=∀ i,i<j→128≤bt s (p+i)

theorem IsEnd.only {s:ByteArray} {p k j:Nat} (h:IsEnd s p k) (g:IsEnd s p j):k=j:=by
 obtain ⟨h1,h2,h3,h4,h5⟩:=h
 obtain ⟨g1,g2,g3,g4,g5⟩:=g
 rcases Nat.lt_trichotomy k j with hl | hl | hl
 ·have:=g4 (k - 1) (by omega)
  rw [show p+(k - 1)=p+k - 1 by omega] at this
  omega
 ·exact hl
 ·have:=h4 (j - 1) (by omega)
  rw [show p+(j - 1)=p+j - 1 by omega] at this
  omega
theorem IsEnd.not_no {s:ByteArray} {p k:Nat} (h:IsEnd s p k) (g:NoEnd s p):False:=by
 obtain ⟨h1,h2,h3,h4,h5⟩:=h
 have:=g (k - 1) (by omega) (by omega)
 rw [show p+(k - 1)=p+k - 1 by omega] at this
 omega
theorem isEnd_at {s:ByteArray} {p j:Nat} (h:highTo s p j) (hj:j<5) (hs:p+j<s.size) (hb:bt s (p+j)<128):IsEnd s p (j+1):=
 ⟨by omega,by omega,by omega,fun i hi=>h i (by omega),by simpa using hb⟩
theorem noEnd_of {s:ByteArray} {p j:Nat} (h:highTo s p j) (hj:5≤j∨s.size≤p+j):NoEnd s p:=fun i hi hs=>h i (by omega)
theorem highTo_zero (s:ByteArray) (p:Nat):highTo s p 0:=fun i h=>absurd h (by omega)

def val (s:ByteArray) (p:Nat):Nat→Nat
 | 0=>0
 | 1=>bt s p % 128
 | 2=>bt s p % 128+bt s (p+1) % 128*128
 | 3=>bt s p % 128+bt s (p+1) % 128*128+bt s (p+2) % 128*16384
 | 4=>bt s p % 128+bt s (p+1) % 128*128+bt s (p+2) % 128*16384+bt s (p+3) % 128*2097152
 | _=>bt s p % 128+bt s (p+1) % 128*128+bt s (p+2) % 128*16384+bt s (p+3) % 128*2097152+bt s (p+4) % 128*268435456

def Num (s:ByteArray) (p n k:Nat):Prop:=IsEnd s p k∧¬ (1<k∧bt s (p+k - 1)=0)∧n=val s p k∧n≤999999999
theorem Num.only {s:ByteArray} {p n k m j:Nat} (h:Num s p n k) (g:Num s p m j):n=m∧k=j:=by
 have e:=h.1.only g.1
 subst e
 exact ⟨h.2.2.1.trans g.2.2.1.symm,rfl⟩
def NoNum (s:ByteArray) (p:Nat):Prop:=∀ n k,¬ Num s p n k
theorem noNum_of_noEnd {s:ByteArray} {p:Nat} (h:NoEnd s p):NoNum s p:=fun _ _ hn=>hn.1.not_no h
theorem noNum_zero {s:ByteArray} {p k:Nat} (h:IsEnd s p k) (hk:1<k) (hb:bt s (p+k - 1)=0):NoNum s p:=by
 intro n j hn
 have e:=h.only hn.1
 subst e
 exact hn.2.1 ⟨hk,hb⟩
theorem noNum_great {s:ByteArray} {p k:Nat} (h:IsEnd s p k) (hv:999999999<val s p k):NoNum s p:=by
 intro n j hn
 have e:=h.only hn.1
 subst e
 have h1:=hn.2.2.1
 have h2:=hn.2.2.2
 omega
theorem val_lt (s:ByteArray) (p k:Nat):val s p k<34359738368:=by
 unfold val
 split<;>omega

theorem bt_cut (s:ByteArray) (p i:Nat):bt (s.extract p s.size) i=bt s (p+i):=by
 unfold bt
 by_cases h:p+i<s.size
 ·have h':i<(s.extract p s.size).size:=by simp;omega
  rw [dif_pos h,dif_pos h']
  congr 1
  simp [ByteArray.getElem_extract]
 ·have h':¬ i<(s.extract p s.size).size:=by simp;omega
  rw [dif_neg h,dif_neg h']
theorem bt_head (s:ByteArray) (m i:Nat) (h:i<m) (hm:m≤s.size):bt (s.extract 0 m) i=bt s i:=by
 unfold bt
 have h1:i<s.size:=by omega
 have h':i<(s.extract 0 m).size:=by simp;omega
 rw [dif_pos h1,dif_pos h']
 congr 1
 simp [ByteArray.getElem_extract]
theorem isEnd_cut {s:ByteArray} {p k:Nat} (hp:p≤s.size) (h:IsEnd (s.extract p s.size) 0 k):IsEnd s p k:=by
 obtain ⟨h1,h2,h3,h4,h5⟩:=h
 refine ⟨h1,h2,?_,fun i hi=>?_,?_⟩
 ·simp at h3;omega
 ·have:=h4 i hi
  rw [bt_cut] at this
  simpa using this
 ·rw [bt_cut] at h5
  rw [show p+k - 1=p+(0+k - 1) by omega]
  exact h5
theorem noEnd_cut {s:ByteArray} {p:Nat} (h:NoEnd (s.extract p s.size) 0):NoEnd s p:=by
 intro i hi hs
 have:=h i hi (by simp;omega)
 rw [bt_cut] at this
 simpa using this
theorem decode_span (s:ByteArray) (pos:Nat) (hp:pos<s.size) (ha:128≤bt s pos):∀ j,j<(Utf8.decode s pos).2→pos+j<s.size∧128≤bt s (pos+j):=by
 have h0:(s.get! (pos+0)).toNat=bt s pos:=bt_bang s pos hp
 have hc:∀ k,(decide (pos+k<s.size) && (s.get! (pos+k)).toNat / 64 == 2)=true→pos+k<s.size∧128≤bt s (pos+k):=by
  intro k hk
  simp only [Bool.and_eq_true,decide_eq_true_eq,beq_iff_eq] at hk
  have:=bt_bang s (pos+k) hk.1
  exact ⟨hk.1,by omega⟩
 intro j hj
 have hz:j=0→pos+j<s.size∧128≤bt s (pos+j):=by rintro rfl;exact ⟨hp,ha⟩
 unfold Utf8.decode at hj
 dsimp only at hj
 rw [if_neg (by rw [h0];omega)] at hj
 split at hj
 ·rename_i h
  simp only [Bool.and_eq_true] at h
  have c1:=hc 1 (by simpa using h.2)
  split at hj
  ·have:j=0∨j=1:=by dsimp only at hj;omega
   rcases this with h | rfl
   ·exact hz h
   ·exact c1
  ·exact hz (by dsimp only at hj;omega)
 ·split at hj
  ·rename_i h
   simp only [Bool.and_eq_true] at h
   have c1:=hc 1 (by simpa using h.1.2)
   have c2:=hc 2 (by simpa using h.2)
   split at hj
   ·have:j=0∨j=1∨j=2:=by dsimp only at hj;omega
    rcases this with h | rfl | rfl
    ·exact hz h
    ·exact c1
    ·exact c2
   ·exact hz (by dsimp only at hj;omega)
  ·split at hj
   ·rename_i h
    simp only [Bool.and_eq_true] at h
    have c1:=hc 1 (by simpa using h.1.1.2)
    have c2:=hc 2 (by simpa using h.1.2)
    have c3:=hc 3 (by simpa using h.2)
    split at hj
    ·have:j=0∨j=1∨j=2∨j=3:=by dsimp only at hj;omega
     rcases this with h | rfl | rfl | rfl
     ·exact hz h
     ·exact c1
     ·exact c2
     ·exact c3
    ·exact hz (by dsimp only at hj;omega)
   ·exact hz (by dsimp only at hj;omega)

def hv (s:ByteArray) (p k:Nat):Nat→Nat
 | 0=>0
 | j+1=>hv s p k j*128+bt s (p+k - 1 - j) % 128
theorem hv_lt (s:ByteArray) (p k:Nat):∀ j,j≤4→hv s p k j<268435456
 | 0,_=>by simp [hv]
 | 1,_=>by simp only [hv];omega
 | 2,_=>by simp only [hv];omega
 | 3,_=>by simp only [hv];omega
 | 4,_=>by simp only [hv];omega
 | j+5,h=>by omega
theorem hv_val (s:ByteArray) (p k:Nat) (h1:1≤k) (h5:k≤5):hv s p k k=val s p k:=by
 have hc:k=1∨k=2∨k=3∨k=4∨k=5:=by omega
 rcases hc with rfl | rfl | rfl | rfl | rfl
 all_goals
  simp only [hv,val,Nat.add_sub_cancel,Nat.sub_zero,show p+2 - 1 - 0=p+1 by omega,show p+2 - 1 - 1=p by omega,show p+3 - 1 - 0=p+2 by omega,show p+3 - 1 - 1=p+1 by omega,show p+3 - 1 - 2=p by omega,show p+4 - 1 - 0=p+3 by omega,show p+4 - 1 - 1=p+2 by omega,show p+4 - 1 - 2=p+1 by omega,show p+4 - 1 - 3=p by omega,show p+5 - 1 - 0=p+4 by omega,show p+5 - 1 - 1=p+3 by omega,show p+5 - 1 - 2=p+2 by omega,show p+5 - 1 - 3=p+1 by omega,show p+5 - 1 - 4=p by omega]
  omega


theorem width_pos (s:ByteArray) (pos:Nat) (h:pos<s.size):1≤(Utf8.decode s pos).2:=by
 by_cases ha:(s[pos]'h).toNat<128
 ·rw [decode_ascii s pos h ha]
  exact Nat.le_refl _
 ·exact (decode_high s pos h (by omega)).2

theorem numberSize_any (s:ByteArray) (w:World) (hs:s.size≤65536) :
  Calls Tryz.prog 165 #[.string s] w fun e w'=>∃ k:Nat,e=.returned (.int .i64 k)∧((IsEnd s 0 k)∨(k=0∧NoEnd s 0))∧Below w.heap.size w w':=by
 by_cases h5:s.size≤5
 ·obtain ⟨m,hm⟩:∃ m:Nat,m=s.size:=⟨_,rfl⟩
  have hm5:m≤5:=by omega
  have hms:m≤s.size:=by omega
  have hend:5≤m∨s.size≤0+m:=by omega
  have HXS:Hid (s.size=m):=hm.symm
  clear hm
  go_enter Tryz.func165,Tryz.ntmps165
  go_wp2
  go_loopw [3] (fun _ wr=>∃ pos:Nat,pos≤m∧wr=w.iter s pos∧highTo s 0 pos) (fun _ wr=>m - wr.iterPos w.heap.size)
  case atStart=>exact ⟨0,by omega,rfl,highTo_zero s 0⟩
  case round =>
   obtain ⟨pos,hpl,rfl,hh⟩:=hrel
   by_cases hp:pos<m
   ·have hp':pos<s.size:=by rw [HXS.out];exact hp
    have hbp:bt s pos=bt s (0+pos):=by rw [Nat.zero_add]
    have hg:=bt_get s pos hp'
    by_cases ha:(s[pos]'hp').toNat<128
    ·have hnx:∀ ty,(Instr.next (.pointer (some ⟨w.heap.size,0,none⟩)) true ty).run Tryz.prog (w.iter s pos)=_:=fun ty=>run_next_ascii w s pos ty hp' ha
     have hE:IsEnd s 0 (pos+1):=isEnd_at hh (by omega) (by omega) (by rw [← hbp,← hg];exact ha)
     clear hg hbp
     go_wp2
     go_ret
     exact ⟨pos+1,by go_num,.inl hE,(Below.refl _ _).alloc (Nat.le_refl _) _⟩
    ·have hnx:∀ ty,(Instr.next (.pointer (some ⟨w.heap.size,0,none⟩)) true ty).run Tryz.prog (w.iter s pos)=_:=fun ty=>run_next_any w s pos ty hp'
     have hd:=(decode_high s pos hp' (by omega)).1
     have hwd:=width_pos s pos hp'
     have hsp:=decode_span s pos hp' (by omega)
     have hd':¬ ((Utf8.decode s pos).1:Int)<128:=by omega
     have hle:pos+(Utf8.decode s pos).2≤m:=by
      have:=(hsp ((Utf8.decode s pos).2 - 1) (by omega)).1
      rw [HXS.out] at this
      omega
     have hto:highTo s 0 (pos+(Utf8.decode s pos).2):=by
      intro i hi
      rcases Nat.lt_or_ge i pos with h | h
      ·exact hh i h
      ·have:=(hsp (i - pos) (by omega)).2
       rw [show pos+(i - pos)=i by omega] at this
       simpa using this
     clear hg hbp hsp hd ha
     go_wp2
     go_roundw
     case rel=>exact ⟨pos+(Utf8.decode s pos).2,hle,rfl,hto⟩
     case measure=>simp;omega
   ·have hp':¬ pos<s.size:=by rw [HXS.out];exact hp
    have hnx:∀ ty,(Instr.next (.pointer (some ⟨w.heap.size,0,none⟩)) true ty).run Tryz.prog (w.iter s pos)=_:=fun ty=>run_next_end w s pos ty hp'
    obtain rfl:pos=m:=by omega
    go_wp2
    go_ret
    exact ⟨0,rfl,.inr ⟨rfl,noEnd_of hh hend⟩,(Below.refl _ _).alloc (Nat.le_refl _) _⟩
 ·obtain ⟨x,hX⟩:∃ x:ByteArray,x=s.extract 0 5:=⟨_,rfl⟩
  obtain ⟨m,hm⟩:∃ m:Nat,m=5:=⟨_,rfl⟩
  have hm5:m≤5:=by omega
  have hms:m≤s.size:=by omega
  have hend:5≤m∨s.size≤0+m:=by omega
  have HXS:Hid (x.size=m):=by rw [Hid,hX];simp;omega
  have HB:Hid (∀ i,i<m→bt x i=bt s i):=by
   intro i hi
   rw [hX,← hm]
   exact bt_head s m i hi hms
  have HX:Hid (x=s.extract 0 5):=hX
  clear hX hm
  go_enter Tryz.func165,Tryz.ntmps165
  go_wp2
  rw [← HX.out]
  clear HX
  go_loopw [3] (fun _ wr=>∃ pos:Nat,pos≤m∧wr=w.iter x pos∧highTo s 0 pos) (fun _ wr=>m - wr.iterPos w.heap.size)
  case atStart=>exact ⟨0,by omega,rfl,highTo_zero s 0⟩
  case round =>
   obtain ⟨pos,hpl,rfl,hh⟩:=hrel
   by_cases hp:pos<m
   ·have hp':pos<x.size:=by rw [HXS.out];exact hp
    have hbp:bt x pos=bt s (0+pos):=by rw [Nat.zero_add];exact HB.out pos hp
    have hg:=bt_get x pos hp'
    by_cases ha:(x[pos]'hp').toNat<128
    ·have hnx:∀ ty,(Instr.next (.pointer (some ⟨w.heap.size,0,none⟩)) true ty).run Tryz.prog (w.iter x pos)=_:=fun ty=>run_next_ascii w x pos ty hp' ha
     have hE:IsEnd s 0 (pos+1):=isEnd_at hh (by omega) (by omega) (by rw [← hbp,← hg];exact ha)
     clear hg hbp
     go_wp2
     go_ret
     exact ⟨pos+1,by go_num,.inl hE,(Below.refl _ _).alloc (Nat.le_refl _) _⟩
    ·have hnx:∀ ty,(Instr.next (.pointer (some ⟨w.heap.size,0,none⟩)) true ty).run Tryz.prog (w.iter x pos)=_:=fun ty=>run_next_any w x pos ty hp'
     have hd:=(decode_high x pos hp' (by omega)).1
     have hwd:=width_pos x pos hp'
     have hsp:=decode_span x pos hp' (by omega)
     have hd':¬ ((Utf8.decode x pos).1:Int)<128:=by omega
     have hle:pos+(Utf8.decode x pos).2≤m:=by
      have:=(hsp ((Utf8.decode x pos).2 - 1) (by omega)).1
      rw [HXS.out] at this
      omega
     have hto:highTo s 0 (pos+(Utf8.decode x pos).2):=by
      intro i hi
      rcases Nat.lt_or_ge i pos with h | h
      ·exact hh i h
      ·have:=(hsp (i - pos) (by omega)).2
       rw [show pos+(i - pos)=i by omega,HB.out i (by omega)] at this
       simpa using this
     clear hg hbp hsp hd ha
     go_wp2
     go_roundw
     case rel=>exact ⟨pos+(Utf8.decode x pos).2,hle,rfl,hto⟩
     case measure=>simp;omega
   ·have hp':¬ pos<x.size:=by rw [HXS.out];exact hp
    have hnx:∀ ty,(Instr.next (.pointer (some ⟨w.heap.size,0,none⟩)) true ty).run Tryz.prog (w.iter x pos)=_:=fun ty=>run_next_end w x pos ty hp'
    obtain rfl:pos=m:=by omega
    go_wp2
    go_ret
    exact ⟨0,rfl,.inr ⟨rfl,noEnd_of hh hend⟩,(Below.refl _ _).alloc (Nat.le_refl _) _⟩


theorem numberOK_yes (n:Int) (w:World) (h:0≤n∧n≤999999999):Calls Tryz.prog 128 #[.int .i64 n] w fun e w'=>e=.returned (.bool true)∧w=w':=by
 obtain ⟨h1,h2⟩:=h
 go_enter Tryz.func128,Tryz.ntmps128
 go_wp2
 go_ret
 exact ⟨rfl,rfl⟩
theorem numberOK_no (n:Int) (w:World) (h:¬ (0≤n∧n≤999999999)):Calls Tryz.prog 128 #[.int .i64 n] w fun e w'=>e=.returned (.bool false)∧w=w':=by
 by_cases h1:0≤n
 ·have h2:decide (n≤999999999)=false:=by simp;omega
  clear h
  go_enter Tryz.func128,Tryz.ntmps128
  go_wp2
  go_ret
  exact ⟨rfl,rfl⟩
 ·clear h
  go_enter Tryz.func128,Tryz.ntmps128
  go_wp2
  go_ret
  exact ⟨rfl,rfl⟩

end Go.Proofs.YtdopgkbegjfhjaaGreatDoor
