/-
  Joined: Vm2, Marks, MarkV, InOK.
-/
import Derived.Test.YtfpopbbmnbehiaaDoorB02

namespace Go.Proofs.YtfpopbbmnbehiaaDoor
set_option maxRecDepth 100000
set_option maxHeartbeats 16000000
open Go.RowKit

def OwnI (w:World) (B:Nat) (s:Sl) (zs:List Int):Prop:=w.ownsRow B 3 1 (.slice s.1 s.2.1 s.2.2) s.2.1 (zs.map (Value.int .i64))
def Apart (s s':Sl):Prop:=∀ g,(Value.slice s.1 s.2.1 s.2.2).ownBlock=some g→(Value.slice s'.1 s'.2.1 s'.2.2).ownBlock≠some g
def OwnV (w:World) (B:Nat) (s:S4) (m:V4):Prop:=
 (OwnI w B s.1 m.1∧OwnI w B s.2.1 m.2.1∧OwnI w B s.2.2.1 m.2.2.1∧OwnI w B s.2.2.2 m.2.2.2) ∧
 Apart s.1 s.2.1∧Apart s.1 s.2.2.1∧Apart s.1 s.2.2.2∧Apart s.2.1 s.2.2.1∧Apart s.2.1 s.2.2.2∧Apart s.2.2.1 s.2.2.2
def V4.fits (m:V4):Prop:=(∀ z ∈ m.1,(Lit.int .i64 z).wf=true)∧(∀ z ∈ m.2.1,(Lit.int .i64 z).wf=true)∧(∀ z ∈ m.2.2.1,(Lit.int .i64 z).wf=true)∧∀ z ∈ m.2.2.2,(Lit.int .i64 z).wf=true
theorem Vmem.fits {w:World} {s:S4} {m:V4} (h:Vmem w s m):V4.fits m:=⟨h.1.2,h.2.1.2,h.2.2.1.2,h.2.2.2.2⟩

theorem OwnI.ints {w:World} {B:Nat} {s:Sl} {zs:List Int} (h:OwnI w B s zs):Ints .i64 w s.1 s.2.1 s.2.2 zs:=by
 obtain ⟨a,n,c⟩:=s
 unfold OwnI at h
 simp only at h ⊢
 rcases h.2 with ⟨h0,h1⟩ | ⟨g,cap,cur,hv,_⟩
 ·cases h0
  have hl:zs.length=0:=by simpa using h.1
  exact ⟨hl,Nat.le_refl _,Nat.zero_le _,.inl rfl⟩
 ·cases hv
  exact Ints.of_owns h
theorem OwnI.below {w w':World} {B:Nat} {s:Sl} {zs:List Int} (h:OwnI w B s zs) (hb:Below w.heap.size w w'):OwnI w' B s zs:=owns_below h hb
theorem OwnV.below {w w':World} {B:Nat} {s:S4} {m:V4} (h:OwnV w B s m) (hb:Below w.heap.size w w'):OwnV w' B s m:=⟨⟨h.1.1.below hb,h.1.2.1.below hb,h.1.2.2.1.below hb,h.1.2.2.2.below hb⟩,h.2⟩
theorem OwnV.mem {w:World} {B:Nat} {s:S4} {m:V4} (h:OwnV w B s m) (hf:V4.fits m):Vmem w s m:=⟨⟨h.1.1.ints,hf.1⟩,⟨h.1.2.1.ints,hf.2.1⟩,⟨h.1.2.2.1.ints,hf.2.2.1⟩,⟨h.1.2.2.2.ints,hf.2.2.2⟩⟩
theorem own_lower {w:World} {B B' e s n:Nat} {v:Value} {cs:List Value} (h:w.ownsRow B e s v n cs) (hB:B'≤B):w.ownsRow B' e s v n cs:=by
 refine ⟨h.1,?_⟩
 rcases h.2 with h0 | ⟨g,cap,cur,hv,hg,rest⟩
 ·exact .inl h0
 ·exact .inr ⟨g,cap,cur,hv,Nat.le_trans hB hg,rest⟩
theorem box4 (w:World) (x y z u:Value) (t B:Nat) (hB:B≤w.heap.size):(w.alloc (.cells #[x,y,z,u] t)).ownsRow B t 4 (.slice (some ⟨w.heap.size,0,none⟩) 1 1) 1 [x,y,z,u]:=World.ownsRow_lit w #[x,y,z,u] 1 hB (by unfold maxLen;omega) rfl


def mkTo:Int→List Int→Nat→List Int
 | _,xs,0=>xs
 | _,[],_+1=>[]
 | k,_::xs,j+1=>k::mkTo (k+1) xs j
theorem mkTo_len:∀ (k:Int) (xs:List Int) (j:Nat),(mkTo k xs j).length=xs.length
 | _,xs,0=>by simp [mkTo]
 | _,[],_+1=>by simp [mkTo]
 | k,_::xs,j+1=>by simp [mkTo,mkTo_len]
theorem mkTo_set:∀ (k:Int) (xs:List Int) (j:Nat),j<xs.length→(mkTo k xs j).set j (k+j)=mkTo k xs (j+1)
 | _,[],j,h=>by simp at h
 | k,x::xs,0,_=>by simp [mkTo]
 | k,x::xs,j+1,h=>by
  have ih:=mkTo_set (k+1) xs j (by simpa using h)
  have e:k+((j+1:Nat):Int)=k+1+(j:Int):=by omega
  rw [e]
  simp only [mkTo,List.set_cons_succ,ih]
theorem mkTo_get:∀ (k:Int) (xs:List Int) (j i:Nat),i<j→j≤xs.length→(mkTo k xs j).getD i 0=k+i
 | _,xs,0,i,h,_=>by omega
 | _,[],j+1,i,_,h=>by simp at h
 | k,x::xs,j+1,0,_,_=>by simp [mkTo]
 | k,x::xs,j+1,i+1,h,hl=>by
  have ih:=mkTo_get (k+1) xs j i (by omega) (by simpa using hl)
  have e:k+((i+1:Nat):Int)=k+1+(i:Int):=by omega
  rw [e,← ih]
  simp [mkTo]

theorem markIntS_none (a:Option Addr) (cap:Nat) (k:Int) (w:World) :
  Calls Tryd.prog 20 #[.slice a 0 cap,.int .i64 k] w fun e w'=>e=.returned (.int .i64 k)∧w=w':=by
 go_enter Tryd.func20,Tryd.ntmps20
 go_wp2
 refine wp_loop_rounds 1 ?_
 rw [rounds_succ]
 go_wp2
 go_ret
 exact ⟨rfl,rfl⟩

theorem heldIntS_yes (a:Option Addr) (n cap:Nat) (k:Int) (zs:List Int) (w:World) (hk0:0≤k) (hk:k≤1000000000) (hn:n≤1048576) (h:Ints .i64 w a n cap zs) (hm:∀ i,i<n→zs.getD i 0=k+i) :
  Calls Tryd.prog 21 #[.slice a n cap,.int .i64 k] w fun e w'=>e=.returned (.int .i64 (k+n))∧w=w':=by
 obtain ⟨hl,hlc,hcm,hcase⟩:=h
 unfold maxLen at hcm
 by_cases h0:n=0
 ·subst h0
  have e0:k+((0:Nat):Int)=k:=by omega
  rw [e0]
  go_enter Tryd.func21,Tryd.ntmps21
  go_wp2
  refine wp_loop_rounds 1 ?_
  rw [rounds_succ]
  go_wp2
  go_ret
  exact ⟨rfl,rfl⟩
 ·rcases hcase with h0' | ⟨b,off,rfl,hblt,hcell⟩
  ·exact absurd h0' h0
  go_enter Tryd.func21,Tryd.ntmps21
  go_wp2
  go_loop [1,5] (fun sk si=>∃ j:Nat,j≤n∧si=.int .i64 j∧sk=.int .i64 (k+j)) (fun _ si=>n - (intOf si).toNat)
  case atStart=>exact ⟨0,by omega,rfl,by go_num⟩
  case round =>
   obtain ⟨j,hj,rfl,rfl⟩:=hrel
   by_cases hlt:j<n
   ·have hc:=hcell j hlt
    rw [hm j hlt] at hc
    have hne:((k+(j:Int)) != (k+(j:Int)))=false:=by simp
    clear hcell hm
    go_wp2
    go_round
    case rel=>exact ⟨j+1,by omega,by go_num,by go_num⟩
    case measure=>simp [intOf];omega
   ·obtain rfl:j=n:=by omega
    go_wp2
    go_ret
    exact ⟨rfl,rfl⟩


theorem Sl.some_or {w:World} {B:Nat} {s:Sl} {zs:List Int} (h:OwnI w B s zs):(s=(none,0,0)∧zs=[])∨∃ g n c,s=(some ⟨g,0,none⟩,n,c):=by
 obtain ⟨a,n,c⟩:=s
 unfold OwnI at h
 simp only at h
 rcases h.2 with ⟨h0,h1⟩ | ⟨g,cap,cur,hv,_⟩
 ·cases h0
  exact .inl ⟨rfl,by simpa using h.1⟩
 ·cases hv
  exact .inr ⟨g,n,c,rfl⟩

theorem markIntS_grown0 (base g n cap:Nat) (k:Int) (xs:List Int) (w:World) (hk0:0≤k) (hk:k≤1000000000) (hn:n≤1048576) (ho:w.ownsRow base 3 1 (.slice (some ⟨g,0,none⟩) n cap) n (xs.map (Value.int .i64))) :
  Calls Tryd.prog 20 #[.slice (some ⟨g,0,none⟩) n cap,.int .i64 k] w fun e w'=>e=.returned (.int .i64 (k+n)) ∧
   w'.ownsRow base 3 1 (.slice (some ⟨g,0,none⟩) n cap) n ((mkTo k xs n).map (Value.int .i64))∧w.grownBy w' (some g):=by
 have hlen:xs.length=n:=by simpa using ho.1
 go_enter Tryd.func20,Tryd.ntmps20
 go_wp2
 go_loopw [1,5] (fun sk si wr=>∃ j:Nat,j≤n∧si=.int .i64 j∧sk=.int .i64 (k+j)∧wr.ownsRow base 3 1 (.slice (some ⟨g,0,none⟩) n cap) n ((mkTo k xs j).map (Value.int .i64))∧w.grownBy wr (some g)) (fun _ si _=>n - (intOf si).toNat)
 case atStart=>exact ⟨0,by omega,rfl,by go_num,by simpa [mkTo] using ho,World.grownBy.refl _ _⟩
 case round =>
  obtain ⟨j,hj,rfl,rfl,hr,hbel⟩:=hrel
  by_cases hlt:j<n
  ·have hf:=hr.frozenAt j
   have hst:=(hr.stored j (.int .i64 (k+j))).1
   rw [← List.map_set,mkTo_set k xs j (by omega)] at hst
   have hold:∃ u,wr.cell? ⟨g,j,none⟩=some u:=by
    have:=hr.cellAt j (by omega)
    rw [this]
    exact ⟨_,List.getElem?_eq_getElem (by simp [mkTo_len];omega)⟩
   obtain ⟨u,hu⟩:=hold
   have hb1:=grownBy_tr hbel (grownBy_set wr g j (.int .i64 (k+j)))
   clear hr ho
   go_wp2
   go_roundw
   case rel=>exact ⟨j+1,by omega,by go_num,by go_num,hst,hb1⟩
   case measure=>simp [intOf];omega
  ·obtain rfl:j=n:=by omega
   go_wp2
   go_ret
   exact ⟨rfl,hr,hbel⟩

theorem OwnI.len {w:World} {B:Nat} {s:Sl} {zs:List Int} (h:OwnI w B s zs):zs.length=s.2.1:=by
 have:=h.1
 simpa using this
theorem OwnI.kept {w w':World} {B:Nat} {s s':Sl} {zs:List Int} (h:OwnI w B s zs) (hg:w.grownBy w' (Value.slice s'.1 s'.2.1 s'.2.2).ownBlock) (ha:Apart s s'):OwnI w' B s zs:=by
 refine World.ownsRow.kept h hg ?_
 cases hb:(Value.slice s.1 s.2.1 s.2.2).ownBlock with
 | none=>exact .inl rfl
 | some g=>exact .inr fun e=>ha g hb e.symm
theorem Apart.symm {s s':Sl} (h:Apart s s'):Apart s' s:=fun g h1 h2=>h g h2 h1


theorem l01In_yes (n a b:Int) (w:World) (h:a≤n∧n≤b):Calls Tryd.prog 52 #[.int .i64 n,.int .i64 a,.int .i64 b] w fun e w'=>e=.returned (.bool true)∧w=w':=by
 obtain ⟨h1,h2⟩:=h
 go_enter Tryd.func52,Tryd.ntmps52
 go_wp2
 go_ret
 exact ⟨rfl,rfl⟩
theorem l01In_no (n a b:Int) (w:World) (h:¬ (a≤n∧n≤b)):Calls Tryd.prog 52 #[.int .i64 n,.int .i64 a,.int .i64 b] w fun e w'=>e=.returned (.bool false)∧w=w':=by
 by_cases h1:a≤n
 ·have h2:decide (n≤b)=false:=by simp;omega
  clear h
  go_enter Tryd.func52,Tryd.ntmps52
  go_wp2
  go_ret
  exact ⟨rfl,rfl⟩
 ·clear h
  go_enter Tryd.func52,Tryd.ntmps52
  go_wp2
  go_ret
  exact ⟨rfl,rfl⟩

end Go.Proofs.YtfpopbbmnbehiaaDoor
