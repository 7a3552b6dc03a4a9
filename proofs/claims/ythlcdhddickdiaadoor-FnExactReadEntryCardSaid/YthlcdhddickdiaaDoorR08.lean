/-
  Joined: Vm2, Vm3.
-/
import Derived.Shelf.Abstract
import Derived.Test.YthlcdhddickdiaaDoorR02
import Derived.Test.YthlcdhddickdiaaDoorR04

namespace Go.Proofs.YthlcdhddickdiaaDoor
set_option maxRecDepth 100000
set_option maxHeartbeats 16000000
open Go.RowKit

def OwnI (w:World) (B:Nat) (s:Sl) (zs:List Int):Prop:=w.ownsRow B 3 1 (.slice s.1 s.2.1 s.2.2) s.2.1 (zs.map (Value.int .i64))
def Apart (s s':Sl):Prop:=∀ g,(Value.slice s.1 s.2.1 s.2.2).ownBlock=some g→(Value.slice s'.1 s'.2.1 s'.2.2).ownBlock≠some g
def OwnV (w:World) (B:Nat) (s:S4) (m:V4):Prop:=
 (OwnI w B s.1 m.1∧OwnI w B s.2.1 m.2.1∧OwnI w B s.2.2.1 m.2.2.1∧OwnI w B s.2.2.2 m.2.2.2) ∧
 Apart s.1 s.2.1∧Apart s.1 s.2.2.1∧Apart s.1 s.2.2.2∧Apart s.2.1 s.2.2.1∧Apart s.2.1 s.2.2.2∧Apart s.2.2.1 s.2.2.2
def V4.fits (m:V4):Prop:=(∀ z ∈ m.1,(Lit.int .i64 z).wf=true)∧(∀ z ∈ m.2.1,(Lit.int .i64 z).wf=true)∧(∀ z ∈ m.2.2.1,(Lit.int .i64 z).wf=true)∧∀ z ∈ m.2.2.2,(Lit.int .i64 z).wf=true
theorem Vmem.fits {w:World} {s:S4} {m:V4} (h:Vmem w s m):V4.fits m:=⟨h.1.2,h.2.1.2,h.2.2.1.2,h.2.2.2.2⟩

theorem OwnI.ints {w:World} {B:Nat} {s:Sl} {zs:List Int} (h:OwnI w B s zs):Ints .i64 w s.1 s.2.1 s.2.2 zs:=by
 obtain ⟨a,n,c⟩:=s
 unfold OwnI at h
 simp only at h ⊢
 rcases h.2 with ⟨h0,h1⟩ | ⟨g,cap,cur,hv,_⟩
 ·cases h0
  have hl:zs.length=0:=by simpa using h.1
  exact ⟨hl,Nat.le_refl _,Nat.zero_le _,.inl rfl⟩
 ·cases hv
  exact Ints.of_owns h
theorem OwnI.below {w w':World} {B:Nat} {s:Sl} {zs:List Int} (h:OwnI w B s zs) (hb:Below w.heap.size w w'):OwnI w' B s zs:=owns_below h hb
theorem OwnV.below {w w':World} {B:Nat} {s:S4} {m:V4} (h:OwnV w B s m) (hb:Below w.heap.size w w'):OwnV w' B s m:=⟨⟨h.1.1.below hb,h.1.2.1.below hb,h.1.2.2.1.below hb,h.1.2.2.2.below hb⟩,h.2⟩
theorem OwnV.mem {w:World} {B:Nat} {s:S4} {m:V4} (h:OwnV w B s m) (hf:V4.fits m):Vmem w s m:=⟨⟨h.1.1.ints,hf.1⟩,⟨h.1.2.1.ints,hf.2.1⟩,⟨h.1.2.2.1.ints,hf.2.2.1⟩,⟨h.1.2.2.2.ints,hf.2.2.2⟩⟩
theorem own_lower {w:World} {B B' e s n:Nat} {v:Value} {cs:List Value} (h:w.ownsRow B e s v n cs) (hB:B'≤B):w.ownsRow B' e s v n cs:=by
 refine ⟨h.1,?_⟩
 rcases h.2 with h0 | ⟨g,cap,cur,hv,hg,rest⟩
 ·exact .inl h0
 ·exact .inr ⟨g,cap,cur,hv,Nat.le_trans hB hg,rest⟩


def allIn (zs:List Int) (n high:Int):Bool:=zs.all (fun z=>decide (0≤z∧z≤high)) && decide ((zs.length:Int)=n)
def shapeOk (m:V4):Bool:=allIn m.1 3 6 && (allIn m.2.1 4 9 && (allIn m.2.2.1 2 3 && allIn m.2.2.2 6 9))
theorem allIn_no {zs:List Int} {n high:Int} {k:Nat} (hk:k<zs.length) (h:¬ (0≤zs.getD k 0∧zs.getD k 0≤high)):allIn zs n high=false:=by
 unfold allIn
 have:zs.all (fun z=>decide (0≤z∧z≤high))=false:=by
  rw [List.all_eq_false]
  refine ⟨zs.getD k 0,by simp [List.getD,hk],?_⟩
  simpa using h
 rw [this];rfl
theorem allIn_end {zs:List Int} {n high:Int} (h:∀ i,i<zs.length→0≤zs.getD i 0∧zs.getD i 0≤high):allIn zs n high=decide ((zs.length:Int)=n):=by
 unfold allIn
 have:zs.all (fun z=>decide (0≤z∧z≤high))=true:=by
  rw [List.all_eq_true]
  intro z hz
  obtain ⟨i,hi,rfl⟩:=List.getElem_of_mem hz
  have:=h i hi
  simpa [List.getD,hi] using this
 rw [this];rfl

theorem l03All_is (a:Option Addr) (len cap:Nat) (zs:List Int) (n high:Int) (w:World) (h:Ints .i64 w a len cap zs) :
  Calls Tryd.prog 100 #[.slice a len cap,.int .i64 n,.int .i64 high] w fun e w'=>e=.returned (.bool (allIn zs n high))∧w=w':=by
 obtain ⟨hl,hlc,hcm,hcase⟩:=h
 unfold maxLen at hcm
 obtain ⟨fin,hfin⟩:∃ fin,fin=allIn zs n high:=⟨_,rfl⟩
 rw [← hfin]
 have HF:Hid (fin=allIn zs n high):=hfin
 clear hfin
 have hend:∀ b:Bool,b=decide ((len:Int)=n)→Hid (∀ i,i<zs.length→0≤zs.getD i 0∧zs.getD i 0≤high)→fin=b:=fun b hb h=>by rw [HF.out,allIn_end h.out,hb,hl]
 obtain ⟨b,hb⟩:∃ b,b=decide ((len:Int)=n):=⟨_,rfl⟩
 have he:=hend b hb
 have hb2:((len:Int) == n)=b:=by rw [hb];by_cases h:(len:Int)=n<;>simp [h]
 clear hend hb
 have HE:Hid (Hid (∀ i,i<zs.length→0≤zs.getD i 0∧zs.getD i 0≤high)→fin=b):=he
 clear he
 by_cases h0:len=0
 ·subst h0
  obtain rfl:fin=b:=HE.out (fun i hi=>by omega)
  clear HE HF
  go_enter Tryd.func100,Tryd.ntmps100
  go_wp2
  refine wp_loop_rounds 1 ?_
  rw [rounds_succ]
  simp only [Int.natCast_zero] at hb2
  go_wp2
  go_ret
  exact ⟨rfl,rfl⟩
 ·rcases hcase with h0' | ⟨bk,off,rfl,hblt,hcell⟩
  ·exact absurd h0' h0
  go_enter Tryd.func100,Tryd.ntmps100
  go_wp2
  go_loopw [7] (fun si wr=>∃ k:Nat,k≤len∧si=.int .i64 k∧Hid (∀ i,i<k→0≤zs.getD i 0∧zs.getD i 0≤high)∧w=wr) (fun si _=>len - (intOf si).toNat)
  case atStart=>exact ⟨0,by omega,rfl,(fun i hi=>by omega),rfl⟩
  case round =>
   obtain ⟨k,hk,rfl,HK,rfl⟩:=hrel
   by_cases hlt:k<len
   ·have hc:=hcell k hlt
    have hlt':(k:Int)<(len:Int):=by omega
    by_cases hin:0≤zs.getD k 0∧zs.getD k 0≤high
    ·have HK2:Hid (∀ i,i<k+1→0≤zs.getD i 0∧zs.getD i 0≤high):=fun i hi=>by
      by_cases e:i=k
      ·subst e;exact hin
      ·exact HK.out i (by omega)
     have kI:=fun w=>l01In_yes (zs.getD k 0) 0 high w hin
     clear hcell hin
     generalize zs.getD k 0=x at hc kI
     go_wp2_with fail
     refine (kI _).mono ?_
     rintro e w1 ⟨rfl,rfl⟩
     go_wp2
     go_roundw
     case rel=>exact ⟨k+1,by omega,by go_num,HK2,by trivial⟩
     case measure=>simp [intOf];omega
    ·obtain rfl:fin=false:=by rw [HF.out];exact allIn_no (by omega) hin
     have kI:=fun w=>l01In_no (zs.getD k 0) 0 high w hin
     clear hcell hin HE HF
     generalize zs.getD k 0=x at hc kI
     go_wp2_with fail
     refine (kI _).mono ?_
     rintro e w1 ⟨rfl,rfl⟩
     go_wp2
     go_ret
     exact ⟨rfl,rfl⟩
   ·obtain rfl:k=len:=by omega
    obtain rfl:fin=b:=HE.out (fun i hi=>HK.out i (by omega))
    clear hcell HE HF HK
    go_wp2
    go_ret
    exact ⟨rfl,rfl⟩

theorem l03Shape_is (s:S4) (m:V4) (w:World) (h:Vmem w s m) :
  Calls Tryd.prog 79 #[s.val] w fun e w'=>e=.returned (.bool (shapeOk m))∧Below w.heap.size w w':=by
 obtain ⟨⟨i0,_⟩,⟨i1,_⟩,⟨i2,_⟩,⟨i3,_⟩⟩:=h
 obtain ⟨⟨a0,n0,c0⟩,⟨a1,n1,c1⟩,⟨a2,n2,c2⟩,⟨a3,n3,c3⟩⟩:=s
 obtain ⟨m0,m1,m2,m3⟩:=m
 unfold S4.val shapeOk
 simp only at i0 i1 i2 i3 ⊢
 have bw:Below w.heap.size w (w.alloc (.cells #[.slice a0 n0 c0,.slice a1 n1 c1,.slice a2 n2 c2,.slice a3 n3 c3] 86)):=by go_grown
 have k0:=l03All_is a0 n0 c0 m0 3 6 _ (i0.below bw)
 have k1:=l03All_is a1 n1 c1 m1 4 9 _ (i1.below bw)
 have k2:=l03All_is a2 n2 c2 m2 2 3 _ (i2.below bw)
 have k3:=l03All_is a3 n3 c3 m3 6 9 _ (i3.below bw)
 clear i0 i1 i2 i3
 generalize allIn m0 3 6=x0 at *
 generalize allIn m1 4 9=x1 at *
 generalize allIn m2 2 3=x2 at *
 generalize allIn m3 6 9=x3 at *
 go_enter Tryd.func79,Tryd.ntmps79
 go_wp2_with fail
 refine k0.mono ?_
 rintro e w1 ⟨rfl,rfl⟩
 cases x0
 ·go_wp2
  go_ret
  exact ⟨rfl,bw⟩
 go_wp2_with fail
 refine k1.mono ?_
 rintro e w1 ⟨rfl,rfl⟩
 cases x1
 ·go_wp2
  go_ret
  exact ⟨rfl,bw⟩
 go_wp2_with fail
 refine k2.mono ?_
 rintro e w1 ⟨rfl,rfl⟩
 cases x2
 ·go_wp2
  go_ret
  exact ⟨rfl,bw⟩
 go_wp2_with fail
 refine k3.mono ?_
 rintro e w1 ⟨rfl,rfl⟩
 cases x3
 ·go_wp2
  go_ret
  exact ⟨rfl,bw⟩
 go_wp2
 go_ret
 exact ⟨rfl,bw⟩

end Go.Proofs.YthlcdhddickdiaaDoor
