/-
  Joined: Vm3, Plain, Conv.
-/
import Derived.Shelf.Abstract
import Derived.Laws.BytesArg
import Derived.Test.YtjgffnlmjmibgaaDoorN02

namespace Go.Proofs.YtjgffnlmjmibgaaDoor
set_option maxRecDepth 100000
set_option maxHeartbeats 16000000
open Go.RowKit

def allIn (zs:List Int) (n high:Int):Bool:=zs.all (fun z=>decide (0≤z∧z≤high)) && decide ((zs.length:Int)=n)
def shapeOk (m:V4):Bool:=allIn m.1 3 6 && (allIn m.2.1 4 9 && (allIn m.2.2.1 2 3 && allIn m.2.2.2 6 9))
theorem allIn_no {zs:List Int} {n high:Int} {k:Nat} (hk:k<zs.length) (h:¬ (0≤zs.getD k 0∧zs.getD k 0≤high)):allIn zs n high=false:=by
 unfold allIn
 have:zs.all (fun z=>decide (0≤z∧z≤high))=false:=by
  rw [List.all_eq_false]
  refine ⟨zs.getD k 0,by simp [List.getD,hk],?_⟩
  simpa using h
 rw [this];rfl
theorem allIn_end {zs:List Int} {n high:Int} (h:∀ i,i<zs.length→0≤zs.getD i 0∧zs.getD i 0≤high):allIn zs n high=decide ((zs.length:Int)=n):=by
 unfold allIn
 have:zs.all (fun z=>decide (0≤z∧z≤high))=true:=by
  rw [List.all_eq_true]
  intro z hz
  obtain ⟨i,hi,rfl⟩:=List.getElem_of_mem hz
  have:=h i hi
  simpa [List.getD,hi] using this
 rw [this];rfl

theorem l03All_is (a:Option Addr) (len cap:Nat) (zs:List Int) (n high:Int) (w:World) (h:Ints .i64 w a len cap zs) :
  Calls Tryd.prog 126 #[.slice a len cap,.int .i64 n,.int .i64 high] w fun e w'=>e=.returned (.bool (allIn zs n high))∧w=w':=by
 obtain ⟨hl,hlc,hcm,hcase⟩:=h
 unfold maxLen at hcm
 obtain ⟨fin,hfin⟩:∃ fin,fin=allIn zs n high:=⟨_,rfl⟩
 rw [← hfin]
 have HF:Hid (fin=allIn zs n high):=hfin
 clear hfin
 have hend:∀ b:Bool,b=decide ((len:Int)=n)→Hid (∀ i,i<zs.length→0≤zs.getD i 0∧zs.getD i 0≤high)→fin=b:=fun b hb h=>by rw [HF.out,allIn_end h.out,hb,hl]
 obtain ⟨b,hb⟩:∃ b,b=decide ((len:Int)=n):=⟨_,rfl⟩
 have he:=hend b hb
 have hb2:((len:Int) == n)=b:=by rw [hb];by_cases h:(len:Int)=n<;>simp [h]
 clear hend hb
 have HE:Hid (Hid (∀ i,i<zs.length→0≤zs.getD i 0∧zs.getD i 0≤high)→fin=b):=he
 clear he
 by_cases h0:len=0
 ·subst h0
  obtain rfl:fin=b:=HE.out (fun i hi=>by omega)
  clear HE HF
  go_enter Tryd.func126,Tryd.ntmps126
  go_wp2
  refine wp_loop_rounds 1 ?_
  rw [rounds_succ]
  simp only [Int.natCast_zero] at hb2
  go_wp2
  go_ret
  exact ⟨rfl,rfl⟩
 ·rcases hcase with h0' | ⟨bk,off,rfl,hblt,hcell⟩
  ·exact absurd h0' h0
  go_enter Tryd.func126,Tryd.ntmps126
  go_wp2
  go_loopw [7] (fun si wr=>∃ k:Nat,k≤len∧si=.int .i64 k∧Hid (∀ i,i<k→0≤zs.getD i 0∧zs.getD i 0≤high)∧w=wr) (fun si _=>len - (intOf si).toNat)
  case atStart=>exact ⟨0,by omega,rfl,(fun i hi=>by omega),rfl⟩
  case round =>
   obtain ⟨k,hk,rfl,HK,rfl⟩:=hrel
   by_cases hlt:k<len
   ·have hc:=hcell k hlt
    have hlt':(k:Int)<(len:Int):=by omega
    by_cases hin:0≤zs.getD k 0∧zs.getD k 0≤high
    ·have HK2:Hid (∀ i,i<k+1→0≤zs.getD i 0∧zs.getD i 0≤high):=fun i hi=>by
      by_cases e:i=k
      ·subst e;exact hin
      ·exact HK.out i (by omega)
     have kI:=fun w=>l01In_yes (zs.getD k 0) 0 high w hin
     clear hcell hin
     generalize zs.getD k 0=x at hc kI
     go_wp2_with fail
     refine (kI _).mono ?_
     rintro e w1 ⟨rfl,rfl⟩
     go_wp2
     go_roundw
     case rel=>exact ⟨k+1,by omega,by go_num,HK2,by trivial⟩
     case measure=>simp [intOf];omega
    ·obtain rfl:fin=false:=by rw [HF.out];exact allIn_no (by omega) hin
     have kI:=fun w=>l01In_no (zs.getD k 0) 0 high w hin
     clear hcell hin HE HF
     generalize zs.getD k 0=x at hc kI
     go_wp2_with fail
     refine (kI _).mono ?_
     rintro e w1 ⟨rfl,rfl⟩
     go_wp2
     go_ret
     exact ⟨rfl,rfl⟩
   ·obtain rfl:k=len:=by omega
    obtain rfl:fin=b:=HE.out (fun i hi=>HK.out i (by omega))
    clear hcell HE HF HK
    go_wp2
    go_ret
    exact ⟨rfl,rfl⟩

theorem l03Shape_is (s:S4) (m:V4) (w:World) (h:Vmem w s m) :
  Calls Tryd.prog 111 #[s.val] w fun e w'=>e=.returned (.bool (shapeOk m))∧Below w.heap.size w w':=by
 obtain ⟨⟨i0,_⟩,⟨i1,_⟩,⟨i2,_⟩,⟨i3,_⟩⟩:=h
 obtain ⟨⟨a0,n0,c0⟩,⟨a1,n1,c1⟩,⟨a2,n2,c2⟩,⟨a3,n3,c3⟩⟩:=s
 obtain ⟨m0,m1,m2,m3⟩:=m
 unfold S4.val shapeOk
 simp only at i0 i1 i2 i3 ⊢
 have bw:Below w.heap.size w (w.alloc (.cells #[.slice a0 n0 c0,.slice a1 n1 c1,.slice a2 n2 c2,.slice a3 n3 c3] 30)):=by go_grown
 have k0:=l03All_is a0 n0 c0 m0 3 6 _ (i0.below bw)
 have k1:=l03All_is a1 n1 c1 m1 4 9 _ (i1.below bw)
 have k2:=l03All_is a2 n2 c2 m2 2 3 _ (i2.below bw)
 have k3:=l03All_is a3 n3 c3 m3 6 9 _ (i3.below bw)
 clear i0 i1 i2 i3
 generalize allIn m0 3 6=x0 at *
 generalize allIn m1 4 9=x1 at *
 generalize allIn m2 2 3=x2 at *
 generalize allIn m3 6 9=x3 at *
 go_enter Tryd.func111,Tryd.ntmps111
 go_wp2_with fail
 refine k0.mono ?_
 rintro e w1 ⟨rfl,rfl⟩
 cases x0
 ·go_wp2
  go_ret
  exact ⟨rfl,bw⟩
 go_wp2_with fail
 refine k1.mono ?_
 rintro e w1 ⟨rfl,rfl⟩
 cases x1
 ·go_wp2
  go_ret
  exact ⟨rfl,bw⟩
 go_wp2_with fail
 refine k2.mono ?_
 rintro e w1 ⟨rfl,rfl⟩
 cases x2
 ·go_wp2
  go_ret
  exact ⟨rfl,bw⟩
 go_wp2_with fail
 refine k3.mono ?_
 rintro e w1 ⟨rfl,rfl⟩
 cases x3
 ·go_wp2
  go_ret
  exact ⟨rfl,bw⟩
 go_wp2
 go_ret
 exact ⟨rfl,bw⟩


def pack (n:Nat):List Int:=
 if n<128 then [(n:Int)]
 else if n<16384 then [(n:Int) % 128+128,(n:Int) / 128]
 else if n<2097152 then [(n:Int) % 128+128,(n:Int) / 128 % 128+128,(n:Int) / 16384]
 else if n<268435456 then [(n:Int) % 128+128,(n:Int) / 128 % 128+128,(n:Int) / 16384 % 128+128,(n:Int) / 2097152]
 else [(n:Int) % 128+128,(n:Int) / 128 % 128+128,(n:Int) / 16384 % 128+128,(n:Int) / 2097152 % 128+128,(n:Int) / 268435456]

theorem pack_small {n:Nat} (h:n<128):pack n=[(n:Int)]:=by unfold pack;rw [if_pos h]
theorem pack2 {n:Nat} (h:128≤n) (k:n<16384):pack n=[(n:Int) % 128+128,(n:Int) / 128]:=by
 unfold pack;rw [if_neg (by omega),if_pos k]
theorem pack3 {n:Nat} (h:16384≤n) (k:n<2097152):pack n=[(n:Int) % 128+128,(n:Int) / 128 % 128+128,(n:Int) / 16384]:=by
 unfold pack;rw [if_neg (by omega),if_neg (by omega),if_pos k]
theorem pack4 {n:Nat} (h:2097152≤n) (k:n<268435456):pack n=[(n:Int) % 128+128,(n:Int) / 128 % 128+128,(n:Int) / 16384 % 128+128,(n:Int) / 2097152]:=by
 unfold pack;rw [if_neg (by omega),if_neg (by omega),if_neg (by omega),if_pos k]
theorem pack5 {n:Nat} (h:268435456≤n):pack n=[(n:Int) % 128+128,(n:Int) / 128 % 128+128,(n:Int) / 16384 % 128+128,(n:Int) / 2097152 % 128+128,(n:Int) / 268435456]:=by
 unfold pack;rw [if_neg (by omega),if_neg (by omega),if_neg (by omega),if_neg (by omega)]
theorem pack_step {n:Nat} (h:128≤n) (h2:n<34359738368):pack n=((n:Int) % 128+128)::pack (n / 128):=by
 have hc:((n / 128:Nat):Int)=(n:Int) / 128:=by omega
 by_cases h3:n<16384
 ·rw [pack2 h h3,pack_small (by omega),hc]
 by_cases h4:n<2097152
 ·rw [pack3 (by omega) h4,pack2 (by omega) (by omega),hc]
  simp only [List.cons.injEq,true_and,and_true]
  omega
 by_cases h5:n<268435456
 ·rw [pack4 (by omega) h5,pack3 (by omega) (by omega),hc]
  simp only [List.cons.injEq,true_and,and_true]
  omega
 rw [pack5 (by omega),pack4 (by omega) (by omega),hc]
 simp only [List.cons.injEq,true_and,and_true]
 omega
theorem pack_len (n:Nat):1≤(pack n).length∧(pack n).length≤5:=by
 unfold pack
 repeat' split
 all_goals simp
theorem pack_byte (n:Nat) (h2:n<34359738368):∀ x ∈ pack n,0≤x∧x≤255:=by
 unfold pack
 repeat' split
 all_goals (intro x hx;simp at hx;omega)


theorem info_u8:(Tryd.prog.info? 5).map (fun i=>(i.zero,i.size,i.bytes))=some (some (.int .u8 0),1,1):=by kernel_rfl
abbrev u8s (xs:List Int):List Value:=xs.map (Value.int .u8)

theorem conv_owned {w:World} {base n:Nat} {v:Value} {xs:List Int} (h:w.ownsRow base 5 1 v n (u8s xs)) :
  (convert 22 9 v).run Tryd.prog w=.ok (.string (strOfNums xs)) w:=by
 obtain ⟨hl,h2⟩:=h
 simp at hl
 rcases h2 with ⟨rfl,rfl⟩ | ⟨g,cap,cur,rfl,hg,hh,hn,hc,hs,ht⟩
 ·have:xs=[]:=by simpa using hl
  subst this
  exact run_convert_bytes_nil w 22 5 Tryd.underlying22 Tryd.underlying5 0 0 9 Tryd.underlying9
 ·refine run_convert_bytes_arg w 22 5 Tryd.underlying22 Tryd.underlying5 g 0 n cap xs hl (fun i hi=>?_) 9 Tryd.underlying9
  have hown:w.ownsRow base 5 1 (.slice (some ⟨g,0,none⟩) n cap) n (u8s xs):=⟨by simpa using hl,.inr ⟨g,cap,cur,rfl,hg,hh,hn,hc,hs,ht⟩⟩
  have:=hown.cellAt i (by omega)
  rw [Nat.zero_add,this]
  simp [List.getElem?_eq_getElem (show i<xs.length by omega)]

theorem one_u8 (n:Int):∀ u ∈ [Value.int .u8 n],u.oneCell'=true:=by intro u hu;simp at hu;subst hu;rfl
end Go.Proofs.YtjgffnlmjmibgaaDoor
