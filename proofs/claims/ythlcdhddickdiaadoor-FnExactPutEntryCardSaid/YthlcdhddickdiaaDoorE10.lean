/-
  Joined: Ent1.
-/
import Derived.Test.YthlcdhddickdiaaDoorE06
import Derived.Test.YthlcdhddickdiaaDoorE07
import Derived.Test.YthlcdhddickdiaaDoorE09

namespace Go.Proofs.YthlcdhddickdiaaDoor
set_option maxRecDepth 100000
set_option maxHeartbeats 16000000
open Go.RowKit
set_option linter.unusedVariables false
set_option linter.unusedSimpArgs false

def costE (e:E3):Nat:=e.1.size+e.2.1.length+e.2.2.length
def costT (es:List E3):Nat:=(es.map costE).sum
def SzC (left:Int) (c:Nat) (r:Int):Prop:=r=-1∨(0≤r∧r=left - c)
theorem szBugS_neg (a:Option Addr) (len cap:Nat) (left:Int) (w:World) (hl:len≤maxLen) (h0:0≤left) (h1:left≤2 ^ 20) (h:left - len<0) :
  Calls Tryd.prog 26 #[.slice a len cap,.int .i64 left] w fun e w'=>e=.returned (.int .i64 (-1))∧w=w':=by
 have k:=szBugS_less a len cap left w hl h0 h1
 unfold less at k
 rw [if_pos h] at k
 exact k
theorem szBugS_pos (a:Option Addr) (len cap:Nat) (left:Int) (w:World) (hl:len≤maxLen) (h0:0≤left) (h1:left≤2 ^ 20) (h:0≤left - len) :
  Calls Tryd.prog 26 #[.slice a len cap,.int .i64 left] w fun e w'=>e=.returned (.int .i64 (left - len))∧w=w':=by
 have k:=szBugS_less a len cap left w hl h0 h1
 unfold less at k
 rw [if_neg (by omega)] at k
 exact k

theorem szEntry_any (e:E3) (s:Sl2) (left:Int) (w:World) (h:Emem w s e) (h0:0≤left) (h1:left≤2 ^ 20) :
  Calls Tryd.prog 7 #[entV e.1 s,.int .i64 left] w fun x w'=>(∃ r,x=.returned (.int .i64 r)∧SzC left (costE e) r)∧Below w.heap.size w w':=by
 obtain ⟨⟨hk,_⟩,hB,hF⟩:=h
 have l1:=hB.1
 have l2:=hF.1.1
 have q1:=Nat.le_trans hB.2.1 hB.2.2.1
 have q2:=Nat.le_trans hF.1.2.1 hF.1.2.2.1
 clear hB hF
 obtain ⟨k,bs,zs⟩:=e
 obtain ⟨⟨a1,n1,c1⟩,⟨a2,n2,c2⟩⟩:=s
 unfold entV costE
 simp only at *
 rw [l1,l2]
 unfold maxLen at hk
 have hb:Below w.heap.size w (w.alloc (.cells #[.string k,.slice a1 n1 c1,.slice a2 n2 c2] 28)):=by go_grown
 have hw1:IntKind.i64.wrap (left - (k.size:Int))=left - (k.size:Int):=by rw [IntKind.wrap_i64];omega
 by_cases g0:left - (k.size:Int)<0
 ·go_enter Tryd.func7,Tryd.ntmps7
  go_wp2
  go_ret
  exact ⟨⟨_,rfl,.inl rfl⟩,hb⟩
 by_cases g1:left - (k.size:Int) - n1<0
 ·have kB:=fun W=>szBugS_neg a1 n1 c1 (left - (k.size:Int)) W q1 (by omega) (by omega) g1
  go_enter Tryd.func7,Tryd.ntmps7
  go_wp2_with fail
  refine (kB _).mono ?_
  rintro x w1 ⟨rfl,rfl⟩
  go_wp2
  go_ret
  exact ⟨⟨_,rfl,.inl rfl⟩,hb⟩
 have kB:=fun W=>szBugS_pos a1 n1 c1 (left - (k.size:Int)) W q1 (by omega) (by omega) (by omega)
 by_cases g2:left - (k.size:Int) - n1 - n2<0
 ·have kC:=fun W=>szIntS_neg a2 n2 c2 (left - (k.size:Int) - n1) W q2 (by omega) (by omega) g2
  have hn1:¬ left - (k.size:Int) - n1<0:=g1
  go_enter Tryd.func7,Tryd.ntmps7
  go_wp2_with fail
  refine (kB _).mono ?_
  rintro x w1 ⟨rfl,rfl⟩
  go_wp2_with fail
  refine (kC _).mono ?_
  rintro x w1 ⟨rfl,rfl⟩
  go_wp2
  go_ret
  exact ⟨⟨_,rfl,.inl rfl⟩,hb⟩
 ·have kC:=fun W=>szIntS_pos a2 n2 c2 (left - (k.size:Int) - n1) W q2 (by omega) (by omega) (by omega)
  have hr:SzC left (k.size+n1+n2) (left - (k.size:Int) - n1 - n2):=.inr ⟨by omega,by omega⟩
  go_enter Tryd.func7,Tryd.ntmps7
  go_wp2_with fail
  refine (kB _).mono ?_
  rintro x w1 ⟨rfl,rfl⟩
  go_wp2_with fail
  refine (kC _).mono ?_
  rintro x w1 ⟨rfl,rfl⟩
  go_wp2
  go_ret
  exact ⟨⟨_,rfl,hr⟩,hb⟩

theorem costT_snoc {es:List E3} {t:Nat} (h:t<es.length):costT (es.take (t+1))=costT (es.take t)+costE (es.getD t e3d):=by
 unfold costT
 have e:es.take (t+1)=es.take t++[es.getD t e3d]:=by
  rw [List.take_add_one,List.getElem?_eq_getElem h,List.getD,List.getElem?_eq_getElem h]
  rfl
 rw [e,List.map_append,List.sum_append]
 simp

theorem szEntryS_any (a:Option Addr) (len cap:Nat) (es:List E3) (left:Int) (w:World) (h:Ents w a len cap es) (h0:0≤left) (h1:left≤2 ^ 20) :
  Calls Tryd.prog 25 #[.slice a len cap,.int .i64 left] w fun x w'=>(∃ r,x=.returned (.int .i64 r)∧SzC left (len+costT es) r)∧Below w.heap.size w w':=by
 obtain ⟨hl,hlc,hcm,hcase⟩:=h
 unfold maxLen at hcm
 by_cases g0:left - (len:Int)<0
 ·go_enter Tryd.func25,Tryd.ntmps25
  go_wp2
  go_ret
  exact ⟨⟨_,rfl,.inl rfl⟩,Below.refl _ _⟩
 go_enter Tryd.func25,Tryd.ntmps25
 go_wp2_with fail
 go_loopw [1,5] (fun sl si wr=>∃ (k:Nat) (l:Int),k≤len∧0≤l∧l≤1048576∧Hid (l=left - len - costT (es.take k))∧si=.int .i64 k∧sl=.int .i64 l∧Below w.heap.size w wr) (fun _ si _=>len - (intOf si).toNat)
 case atStart=>exact ⟨0,left - len,by omega,by omega,by omega,by rw [Hid];simp [costT],rfl,rfl,Below.refl _ _⟩
 case round =>
  obtain ⟨k,l,hk,hl0,hl2,hl1,rfl,rfl,bw⟩:=hrel
  by_cases hlt:k<len
  ·rcases hcase with e0 | ⟨b,off,rfl,hblt,hcell⟩
   ·omega
   obtain ⟨s,c0,c1,c2,hm⟩:=hcell k hlt
   have hct:Hid (costT (es.take (k+1))=costT (es.take k)+costE (es.getD k e3d)):=costT_snoc (es:=es) (t:=k) (by omega)
   have kE:=fun W (hb:Below w.heap.size w W)=>szEntry_any (es.getD k e3d) s l W (hm.below hb) hl0 hl2
   replace c0:=cell8 bw c0
   replace c1:=cell8 bw c1
   replace c2:=cell8 bw c2
   clear hcell hm
   generalize es.getD k e3d=x at *
   generalize costE x=cx at *
   obtain ⟨xk,xb,xz⟩:=x
   obtain ⟨⟨a1,n1,d1⟩,⟨a2,n2,d2⟩⟩:=s
   unfold entV at kE
   simp only at c0 c1 c2 kE
   have hlt2:(k:Int)<(len:Int):=by omega
   have hk0:(0:Int)≤(k:Int):=by omega
   go_wp2_with fail
   refine (kE _ bw).mono ?_
   rintro x w1 ⟨⟨r,rfl,hr⟩,hb⟩
   replace bw:=bel8 bw hb
   clear hb c0 c1 c2 kE
   rcases hr with rfl | ⟨hr0,hr1⟩
   ·go_wp2
    go_ret
    exact ⟨⟨_,rfl,.inl rfl⟩,bw⟩
   ·have hn:¬ r<0:=by omega
    have HR:Hid (r=left - len - costT (es.take (k+1))):=by rw [Hid,hct.out,hr1,hl1.out];omega
    have hr2:r≤1048576:=by omega
    clear hr1 hct hl1
    go_wp2
    go_roundw
    case rel=>exact ⟨k+1,r,by omega,hr0,hr2,HR,by go_num,rfl,bw⟩
    case measure=>simp [intOf];omega
  ·obtain rfl:k=len:=by omega
   have e9:es.take k=es:=List.take_of_length_le (by omega)
   rw [e9] at hl1
   clear e9
   have hfin:SzC left (k+costT es) l:=.inr ⟨hl0,by rw [hl1.out];omega⟩
   clear hl1
   go_wp2
   go_ret
   exact ⟨⟨_,rfl,hfin⟩,bw⟩

theorem szMemo_any (a:Option Addr) (len cap:Nat) (es:List E3) (left:Int) (w:World) (h:Ents w a len cap es) (h0:0≤left) (h1:left≤2 ^ 20) :
  Calls Tryd.prog 6 #[.agg #[.slice a len cap],.int .i64 left] w fun x w'=>(∃ r,x=.returned (.int .i64 r)∧SzC left (len+costT es) r)∧Below w.heap.size w w':=by
 have kE:=fun W (hb:Below w.heap.size w W)=>szEntryS_any a len cap es left W (h.below hb) h0 h1
 have bw:Below w.heap.size w (w.alloc (.cells #[.slice a len cap] 24)):=by go_grown
 go_enter Tryd.func6,Tryd.ntmps6
 go_wp2_with fail
 refine (kE _ bw).mono ?_
 rintro x w1 ⟨⟨r,rfl,hr⟩,hb⟩
 replace bw:=bel8 bw hb
 clear hb kE
 have hr':=hr
 rcases hr with rfl | ⟨hr0,hr1⟩
 ·go_wp2
  go_ret
  exact ⟨⟨_,rfl,hr'⟩,bw⟩
 ·have hn:¬ r<0:=by omega
  clear hr1
  go_wp2
  go_ret
  exact ⟨⟨_,rfl,hr'⟩,bw⟩
theorem cost_at {es:List E3} {t:Nat} (h:t<es.length):costE (es.getD t e3d)≤costT es:=by
 have h1:=costT_snoc h
 have e2:costT es=costT (es.take (t+1))+costT (es.drop (t+1)):=by
  unfold costT
  rw [← List.sum_append,← List.map_append,List.take_append_drop]
 omega
end Go.Proofs.YthlcdhddickdiaaDoor
