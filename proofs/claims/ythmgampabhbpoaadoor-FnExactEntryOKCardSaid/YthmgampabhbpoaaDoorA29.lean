/-
  Joined: Ent1.
-/
import Derived.Shelf.Abstract
import Derived.Laws.BytesArg
import Derived.Deep.RegionLaw
import Derived.Laws.OwnMore
import Derived.Maps.AppendAt
import Derived.Lib.Hide
import Derived.Test.YthmgampabhbpoaaDoorA08
import Derived.Test.YthmgampabhbpoaaDoorA09
import Derived.Test.YthmgampabhbpoaaDoorA21

namespace Go.Proofs.YthmgampabhbpoaaDoor
set_option maxRecDepth 100000
set_option maxHeartbeats 16000000
open Go.RowKit
set_option linter.unusedVariables false
set_option linter.unusedSimpArgs false

def costE (e:E3):Nat:=e.1.size+e.2.1.length+e.2.2.length
def SzC (left:Int) (c:Nat) (r:Int):Prop:=r=-1∨(0≤r∧r=left - c)
theorem szBugS_neg (a:Option Addr) (len cap:Nat) (left:Int) (w:World) (hl:len≤maxLen) (h0:0≤left) (h1:left≤2 ^ 20) (h:left - len<0) :
  Calls Tryd.prog 34 #[.slice a len cap,.int .i64 left] w fun e w'=>e=.returned (.int .i64 (-1))∧w=w':=by
 have k:=szBugS_less a len cap left w hl h0 h1
 unfold less at k
 rw [if_pos h] at k
 exact k
theorem szBugS_pos (a:Option Addr) (len cap:Nat) (left:Int) (w:World) (hl:len≤maxLen) (h0:0≤left) (h1:left≤2 ^ 20) (h:0≤left - len) :
  Calls Tryd.prog 34 #[.slice a len cap,.int .i64 left] w fun e w'=>e=.returned (.int .i64 (left - len))∧w=w':=by
 have k:=szBugS_less a len cap left w hl h0 h1
 unfold less at k
 rw [if_neg (by omega)] at k
 exact k

theorem szEntry_any (e:E3) (s:Sl2) (left:Int) (w:World) (h:Emem w s e) (h0:0≤left) (h1:left≤2 ^ 20) :
  Calls Tryd.prog 10 #[entV e.1 s,.int .i64 left] w fun x w'=>(∃ r,x=.returned (.int .i64 r)∧SzC left (costE e) r)∧Below w.heap.size w w':=by
 obtain ⟨⟨hk,_⟩,hB,hF⟩:=h
 have l1:=hB.1
 have l2:=hF.1.1
 have q1:=Nat.le_trans hB.2.1 hB.2.2.1
 have q2:=Nat.le_trans hF.1.2.1 hF.1.2.2.1
 clear hB hF
 obtain ⟨k,bs,zs⟩:=e
 obtain ⟨⟨a1,n1,c1⟩,⟨a2,n2,c2⟩⟩:=s
 unfold entV costE
 simp only at *
 rw [l1,l2]
 unfold maxLen at hk
 have hb:Below w.heap.size w (w.alloc (.cells #[.string k,.slice a1 n1 c1,.slice a2 n2 c2] 25)):=by go_grown
 have hw1:IntKind.i64.wrap (left - (k.size:Int))=left - (k.size:Int):=by rw [IntKind.wrap_i64];omega
 by_cases g0:left - (k.size:Int)<0
 ·go_enter Tryd.func10,Tryd.ntmps10
  go_wp2
  go_ret
  exact ⟨⟨_,rfl,.inl rfl⟩,hb⟩
 by_cases g1:left - (k.size:Int) - n1<0
 ·have kB:=fun W=>szBugS_neg a1 n1 c1 (left - (k.size:Int)) W q1 (by omega) (by omega) g1
  go_enter Tryd.func10,Tryd.ntmps10
  go_wp2_with fail
  refine (kB _).mono ?_
  rintro x w1 ⟨rfl,rfl⟩
  go_wp2
  go_ret
  exact ⟨⟨_,rfl,.inl rfl⟩,hb⟩
 have kB:=fun W=>szBugS_pos a1 n1 c1 (left - (k.size:Int)) W q1 (by omega) (by omega) (by omega)
 by_cases g2:left - (k.size:Int) - n1 - n2<0
 ·have kC:=fun W=>szIntS_neg a2 n2 c2 (left - (k.size:Int) - n1) W q2 (by omega) (by omega) g2
  have hn1:¬ left - (k.size:Int) - n1<0:=g1
  go_enter Tryd.func10,Tryd.ntmps10
  go_wp2_with fail
  refine (kB _).mono ?_
  rintro x w1 ⟨rfl,rfl⟩
  go_wp2_with fail
  refine (kC _).mono ?_
  rintro x w1 ⟨rfl,rfl⟩
  go_wp2
  go_ret
  exact ⟨⟨_,rfl,.inl rfl⟩,hb⟩
 ·have kC:=fun W=>szIntS_pos a2 n2 c2 (left - (k.size:Int) - n1) W q2 (by omega) (by omega) (by omega)
  have hr:SzC left (k.size+n1+n2) (left - (k.size:Int) - n1 - n2):=.inr ⟨by omega,by omega⟩
  go_enter Tryd.func10,Tryd.ntmps10
  go_wp2_with fail
  refine (kB _).mono ?_
  rintro x w1 ⟨rfl,rfl⟩
  go_wp2_with fail
  refine (kC _).mono ?_
  rintro x w1 ⟨rfl,rfl⟩
  go_wp2
  go_ret
  exact ⟨⟨_,rfl,hr⟩,hb⟩

end Go.Proofs.YthmgampabhbpoaaDoor
