/-
  Joined: Ev0.
-/
import Derived.Test.YtmhlokahmblboaaGreatDoorK09

namespace Go.Proofs.YtmhlokahmblboaaGreatDoor
set_option maxRecDepth 100000
set_option maxHeartbeats 16000000
open Go.RowKit Go.ChangeShapes Go.WideShapes Go.Joins
set_option linter.unusedVariables false
set_option linter.unusedSimpArgs false

abbrev I4:=Int × Int × Int × Int
def I4.val (x:I4):Value:=.agg #[.int .i64 x.1,.int .i64 x.2.1,.int .i64 x.2.2.1,.int .i64 x.2.2.2]

def Z9 (a b:I4):Bool:=decide (a.1=b.1) || (decide (0≤a.2.2.2) && decide (a.2.2.2=b.2.2.2) && !(decide (a.2.2.1=1) && decide (b.2.2.1=1)))

theorem R8 (a b:I4) (w:World):Calls Tryz.prog 183 #[a.val,b.val] w fun e w'=>e=.returned (.bool (Z9 a b))∧Below w.heap.size w w':=by
 obtain ⟨a0,a1,a2,a3⟩:=a
 obtain ⟨b0,b1,b2,b3⟩:=b
 unfold I4.val
 simp only
 by_cases h0:a0=b0
 ·have hA:Z9 (a0,a1,a2,a3) (b0,b1,b2,b3)=true:=by simp [Z9,h0]<;>omega
  have qh0:(a0 == b0)=true:=by simp [h0]
  rw [hA]
  clear hA h0
  go_enter Tryz.func183,Tryz.ntmps183
  go_wp2
  go_ret
  exact ⟨rfl,by go_grown⟩
 by_cases h1:0≤a3
 ·by_cases h2:a3=b3
  ·by_cases h3:a2=1
   ·by_cases h4:b2=1
    ·have hA:Z9 (a0,a1,a2,a3) (b0,b1,b2,b3)=false:=by simp [Z9,h0,h1,h2,h3,h4]<;>omega
     have qh0:(a0 == b0)=false:=by simp [h0]
     have qh1:(decide (a3 ≥ 0))=true:=by simp;omega
     have qh2:(a3 == b3)=true:=by simp [h2]
     have qh3:(a2 == 1)=true:=by simp [h3]
     have rh3:(a2 != 1)=false:=by simp [h3]
     have qh4:(b2 == 1)=true:=by simp [h4]
     have rh4:(b2 != 1)=false:=by simp [h4]
     rw [hA]
     clear hA h0 h2 h3 h4
     go_enter Tryz.func183,Tryz.ntmps183
     go_wp2
     go_ret
     exact ⟨rfl,by go_grown⟩
    have hA:Z9 (a0,a1,a2,a3) (b0,b1,b2,b3)=true:=by simp [Z9,h0,h1,h2,h3,h4]<;>omega
    have qh0:(a0 == b0)=false:=by simp [h0]
    have qh1:(decide (a3 ≥ 0))=true:=by simp;omega
    have qh2:(a3 == b3)=true:=by simp [h2]
    have qh3:(a2 == 1)=true:=by simp [h3]
    have rh3:(a2 != 1)=false:=by simp [h3]
    have qh4:(b2 == 1)=false:=by simp [h4]
    have rh4:(b2 != 1)=true:=by simp [h4]
    rw [hA]
    clear hA h0 h2 h3 h4
    go_enter Tryz.func183,Tryz.ntmps183
    go_wp2
    go_ret
    exact ⟨rfl,by go_grown⟩
   have hA:Z9 (a0,a1,a2,a3) (b0,b1,b2,b3)=true:=by simp [Z9,h0,h1,h2,h3]<;>omega
   have qh0:(a0 == b0)=false:=by simp [h0]
   have qh1:(decide (a3 ≥ 0))=true:=by simp;omega
   have qh2:(a3 == b3)=true:=by simp [h2]
   have qh3:(a2 == 1)=false:=by simp [h3]
   have rh3:(a2 != 1)=true:=by simp [h3]
   rw [hA]
   clear hA h0 h2 h3
   go_enter Tryz.func183,Tryz.ntmps183
   go_wp2
   go_ret
   exact ⟨rfl,by go_grown⟩
  have hA:Z9 (a0,a1,a2,a3) (b0,b1,b2,b3)=false:=by simp [Z9,h0,h1,h2]<;>omega
  have qh0:(a0 == b0)=false:=by simp [h0]
  have qh1:(decide (a3 ≥ 0))=true:=by simp;omega
  have qh2:(a3 == b3)=false:=by simp [h2]
  rw [hA]
  clear hA h0 h2
  go_enter Tryz.func183,Tryz.ntmps183
  go_wp2
  go_ret
  exact ⟨rfl,by go_grown⟩
 have hA:Z9 (a0,a1,a2,a3) (b0,b1,b2,b3)=false:=by simp [Z9,h0,h1]<;>omega
 have qh0:(a0 == b0)=false:=by simp [h0]
 have qh1:(decide (a3 ≥ 0))=false:=by simp;omega
 rw [hA]
 clear hA h0
 go_enter Tryz.func183,Tryz.ntmps183
 go_wp2
 go_ret
 exact ⟨rfl,by go_grown⟩

theorem VV (a b:I4) (w:World):Calls Tryz.prog 89 #[a.val,b.val] w fun e w'=>e=.returned (.bool (Z9 a b))∧Below w.heap.size w w':=by
 obtain ⟨a0,a1,a2,a3⟩:=a
 obtain ⟨b0,b1,b2,b3⟩:=b
 unfold I4.val
 simp only
 by_cases h0:a0=b0
 ·have hA:Z9 (a0,a1,a2,a3) (b0,b1,b2,b3)=true:=by simp [Z9,h0]<;>omega
  have qh0:(a0 == b0)=true:=by simp [h0]
  rw [hA]
  clear hA h0
  go_enter Tryz.func89,Tryz.ntmps89
  go_wp2
  go_ret
  exact ⟨rfl,by go_grown⟩
 by_cases h3:a2=1
 ·by_cases h4:b2=1
  ·by_cases h1:0≤a3
   ·by_cases h2:a3=b3
    ·have hA:Z9 (a0,a1,a2,a3) (b0,b1,b2,b3)=false:=by simp [Z9,h0,h3,h4,h1,h2]<;>omega
     have qh0:(a0 == b0)=false:=by simp [h0]
     have qh3:(a2 == 1)=true:=by simp [h3]
     have rh3:(a2 != 1)=false:=by simp [h3]
     have qh4:(b2 == 1)=true:=by simp [h4]
     have rh4:(b2 != 1)=false:=by simp [h4]
     have qh1:(decide (a3 ≥ 0))=true:=by simp;omega
     have qh2:(a3 == b3)=true:=by simp [h2]
     rw [hA]
     clear hA h0 h3 h4 h2
     go_enter Tryz.func89,Tryz.ntmps89
     go_wp2
     go_ret
     exact ⟨rfl,by go_grown⟩
    have hA:Z9 (a0,a1,a2,a3) (b0,b1,b2,b3)=false:=by simp [Z9,h0,h3,h4,h1,h2]<;>omega
    have qh0:(a0 == b0)=false:=by simp [h0]
    have qh3:(a2 == 1)=true:=by simp [h3]
    have rh3:(a2 != 1)=false:=by simp [h3]
    have qh4:(b2 == 1)=true:=by simp [h4]
    have rh4:(b2 != 1)=false:=by simp [h4]
    have qh1:(decide (a3 ≥ 0))=true:=by simp;omega
    have qh2:(a3 == b3)=false:=by simp [h2]
    rw [hA]
    clear hA h0 h3 h4 h2
    go_enter Tryz.func89,Tryz.ntmps89
    go_wp2
    go_ret
    exact ⟨rfl,by go_grown⟩
   have hA:Z9 (a0,a1,a2,a3) (b0,b1,b2,b3)=false:=by simp [Z9,h0,h3,h4,h1]<;>omega
   have qh0:(a0 == b0)=false:=by simp [h0]
   have qh3:(a2 == 1)=true:=by simp [h3]
   have rh3:(a2 != 1)=false:=by simp [h3]
   have qh4:(b2 == 1)=true:=by simp [h4]
   have rh4:(b2 != 1)=false:=by simp [h4]
   have qh1:(decide (a3 ≥ 0))=false:=by simp;omega
   rw [hA]
   clear hA h0 h3 h4
   go_enter Tryz.func89,Tryz.ntmps89
   go_wp2
   go_ret
   exact ⟨rfl,by go_grown⟩
  by_cases h1:0≤a3
  ·by_cases h2:a3=b3
   ·have hA:Z9 (a0,a1,a2,a3) (b0,b1,b2,b3)=true:=by simp [Z9,h0,h3,h4,h1,h2]<;>omega
    have qh0:(a0 == b0)=false:=by simp [h0]
    have qh3:(a2 == 1)=true:=by simp [h3]
    have rh3:(a2 != 1)=false:=by simp [h3]
    have qh4:(b2 == 1)=false:=by simp [h4]
    have rh4:(b2 != 1)=true:=by simp [h4]
    have qh1:(decide (a3 ≥ 0))=true:=by simp;omega
    have qh2:(a3 == b3)=true:=by simp [h2]
    rw [hA]
    clear hA h0 h3 h4 h2
    go_enter Tryz.func89,Tryz.ntmps89
    go_wp2
    go_ret
    exact ⟨rfl,by go_grown⟩
   have hA:Z9 (a0,a1,a2,a3) (b0,b1,b2,b3)=false:=by simp [Z9,h0,h3,h4,h1,h2]<;>omega
   have qh0:(a0 == b0)=false:=by simp [h0]
   have qh3:(a2 == 1)=true:=by simp [h3]
   have rh3:(a2 != 1)=false:=by simp [h3]
   have qh4:(b2 == 1)=false:=by simp [h4]
   have rh4:(b2 != 1)=true:=by simp [h4]
   have qh1:(decide (a3 ≥ 0))=true:=by simp;omega
   have qh2:(a3 == b3)=false:=by simp [h2]
   rw [hA]
   clear hA h0 h3 h4 h2
   go_enter Tryz.func89,Tryz.ntmps89
   go_wp2
   go_ret
   exact ⟨rfl,by go_grown⟩
  have hA:Z9 (a0,a1,a2,a3) (b0,b1,b2,b3)=false:=by simp [Z9,h0,h3,h4,h1]<;>omega
  have qh0:(a0 == b0)=false:=by simp [h0]
  have qh3:(a2 == 1)=true:=by simp [h3]
  have rh3:(a2 != 1)=false:=by simp [h3]
  have qh4:(b2 == 1)=false:=by simp [h4]
  have rh4:(b2 != 1)=true:=by simp [h4]
  have qh1:(decide (a3 ≥ 0))=false:=by simp;omega
  rw [hA]
  clear hA h0 h3 h4
  go_enter Tryz.func89,Tryz.ntmps89
  go_wp2
  go_ret
  exact ⟨rfl,by go_grown⟩
 by_cases h1:0≤a3
 ·by_cases h2:a3=b3
  ·have hA:Z9 (a0,a1,a2,a3) (b0,b1,b2,b3)=true:=by simp [Z9,h0,h3,h1,h2]<;>omega
   have qh0:(a0 == b0)=false:=by simp [h0]
   have qh3:(a2 == 1)=false:=by simp [h3]
   have rh3:(a2 != 1)=true:=by simp [h3]
   have qh1:(decide (a3 ≥ 0))=true:=by simp;omega
   have qh2:(a3 == b3)=true:=by simp [h2]
   rw [hA]
   clear hA h0 h3 h2
   go_enter Tryz.func89,Tryz.ntmps89
   go_wp2
   go_ret
   exact ⟨rfl,by go_grown⟩
  have hA:Z9 (a0,a1,a2,a3) (b0,b1,b2,b3)=false:=by simp [Z9,h0,h3,h1,h2]<;>omega
  have qh0:(a0 == b0)=false:=by simp [h0]
  have qh3:(a2 == 1)=false:=by simp [h3]
  have rh3:(a2 != 1)=true:=by simp [h3]
  have qh1:(decide (a3 ≥ 0))=true:=by simp;omega
  have qh2:(a3 == b3)=false:=by simp [h2]
  rw [hA]
  clear hA h0 h3 h2
  go_enter Tryz.func89,Tryz.ntmps89
  go_wp2
  go_ret
  exact ⟨rfl,by go_grown⟩
 have hA:Z9 (a0,a1,a2,a3) (b0,b1,b2,b3)=false:=by simp [Z9,h0,h3,h1]<;>omega
 have qh0:(a0 == b0)=false:=by simp [h0]
 have qh3:(a2 == 1)=false:=by simp [h3]
 have rh3:(a2 != 1)=true:=by simp [h3]
 have qh1:(decide (a3 ≥ 0))=false:=by simp;omega
 rw [hA]
 clear hA h0 h3
 go_enter Tryz.func89,Tryz.ntmps89
 go_wp2
 go_ret
 exact ⟨rfl,by go_grown⟩

end Go.Proofs.YtmhlokahmblboaaGreatDoor
