/-
  Joined: Ev0, Evs.
-/
import Derived.Laws.CopyOwn
import Derived.Laws.Tables
import Derived.Test.YtifoggpohlegmaaGreatDoorS10

namespace Go.Proofs.YtifoggpohlegmaaGreatDoor
set_option maxRecDepth 100000
set_option maxHeartbeats 16000000
open Go.RowKit Go.ChangeShapes Go.WideShapes Go.Joins
set_option linter.unusedVariables false
set_option linter.unusedSimpArgs false

abbrev I4:=Int × Int × Int × Int
def I4.val (x:I4):Value:=.agg #[.int .i64 x.1,.int .i64 x.2.1,.int .i64 x.2.2.1,.int .i64 x.2.2.2]

def depM (a b:I4):Bool:=decide (a.1=b.1) || (decide (0≤a.2.2.2) && decide (a.2.2.2=b.2.2.2) && !(decide (a.2.2.1=1) && decide (b.2.2.1=1)))

theorem specDepends_is (a b:I4) (w:World):Calls Tryz.prog 16 #[a.val,b.val] w fun e w'=>e=.returned (.bool (depM a b))∧Below w.heap.size w w':=by
 obtain ⟨a0,a1,a2,a3⟩:=a
 obtain ⟨b0,b1,b2,b3⟩:=b
 unfold I4.val
 simp only
 by_cases h0:a0=b0
 ·have hA:depM (a0,a1,a2,a3) (b0,b1,b2,b3)=true:=by simp [depM,h0]<;>omega
  have qh0:(a0 == b0)=true:=by simp [h0]
  rw [hA]
  clear hA h0
  go_enter Tryz.func16,Tryz.ntmps16
  go_wp2
  go_ret
  exact ⟨rfl,by go_grown⟩
 ·by_cases h1:0≤a3
  ·by_cases h2:a3=b3
   ·by_cases h3:a2=1
    ·by_cases h4:b2=1
     ·have hA:depM (a0,a1,a2,a3) (b0,b1,b2,b3)=false:=by simp [depM,h0,h1,h2,h3,h4]<;>omega
      have qh0:(a0 == b0)=false:=by simp [h0]
      have qh1:(decide (a3 ≥ 0))=true:=by simp;omega
      have qh2:(a3 == b3)=true:=by simp [h2]
      have qh3:(a2 == 1)=true:=by simp [h3]
      have rh3:(a2 != 1)=false:=by simp [h3]
      have qh4:(b2 == 1)=true:=by simp [h4]
      have rh4:(b2 != 1)=false:=by simp [h4]
      rw [hA]
      clear hA h0 h2 h3 h4
      go_enter Tryz.func16,Tryz.ntmps16
      go_wp2
      go_ret
      exact ⟨rfl,by go_grown⟩
     ·have hA:depM (a0,a1,a2,a3) (b0,b1,b2,b3)=true:=by simp [depM,h0,h1,h2,h3,h4]<;>omega
      have qh0:(a0 == b0)=false:=by simp [h0]
      have qh1:(decide (a3 ≥ 0))=true:=by simp;omega
      have qh2:(a3 == b3)=true:=by simp [h2]
      have qh3:(a2 == 1)=true:=by simp [h3]
      have rh3:(a2 != 1)=false:=by simp [h3]
      have qh4:(b2 == 1)=false:=by simp [h4]
      have rh4:(b2 != 1)=true:=by simp [h4]
      rw [hA]
      clear hA h0 h2 h3 h4
      go_enter Tryz.func16,Tryz.ntmps16
      go_wp2
      go_ret
      exact ⟨rfl,by go_grown⟩
    ·have hA:depM (a0,a1,a2,a3) (b0,b1,b2,b3)=true:=by simp [depM,h0,h1,h2,h3]<;>omega
     have qh0:(a0 == b0)=false:=by simp [h0]
     have qh1:(decide (a3 ≥ 0))=true:=by simp;omega
     have qh2:(a3 == b3)=true:=by simp [h2]
     have qh3:(a2 == 1)=false:=by simp [h3]
     have rh3:(a2 != 1)=true:=by simp [h3]
     rw [hA]
     clear hA h0 h2 h3
     go_enter Tryz.func16,Tryz.ntmps16
     go_wp2
     go_ret
     exact ⟨rfl,by go_grown⟩
   ·have hA:depM (a0,a1,a2,a3) (b0,b1,b2,b3)=false:=by simp [depM,h0,h1,h2]<;>omega
    have qh0:(a0 == b0)=false:=by simp [h0]
    have qh1:(decide (a3 ≥ 0))=true:=by simp;omega
    have qh2:(a3 == b3)=false:=by simp [h2]
    rw [hA]
    clear hA h0 h2
    go_enter Tryz.func16,Tryz.ntmps16
    go_wp2
    go_ret
    exact ⟨rfl,by go_grown⟩
  ·have hA:depM (a0,a1,a2,a3) (b0,b1,b2,b3)=false:=by simp [depM,h0,h1]<;>omega
   have qh0:(a0 == b0)=false:=by simp [h0]
   have qh1:(decide (a3 ≥ 0))=false:=by simp;omega
   rw [hA]
   clear hA h0
   go_enter Tryz.func16,Tryz.ntmps16
   go_wp2
   go_ret
   exact ⟨rfl,by go_grown⟩

theorem implDepends_is (a b:I4) (w:World):Calls Tryz.prog 15 #[a.val,b.val] w fun e w'=>e=.returned (.bool (depM a b))∧Below w.heap.size w w':=by
 obtain ⟨a0,a1,a2,a3⟩:=a
 obtain ⟨b0,b1,b2,b3⟩:=b
 unfold I4.val
 simp only
 by_cases h0:a0=b0
 ·have hA:depM (a0,a1,a2,a3) (b0,b1,b2,b3)=true:=by simp [depM,h0]<;>omega
  have qh0:(a0 == b0)=true:=by simp [h0]
  rw [hA]
  clear hA h0
  go_enter Tryz.func15,Tryz.ntmps15
  go_wp2
  go_ret
  exact ⟨rfl,by go_grown⟩
 ·by_cases h3:a2=1
  ·by_cases h4:b2=1
   ·by_cases h1:0≤a3
    ·by_cases h2:a3=b3
     ·have hA:depM (a0,a1,a2,a3) (b0,b1,b2,b3)=false:=by simp [depM,h0,h3,h4,h1,h2]<;>omega
      have qh0:(a0 == b0)=false:=by simp [h0]
      have qh3:(a2 == 1)=true:=by simp [h3]
      have rh3:(a2 != 1)=false:=by simp [h3]
      have qh4:(b2 == 1)=true:=by simp [h4]
      have rh4:(b2 != 1)=false:=by simp [h4]
      have qh1:(decide (a3 ≥ 0))=true:=by simp;omega
      have qh2:(a3 == b3)=true:=by simp [h2]
      rw [hA]
      clear hA h0 h3 h4 h2
      go_enter Tryz.func15,Tryz.ntmps15
      go_wp2
      go_ret
      exact ⟨rfl,by go_grown⟩
     ·have hA:depM (a0,a1,a2,a3) (b0,b1,b2,b3)=false:=by simp [depM,h0,h3,h4,h1,h2]<;>omega
      have qh0:(a0 == b0)=false:=by simp [h0]
      have qh3:(a2 == 1)=true:=by simp [h3]
      have rh3:(a2 != 1)=false:=by simp [h3]
      have qh4:(b2 == 1)=true:=by simp [h4]
      have rh4:(b2 != 1)=false:=by simp [h4]
      have qh1:(decide (a3 ≥ 0))=true:=by simp;omega
      have qh2:(a3 == b3)=false:=by simp [h2]
      rw [hA]
      clear hA h0 h3 h4 h2
      go_enter Tryz.func15,Tryz.ntmps15
      go_wp2
      go_ret
      exact ⟨rfl,by go_grown⟩
    ·have hA:depM (a0,a1,a2,a3) (b0,b1,b2,b3)=false:=by simp [depM,h0,h3,h4,h1]<;>omega
     have qh0:(a0 == b0)=false:=by simp [h0]
     have qh3:(a2 == 1)=true:=by simp [h3]
     have rh3:(a2 != 1)=false:=by simp [h3]
     have qh4:(b2 == 1)=true:=by simp [h4]
     have rh4:(b2 != 1)=false:=by simp [h4]
     have qh1:(decide (a3 ≥ 0))=false:=by simp;omega
     rw [hA]
     clear hA h0 h3 h4
     go_enter Tryz.func15,Tryz.ntmps15
     go_wp2
     go_ret
     exact ⟨rfl,by go_grown⟩
   ·by_cases h1:0≤a3
    ·by_cases h2:a3=b3
     ·have hA:depM (a0,a1,a2,a3) (b0,b1,b2,b3)=true:=by simp [depM,h0,h3,h4,h1,h2]<;>omega
      have qh0:(a0 == b0)=false:=by simp [h0]
      have qh3:(a2 == 1)=true:=by simp [h3]
      have rh3:(a2 != 1)=false:=by simp [h3]
      have qh4:(b2 == 1)=false:=by simp [h4]
      have rh4:(b2 != 1)=true:=by simp [h4]
      have qh1:(decide (a3 ≥ 0))=true:=by simp;omega
      have qh2:(a3 == b3)=true:=by simp [h2]
      rw [hA]
      clear hA h0 h3 h4 h2
      go_enter Tryz.func15,Tryz.ntmps15
      go_wp2
      go_ret
      exact ⟨rfl,by go_grown⟩
     ·have hA:depM (a0,a1,a2,a3) (b0,b1,b2,b3)=false:=by simp [depM,h0,h3,h4,h1,h2]<;>omega
      have qh0:(a0 == b0)=false:=by simp [h0]
      have qh3:(a2 == 1)=true:=by simp [h3]
      have rh3:(a2 != 1)=false:=by simp [h3]
      have qh4:(b2 == 1)=false:=by simp [h4]
      have rh4:(b2 != 1)=true:=by simp [h4]
      have qh1:(decide (a3 ≥ 0))=true:=by simp;omega
      have qh2:(a3 == b3)=false:=by simp [h2]
      rw [hA]
      clear hA h0 h3 h4 h2
      go_enter Tryz.func15,Tryz.ntmps15
      go_wp2
      go_ret
      exact ⟨rfl,by go_grown⟩
    ·have hA:depM (a0,a1,a2,a3) (b0,b1,b2,b3)=false:=by simp [depM,h0,h3,h4,h1]<;>omega
     have qh0:(a0 == b0)=false:=by simp [h0]
     have qh3:(a2 == 1)=true:=by simp [h3]
     have rh3:(a2 != 1)=false:=by simp [h3]
     have qh4:(b2 == 1)=false:=by simp [h4]
     have rh4:(b2 != 1)=true:=by simp [h4]
     have qh1:(decide (a3 ≥ 0))=false:=by simp;omega
     rw [hA]
     clear hA h0 h3 h4
     go_enter Tryz.func15,Tryz.ntmps15
     go_wp2
     go_ret
     exact ⟨rfl,by go_grown⟩
  ·by_cases h1:0≤a3
   ·by_cases h2:a3=b3
    ·have hA:depM (a0,a1,a2,a3) (b0,b1,b2,b3)=true:=by simp [depM,h0,h3,h1,h2]<;>omega
     have qh0:(a0 == b0)=false:=by simp [h0]
     have qh3:(a2 == 1)=false:=by simp [h3]
     have rh3:(a2 != 1)=true:=by simp [h3]
     have qh1:(decide (a3 ≥ 0))=true:=by simp;omega
     have qh2:(a3 == b3)=true:=by simp [h2]
     rw [hA]
     clear hA h0 h3 h2
     go_enter Tryz.func15,Tryz.ntmps15
     go_wp2
     go_ret
     exact ⟨rfl,by go_grown⟩
    ·have hA:depM (a0,a1,a2,a3) (b0,b1,b2,b3)=false:=by simp [depM,h0,h3,h1,h2]<;>omega
     have qh0:(a0 == b0)=false:=by simp [h0]
     have qh3:(a2 == 1)=false:=by simp [h3]
     have rh3:(a2 != 1)=true:=by simp [h3]
     have qh1:(decide (a3 ≥ 0))=true:=by simp;omega
     have qh2:(a3 == b3)=false:=by simp [h2]
     rw [hA]
     clear hA h0 h3 h2
     go_enter Tryz.func15,Tryz.ntmps15
     go_wp2
     go_ret
     exact ⟨rfl,by go_grown⟩
   ·have hA:depM (a0,a1,a2,a3) (b0,b1,b2,b3)=false:=by simp [depM,h0,h3,h1]<;>omega
    have qh0:(a0 == b0)=false:=by simp [h0]
    have qh3:(a2 == 1)=false:=by simp [h3]
    have rh3:(a2 != 1)=true:=by simp [h3]
    have qh1:(decide (a3 ≥ 0))=false:=by simp;omega
    rw [hA]
    clear hA h0 h3
    go_enter Tryz.func15,Tryz.ntmps15
    go_wp2
    go_ret
    exact ⟨rfl,by go_grown⟩

open Go.RowKit

def flat4:List I4→List Value
 | []=>[]
 | x::xs=>[.int .i64 x.1,.int .i64 x.2.1,.int .i64 x.2.2.1,.int .i64 x.2.2.2]++flat4 xs
theorem flat4_snoc (es:List I4) (x:I4):flat4 (es++[x])=flat4 es++[.int .i64 x.1,.int .i64 x.2.1,.int .i64 x.2.2.1,.int .i64 x.2.2.2]:=by
 induction es with
 | nil=>rfl
 | cons y ys ih=>simp only [List.cons_append,flat4,ih,List.append_assoc]
theorem flat4_at:∀ (xs:List I4) (t:Nat),t<xs.length→(flat4 xs)[t*4]?=some (.int .i64 (xs.getD t (0,0,0,0)).1)∧(flat4 xs)[t*4+1]?=some (.int .i64 (xs.getD t (0,0,0,0)).2.1)∧(flat4 xs)[t*4+2]?=some (.int .i64 (xs.getD t (0,0,0,0)).2.2.1)∧(flat4 xs)[t*4+3]?=some (.int .i64 (xs.getD t (0,0,0,0)).2.2.2)
 | [],t,h=>by simp at h
 | x::xs,0,_=>⟨rfl,rfl,rfl,rfl⟩
 | x::xs,t+1,h=>by
  have ih:=flat4_at xs t (by simpa using h)
  have e:(t+1)*4=t*4+1+1+1+1:=by omega
  simp only [flat4,List.cons_append,List.nil_append,e,List.getElem?_cons_succ,List.getD_cons_succ]
  exact ih
def Evs (w:World) (a:Option Addr) (n:Nat) (xs:List I4):Prop:=xs.length=n∧n≤maxLen∧(n=0∨∃ g,a=some ⟨g,0,none⟩∧g<w.heap.size∧∀ t,t<n→w.cell? ⟨g,t*4,none⟩=some (.int .i64 (xs.getD t (0,0,0,0)).1)∧w.cell? ⟨g,t*4+1,none⟩=some (.int .i64 (xs.getD t (0,0,0,0)).2.1)∧w.cell? ⟨g,t*4+2,none⟩=some (.int .i64 (xs.getD t (0,0,0,0)).2.2.1)∧w.cell? ⟨g,t*4+3,none⟩=some (.int .i64 (xs.getD t (0,0,0,0)).2.2.2))
theorem Evs.below {w w':World} {a:Option Addr} {n:Nat} {xs:List I4} (h:Evs w a n xs) (hb:Below w.heap.size w w'):Evs w' a n xs:=by
 obtain ⟨h1,h2,h3 | ⟨g,rfl,hl,hc⟩⟩:=h
 ·exact ⟨h1,h2,.inl h3⟩
 ·refine ⟨h1,h2,.inr ⟨g,rfl,Nat.lt_of_lt_of_le hl hb.size,fun t ht=>?_⟩⟩
  obtain ⟨c0,c1,c2,c3⟩:=hc t ht
  exact ⟨(hb.cell (p:=⟨g,_,none⟩) hl).trans c0,(hb.cell (p:=⟨g,_,none⟩) hl).trans c1,(hb.cell (p:=⟨g,_,none⟩) hl).trans c2,(hb.cell (p:=⟨g,_,none⟩) hl).trans c3⟩
end Go.Proofs.YtifoggpohlegmaaGreatDoor
