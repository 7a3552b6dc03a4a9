/-
  Joined: StepPl, Src.
-/
import Derived.Test.YtjgffnlmjmibgaaDoorN12

namespace Go.Proofs.YtjgffnlmjmibgaaDoor
set_option maxRecDepth 100000
set_option maxHeartbeats 16000000
open Go.RowKit
set_option linter.unusedVariables false

theorem getD_set_ne {l:List Int} {k i:Nat} {v:Int} (h:i≠k):(l.set k v).getD i 0=l.getD i 0:=by
 simp [List.getD,List.getElem?_set_ne (Ne.symm h)]
theorem stepM_other (m:V4) (x:I3) {k i:Nat} (h:i≠k):(stepM m x k).1.1.getD i 0=m.1.getD i 0:=by
 unfold stepM
 repeat' split
 all_goals exact getD_set_ne h

theorem okFrom_leads {n:Nat}:∀ (xs:List I3) (j i:Nat),okFrom n j xs=true→i<xs.length→leads (xs.getD i (0,0,0)) ((j:Int)+(i:Int)) (n:Int)=true
 | [],_,_,_,h=>by simp at h
 | x::xs,j,i,h,hi=>by
  have h':=h
  simp only [okFrom,Bool.and_eq_true] at h'
  match i,hi with
  | 0,_ =>
   have:=h'.1.2
   simpa using this
  | i+1,hi =>
   have:=okFrom_leads xs (j+1) i h'.2 (by simpa using hi)
   rw [List.getD_cons_succ]
   have e:((j+1:Nat):Int)+(i:Int)=(j:Int)+((i+1:Nat):Int):=by omega
   rw [e] at this
   exact this
theorem ins_leads {rows:List (List I3)} {m:V4} (hp:progOk rows=true) (hs:shapeOk m=true) {k:Nat} (hk:k<3) (hd:doneM rows m k=false) (h7:(insM rows m k).1=7):m.1.getD k 0<(insM rows m k).2.2:=by
 obtain ⟨p,ep,hlt,hi,hok⟩:=at_ins hp hs hk hd
 have hrow:codeOk (codeM rows k)=true:=by
  unfold progOk at hp
  simp only [Bool.and_eq_true,decide_eq_true_eq,List.all_eq_true] at hp
  refine hp.2 _ ?_
  have hk':k<rows.length:=by have:=hp.1;omega
  unfold codeM
  rw [List.getD,List.getElem?_eq_getElem hk',Option.getD_some]
  exact List.getElem_mem hk'
 unfold codeOk at hrow
 simp only [Bool.and_eq_true] at hrow
 have hl:=okFrom_leads _ 0 p hrow.2 hlt
 rw [← hi] at hl
 unfold leads at hl
 rw [if_pos h7,inB_true] at hl
 omega
theorem getD_set_eq {l:List Int} {k:Nat} {v:Int} (h:k<l.length):(l.set k v).getD k 0=v:=by
 simp [List.getD,List.getElem?_set_self h]
theorem stepM_own {rows:List (List I3)} {m:V4} (hp:progOk rows=true) (hs:shapeOk m=true) {k:Nat} (hk:k<3) (hd:doneM rows m k=false):m.1.getD k 0<(stepM m (insM rows m k) k).1.1.getD k 0:=by
 have hl:=ins_leads hp hs hk hd
 have hk':k<m.1.length:=by have:=(shape_parts hs).1;omega
 generalize insM rows m k=x at hl
 have e1:=getD_set_eq (l:=m.1) (v:=m.1.getD k 0+1) hk'
 unfold stepM
 repeat' split
 all_goals first
  | (simp only [e1];omega)
  | (have:=hl (by assumption);simp only [getD_set_eq hk'];omega)

theorem mem_enab {rows:List (List I3)} {m:V4} {k:Nat}:∀ n,((k:Int) ∈ enabM rows m n)↔k<n∧canM rows m k=true
 | 0=>by simp [enabM]
 | n+1=>by
  have ih:=mem_enab (rows:=rows) (m:=m) (k:=k) n
  unfold enabM
  split
  ·rename_i h
   simp only [List.mem_append,List.mem_singleton,ih]
   constructor
   ·rintro (⟨h1,h2⟩ | h1)
    ·exact ⟨by omega,h2⟩
    ·obtain rfl:k=n:=by omega
     exact ⟨by omega,h⟩
   ·rintro ⟨h1,h2⟩
    by_cases e:k=n
    ·exact .inr (by omega)
    ·exact .inl ⟨by omega,h2⟩
  ·rename_i h
   rw [ih]
   constructor
   ·rintro ⟨h1,h2⟩
    exact ⟨by omega,h2⟩
   ·rintro ⟨h1,h2⟩
    refine ⟨?_,h2⟩
    by_cases e:k=n
    ·subst e
     exact absurd h2 h
    ·omega
theorem enab_at {rows:List (List I3)} {m:V4} {i:Nat} (hi:i<(enabM rows m 3).length):∃ k:Nat,(enabM rows m 3).getD i 0=k∧k<3∧canM rows m k=true:=by
 have hm:(enabM rows m 3)[i] ∈ enabM rows m 3:=List.getElem_mem hi
 have hall:∀ n,∀ z ∈ enabM rows m n,∃ k:Nat,z=k:=by
  intro n
  induction n with
  | zero=>intro z hz;simp [enabM] at hz
  | succ n ih =>
   intro z hz
   unfold enabM at hz
   split at hz
   ·rcases List.mem_append.1 hz with h | h
    ·exact ih z h
    ·exact ⟨n,by simpa using h⟩
   ·exact ih z hz
 obtain ⟨k,hk⟩:=hall 3 _ hm
 rw [hk] at hm
 obtain ⟨h1,h2⟩:=(mem_enab 3).1 hm
 refine ⟨k,?_,h1,h2⟩
 rw [List.getD,List.getElem?_eq_getElem hi,Option.getD_some,hk]


def Src (w:World) (p:Nat) (c:Value) (T:Nat):Prop:=∃ m sd:Nat,w.heap[p]?=some (.cells #[c,.int .i64 m,.int .i64 sd] 101 (0,0))∧m≤T∧sd≤2147483647
def Code (w:World) (p:Nat) (a:Option Addr) (n cap:Nat):Prop:=∃ zs:List Int,Ints .u8 w a n cap zs∧(∀ z ∈ zs,0≤z∧z≤255)∧n≤1048576∧∀ x,a=some x→n≠0→x.block<p

end Go.Proofs.YtjgffnlmjmibgaaDoor
