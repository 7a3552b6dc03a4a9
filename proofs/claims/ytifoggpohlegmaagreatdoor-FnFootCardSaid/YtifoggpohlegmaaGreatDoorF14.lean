/-
  Joined: StepPl, Src.
-/
import Derived.Test.YtifoggpohlegmaaGreatDoorF08

namespace Go.Proofs.YtifoggpohlegmaaGreatDoor
set_option maxRecDepth 100000
set_option maxHeartbeats 16000000
open Go.RowKit
set_option linter.unusedVariables false

theorem getD_set_ne {l:List Int} {k i:Nat} {v:Int} (h:i≠k):(l.set k v).getD i 0=l.getD i 0:=by
 simp [List.getD,List.getElem?_set_ne (Ne.symm h)]
theorem stepM_other (m:V4) (x:I3) {k i:Nat} (h:i≠k):(stepM m x k).1.1.getD i 0=m.1.getD i 0:=by
 unfold stepM
 repeat' split
 all_goals exact getD_set_ne h

theorem okFrom_leads {n:Nat}:∀ (xs:List I3) (j i:Nat),okFrom n j xs=true→i<xs.length→leads (xs.getD i (0,0,0)) ((j:Int)+(i:Int)) (n:Int)=true
 | [],_,_,_,h=>by simp at h
 | x::xs,j,i,h,hi=>by
  have h':=h
  simp only [okFrom,Bool.and_eq_true] at h'
  match i,hi with
  | 0,_ =>
   have:=h'.1.2
   simpa using this
  | i+1,hi =>
   have:=okFrom_leads xs (j+1) i h'.2 (by simpa using hi)
   rw [List.getD_cons_succ]
   have e:((j+1:Nat):Int)+(i:Int)=(j:Int)+((i+1:Nat):Int):=by omega
   rw [e] at this
   exact this
theorem ins_leads {rows:List (List I3)} {m:V4} (hp:progOk rows=true) (hs:shapeOk m=true) {k:Nat} (hk:k<3) (hd:doneM rows m k=false) (h7:(insM rows m k).1=7):m.1.getD k 0<(insM rows m k).2.2:=by
 obtain ⟨p,ep,hlt,hi,hok⟩:=at_ins hp hs hk hd
 have hrow:codeOk (codeM rows k)=true:=by
  unfold progOk at hp
  simp only [Bool.and_eq_true,decide_eq_true_eq,List.all_eq_true] at hp
  refine hp.2 _ ?_
  have hk':k<rows.length:=by have:=hp.1;omega
  unfold codeM
  rw [List.getD,List.getElem?_eq_getElem hk',Option.getD_some]
  exact List.getElem_mem hk'
 unfold codeOk at hrow
 simp only [Bool.and_eq_true] at hrow
 have hl:=okFrom_leads _ 0 p hrow.2 hlt
 rw [← hi] at hl
 unfold leads at hl
 rw [if_pos h7,inB_true] at hl
 omega
theorem getD_set_eq {l:List Int} {k:Nat} {v:Int} (h:k<l.length):(l.set k v).getD k 0=v:=by
 simp [List.getD,List.getElem?_set_self h]
theorem stepM_own {rows:List (List I3)} {m:V4} (hp:progOk rows=true) (hs:shapeOk m=true) {k:Nat} (hk:k<3) (hd:doneM rows m k=false):m.1.getD k 0<(stepM m (insM rows m k) k).1.1.getD k 0:=by
 have hl:=ins_leads hp hs hk hd
 have hk':k<m.1.length:=by have:=(shape_parts hs).1;omega
 generalize insM rows m k=x at hl
 have e1:=getD_set_eq (l:=m.1) (v:=m.1.getD k 0+1) hk'
 unfold stepM
 repeat' split
 all_goals first
  | (simp only [e1];omega)
  | (have:=hl (by assumption);simp only [getD_set_eq hk'];omega)

theorem mem_enab {rows:List (List I3)} {m:V4} {k:Nat}:∀ n,((k:Int) ∈ enabM rows m n)↔k<n∧canM rows m k=true
 | 0=>by simp [enabM]
 | n+1=>by
  have ih:=mem_enab (rows:=rows) (m:=m) (k:=k) n
  unfold enabM
  split
  ·rename_i h
   simp only [List.mem_append,List.mem_singleton,ih]
   constructor
   ·rintro (⟨h1,h2⟩ | h1)
    ·exact ⟨by omega,h2⟩
    ·obtain rfl:k=n:=by omega
     exact ⟨by omega,h⟩
   ·rintro ⟨h1,h2⟩
    by_cases e:k=n
    ·exact .inr (by omega)
    ·exact .inl ⟨by omega,h2⟩
  ·rename_i h
   rw [ih]
   constructor
   ·rintro ⟨h1,h2⟩
    exact ⟨by omega,h2⟩
   ·rintro ⟨h1,h2⟩
    refine ⟨?_,h2⟩
    by_cases e:k=n
    ·subst e
     exact absurd h2 h
    ·omega
theorem enab_at {rows:List (List I3)} {m:V4} {i:Nat} (hi:i<(enabM rows m 3).length):∃ k:Nat,(enabM rows m 3).getD i 0=k∧k<3∧canM rows m k=true:=by
 have hm:(enabM rows m 3)[i] ∈ enabM rows m 3:=List.getElem_mem hi
 have hall:∀ n,∀ z ∈ enabM rows m n,∃ k:Nat,z=k:=by
  intro n
  induction n with
  | zero=>intro z hz;simp [enabM] at hz
  | succ n ih =>
   intro z hz
   unfold enabM at hz
   split at hz
   ·rcases List.mem_append.1 hz with h | h
    ·exact ih z h
    ·exact ⟨n,by simpa using h⟩
   ·exact ih z hz
 obtain ⟨k,hk⟩:=hall 3 _ hm
 rw [hk] at hm
 obtain ⟨h1,h2⟩:=(mem_enab 3).1 hm
 refine ⟨k,?_,h1,h2⟩
 rw [List.getD,List.getElem?_eq_getElem hi,Option.getD_some,hk]


def Src (w:World) (p:Nat) (c:Value) (T:Nat):Prop:=∃ m sd:Nat,w.heap[p]?=some (.cells #[c,.int .i64 m,.int .i64 sd] 157 (0,0))∧m≤T∧sd≤2147483647
def Code (w:World) (p:Nat) (a:Option Addr) (n cap:Nat):Prop:=∃ zs:List Int,Ints .u8 w a n cap zs∧(∀ z ∈ zs,0≤z∧z≤255)∧n≤1048576∧∀ x,a=some x→n≠0→x.block<p

theorem src_cells {w:World} {p:Nat} {c x y:Value} {t:TypeId} (h:w.heap[p]?=some (.cells #[c,x,y] t (0,0))) :
  w.cell? ⟨p,0,none⟩=some c∧w.cell? ⟨p,1,none⟩=some x∧w.cell? ⟨p,2,none⟩=some y∧w.frozen? ⟨p,1,none⟩=false∧w.frozen? ⟨p,2,none⟩=false:=
 ⟨by rw [cell_of_row w p 0 _ _ _ h];rfl,by rw [cell_of_row w p 1 _ _ _ h];rfl,by rw [cell_of_row w p 2 _ _ _ h];rfl,frozen_of_row w p 1 _ _ h,frozen_of_row w p 2 _ _ h⟩

def Stepped (p:Nat) (w w':World):Prop:=Below p w w'∧w'.heap.size=w.heap.size∧∀ k,k≠p→w'.heap[k]?=w.heap[k]?

theorem byte_any (p T:Nat) (a:Option Addr) (n cap:Nat) (w:World) (hS:Src w p (.slice a n cap) T) (hC:Code w p a n cap) (hT:T≤1000000) :
  Calls Tryz.prog 166 #[.pointer (some ⟨p,0,none⟩)] w fun e w'=>(∃ v:Nat,v≤255∧e=.returned (.int .i64 v))∧Src w' p (.slice a n cap) (T+1)∧Stepped p w w':=by
 obtain ⟨m,sd,hh,hm,hsd⟩:=hS
 obtain ⟨c0,c1,c2,f1,f2⟩:=src_cells hh
 obtain ⟨zs,⟨hl,hlc,hcm,hcase⟩,hz,hn,hbelow⟩:=hC
 unfold maxLen at hcm
 by_cases hin:m+1≤n
 ·rcases hcase with h0 | ⟨b,off,rfl,hblt,hcell⟩
  ·omega
  have hbp:b<p:=hbelow _ rfl (by omega)
  have hbp':¬ b=p:=by omega
  have hcz:=hcell m (by omega)
  have hzz:=hz _ (show zs.getD m 0 ∈ zs by simp [List.getElem?_eq_getElem (show m<zs.length by omega)])
  generalize zs.getD m 0=z at hcz hzz
  obtain ⟨z1,z2⟩:=hzz
  have hml:(m:Int)+1≤(n:Int):=by omega
  have hml2:(m:Int)<(n:Int):=by omega
  have hd1:decide ((m:Int)+1≤(n:Int))=true:=by simp;omega
  clear hcell hz hbelow hl
  go_enter Tryz.func166,Tryz.ntmps166
  go_wp2
  have hh1:=heap_setCell_same w p 1 _ _ (.int .i64 ((m:Int)+1)) hh
  have hoth1:∀ k,k≠p→(w.setCell ⟨p,1,none⟩ (.int .i64 ((m:Int)+1))).heap[k]?=w.heap[k]?:=fun k hk=>heap_setCell_other w ⟨p,1,none⟩ k _ hk
  have hbel1:Below p w (w.setCell ⟨p,1,none⟩ (.int .i64 ((m:Int)+1))):=Below.setCell (Below.refl p w) (p:=⟨p,1,none⟩) (Nat.le_refl p) _
  have hsz1:(w.setCell ⟨p,1,none⟩ (.int .i64 ((m:Int)+1))).heap.size=w.heap.size:=by simp [World.setCell]
  obtain ⟨W1,hW1⟩:∃ W1,W1=w.setCell ⟨p,1,none⟩ (.int .i64 ((m:Int)+1)):=⟨_,rfl⟩
  rw [← hW1] at hh1 hoth1 hbel1 hsz1
  rw [← hW1]
  have hh1':W1.heap[p]?=some (.cells #[.slice (some ⟨b,off,none⟩) n cap,.int .i64 ((m:Int)+1),.int .i64 sd] 157 (0,0)):=hh1
  obtain ⟨d0,d1,d2,g1,g2⟩:=src_cells hh1'
  have hcz1:W1.cell? ⟨b,off+m,none⟩=some (.int .u8 z):=by rw [hbel1.cell (p:=⟨b,off+m,none⟩) hbp];exact hcz
  have H1:Hid ((∀ k,k≠p→W1.heap[k]?=w.heap[k]?)∧Below p w W1∧W1.heap.size=w.heap.size∧W1.heap[p]?=some (.cells #[.slice (some ⟨b,off,none⟩) n cap,.int .i64 ((m:Int)+1),.int .i64 sd] 157 (0,0))):=⟨hoth1,hbel1,hsz1,hh1'⟩
  clear hW1 hh1 hh1' hoth1 hbel1 hsz1 c0 c1 c2 f1 f2 hcz hh
  have q1:IntKind.i64.wrap ((sd:Int)*31)=(sd:Int)*31:=IntWalk.i64_in _ ⟨by omega,by omega⟩
  have q2:IntKind.i64.wrap ((m:Int)+1 - 1)=(m:Int):=by rw [IntWalk.i64_in _ ⟨by omega,by omega⟩];omega
  have q3:IntKind.i64.wrap z=z:=IntWalk.i64_in _ ⟨by omega,by omega⟩
  have q4:IntKind.i64.wrap ((sd:Int)*31+z)=(sd:Int)*31+z:=IntWalk.i64_in _ ⟨by omega,by omega⟩
  have q5:IntKind.i64.wrap ((sd:Int)*31+z+7)=(sd:Int)*31+z+7:=IntWalk.i64_in _ ⟨by omega,by omega⟩
  have q6:((sd:Int)*31+z+7).tmod 2147483648=((sd:Int)*31+z+7) % 2147483648:=Int.tmod_eq_emod_of_nonneg (by omega)
  go_quiet (fail)
  go_wp2
  go_region
  go_wp2
  clear q1 q4 q5 q6 d2 d0 d1 g1 g2
  have H2:Hid (∀ W2,W2=(W1.drewN (nq+1)).setCell ⟨p,2,none⟩ (.int .i64 (((sd:Int)*31+z+7) % 2147483648))→Src W2 p (.slice (some ⟨b,off,none⟩) n cap) (T+1)∧Stepped p w W2∧W2.cell? ⟨p,0,none⟩=some (.slice (some ⟨b,off,none⟩) n cap)∧W2.cell? ⟨p,1,none⟩=some (.int .i64 ((m:Int)+1))∧W2.cell? ⟨b,off+m,none⟩=some (.int .u8 z)):=by
   intro W2 hW2
   obtain ⟨ho,hbe,hsz,hhp⟩:=H1.out
   have hhp':(W1.drewN (nq+1)).heap[p]?=some (.cells #[.slice (some ⟨b,off,none⟩) n cap,.int .i64 ((m:Int)+1),.int .i64 sd] 157 (0,0)):=hhp
   have h2:=heap_setCell_same (W1.drewN (nq+1)) p 2 _ _ (.int .i64 (((sd:Int)*31+z+7) % 2147483648)) hhp'
   rw [← hW2] at h2
   have h2':W2.heap[p]?=some (.cells #[.slice (some ⟨b,off,none⟩) n cap,.int .i64 ((m+1:Nat):Int),.int .i64 ((((sd:Int)*31+z+7) % 2147483648).toNat:Nat)] 157 (0,0)):=by
    rw [h2,Int.toNat_of_nonneg (by omega)]
    rfl
   have hob:∀ k,k≠p→W2.heap[k]?=w.heap[k]?:=fun k hk=>by
    rw [hW2,heap_setCell_other _ ⟨p,2,none⟩ k _ hk]
    exact ho k hk
   have hbe2:Below p w W2:=by
    rw [hW2]
    exact Below.setCell (below_drewN hbe _) (p:=⟨p,2,none⟩) (Nat.le_refl p) _
   obtain ⟨e0,e1,_⟩:=src_cells h2'
   refine ⟨⟨m+1,_,h2',by omega,by omega⟩,⟨hbe2,by rw [hW2];simp [World.setCell];exact hsz,hob⟩,e0,e1,?_⟩
   rw [hW2,World.cell?_of_block (w:=W1) (by rw [heap_setCell_other _ ⟨p,2,none⟩ b _ hbp'];rfl)]
   exact hcz1
  obtain ⟨W2,hW2⟩:∃ W2,W2=(W1.drewN (nq+1)).setCell ⟨p,2,none⟩ (.int .i64 (((sd:Int)*31+z+7) % 2147483648)):=⟨_,rfl⟩
  obtain ⟨hSrc,hStep,e0,e1,e2⟩:=H2.out W2 hW2
  rw [← hW2]
  have HSrc:Hid (Src W2 p (.slice (some ⟨b,off,none⟩) n cap) (T+1)):=hSrc
  have HStep:Hid (Stepped p w W2):=hStep
  clear hW2 H2 H1 hcz1 hSrc hStep
  go_quiet (fail)
  go_wp2
  go_ret
  exact ⟨⟨z.toNat,by omega,by rw [Int.toNat_of_nonneg z1];rfl⟩,HSrc.out,⟨below_drewN HStep.out.1 _,HStep.out.2.1,HStep.out.2.2⟩⟩
 ·have hml:¬ (m:Int)+1≤(n:Int):=by omega
  clear hcase hz hbelow hl
  go_enter Tryz.func166,Tryz.ntmps166
  go_wp2
  have hh1:=heap_setCell_same w p 1 _ _ (.int .i64 ((m:Int)+1)) hh
  have hoth1:∀ k,k≠p→(w.setCell ⟨p,1,none⟩ (.int .i64 ((m:Int)+1))).heap[k]?=w.heap[k]?:=fun k hk=>heap_setCell_other w ⟨p,1,none⟩ k _ hk
  have hbel1:Below p w (w.setCell ⟨p,1,none⟩ (.int .i64 ((m:Int)+1))):=Below.setCell (Below.refl p w) (p:=⟨p,1,none⟩) (Nat.le_refl p) _
  have hsz1:(w.setCell ⟨p,1,none⟩ (.int .i64 ((m:Int)+1))).heap.size=w.heap.size:=by simp [World.setCell]
  obtain ⟨W1,hW1⟩:∃ W1,W1=w.setCell ⟨p,1,none⟩ (.int .i64 ((m:Int)+1)):=⟨_,rfl⟩
  rw [← hW1] at hh1 hoth1 hbel1 hsz1
  rw [← hW1]
  have hh1':W1.heap[p]?=some (.cells #[.slice a n cap,.int .i64 ((m:Int)+1),.int .i64 sd] 157 (0,0)):=hh1
  obtain ⟨d0,d1,d2,g1,g2⟩:=src_cells hh1'
  have H1:Hid ((∀ k,k≠p→W1.heap[k]?=w.heap[k]?)∧Below p w W1∧W1.heap.size=w.heap.size∧W1.heap[p]?=some (.cells #[.slice a n cap,.int .i64 ((m:Int)+1),.int .i64 sd] 157 (0,0))):=⟨hoth1,hbel1,hsz1,hh1'⟩
  clear hW1 hh1 hh1' hoth1 hbel1 hsz1 c0 c1 c2 f1 f2 hh
  go_quiet (fail)
  by_cases hbig:3000<m+1
  ·have hbig':(3000:Int)<(m:Int)+1:=by omega
   go_wp2
   go_ret
   obtain ⟨ho,hbe,hsz,hhp⟩:=H1.out
   refine ⟨⟨0,by omega,rfl⟩,⟨m+1,sd,?_,by omega,hsd⟩,below_drewN hbe _,hsz,ho⟩
   exact hhp
  ·have hbig':¬ (3000:Int)<(m:Int)+1:=by omega
   go_wp2
   go_ret
   obtain ⟨ho,hbe,hsz,hhp⟩:=H1.out
   have hhp':(W1.drewN nq).heap[p]?=some (.cells #[.slice a n cap,.int .i64 ((m:Int)+1),.int .i64 sd] 157 (0,0)):=hhp
   have h2:=heap_setCell_same (W1.drewN nq) p 2 _ _ (.int .i64 (((sd:Int)*1103515245+12345) % 2147483648)) hhp'
   refine ⟨⟨((((sd:Int)*1103515245+12345) % 2147483648) / 65536 % 256).toNat,by omega,by rw [Int.toNat_of_nonneg (by omega)];rfl⟩,⟨m+1,(((sd:Int)*1103515245+12345) % 2147483648).toNat,?_,by omega,by omega⟩,?_,?_,?_⟩
   ·rw [h2,Int.toNat_of_nonneg (by omega)];rfl
   ·exact Below.setCell (below_drewN hbe _) (p:=⟨p,2,none⟩) (Nat.le_refl p) _
   ·simp [World.setCell];exact hsz
   ·intro k hk
    rw [heap_setCell_other _ ⟨p,2,none⟩ k _ hk]
    exact ho k hk
end Go.Proofs.YtifoggpohlegmaaGreatDoor
