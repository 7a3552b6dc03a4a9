/-
  Joined: Src.
-/
import Derived.BigRegion
import Derived.Test.YtmhlokahmblboaaGreatDoorK01

namespace Go.Proofs.YtmhlokahmblboaaGreatDoor
set_option maxRecDepth 100000
set_option maxHeartbeats 16000000
open Go.RowKit

def Src (w:World) (p:Nat) (c:Value) (T:Nat):Prop:=∃ m sd:Nat,w.heap[p]?=some (.cells #[c,.int .i64 m,.int .i64 sd] 120 (0,0))∧m≤T∧sd≤2147483647
def UB (w:World) (p:Nat) (a:Option Addr) (n cap:Nat):Prop:=∃ zs:List Int,YS .u8 w a n cap zs∧(∀ z ∈ zs,0≤z∧z≤255)∧n≤1048576∧∀ x,a=some x→n≠0→x.block<p

theorem Uz {w:World} {p:Nat} {c x y:Value} {t:TypeId} (h:w.heap[p]?=some (.cells #[c,x,y] t (0,0))) :
  w.cell? ⟨p,0,none⟩=some c∧w.cell? ⟨p,1,none⟩=some x∧w.cell? ⟨p,2,none⟩=some y∧w.frozen? ⟨p,1,none⟩=false∧w.frozen? ⟨p,2,none⟩=false:=
 ⟨by rw [cell_of_row w p 0 _ _ _ h];rfl,by rw [cell_of_row w p 1 _ _ _ h];rfl,by rw [cell_of_row w p 2 _ _ _ h];rfl,frozen_of_row w p 1 _ _ h,frozen_of_row w p 2 _ _ h⟩

def Tf (p:Nat) (w w':World):Prop:=Below p w w'∧w'.heap.size=w.heap.size∧∀ k,k≠p→w'.heap[k]?=w.heap[k]?

theorem Tl (p T:Nat) (a:Option Addr) (n cap:Nat) (w:World) (hS:Src w p (.slice a n cap) T) (hC:UB w p a n cap) (hT:T≤1000000) :
  Calls Tryz.prog 173 #[.pointer (some ⟨p,0,none⟩)] w fun e w'=>(∃ v:Nat,v≤255∧e=.returned (.int .i64 v))∧Src w' p (.slice a n cap) (T+1)∧Tf p w w':=by
 obtain ⟨m,sd,hh,hm,hsd⟩:=hS
 obtain ⟨c0,c1,c2,f1,f2⟩:=Uz hh
 obtain ⟨zs,⟨hl,hlc,hcm,hcase⟩,hz,hn,hbelow⟩:=hC
 unfold maxLen at hcm
 by_cases hin:m+1≤n
 ·rcases hcase with h0 | ⟨b,off,rfl,hblt,hcell⟩
  ·omega
  have hbp:b<p:=hbelow _ rfl (by omega)
  have hbp':¬ b=p:=by omega
  have hcz:=hcell m (by omega)
  have hzz:=hz _ (show zs.getD m 0 ∈ zs by simp [List.getElem?_eq_getElem (show m<zs.length by omega)])
  generalize zs.getD m 0=z at hcz hzz
  obtain ⟨z1,z2⟩:=hzz
  have hml:(m:Int)+1≤(n:Int):=by omega
  have hml2:(m:Int)<(n:Int):=by omega
  have hd1:decide ((m:Int)+1≤(n:Int))=true:=by simp;omega
  clear hcell hz hbelow hl
  go_enter Tryz.func173,Tryz.ntmps173
  go_wp2
  have hh1:=heap_setCell_same w p 1 _ _ (.int .i64 ((m:Int)+1)) hh
  have hoth1:∀ k,k≠p→(w.setCell ⟨p,1,none⟩ (.int .i64 ((m:Int)+1))).heap[k]?=w.heap[k]?:=fun k hk=>heap_setCell_other w ⟨p,1,none⟩ k _ hk
  have hbel1:Below p w (w.setCell ⟨p,1,none⟩ (.int .i64 ((m:Int)+1))):=Below.setCell (Below.refl p w) (p:=⟨p,1,none⟩) (Nat.le_refl p) _
  have hsz1:(w.setCell ⟨p,1,none⟩ (.int .i64 ((m:Int)+1))).heap.size=w.heap.size:=by simp [World.setCell]
  obtain ⟨W1,hW1⟩:∃ W1,W1=w.setCell ⟨p,1,none⟩ (.int .i64 ((m:Int)+1)):=⟨_,rfl⟩
  rw [← hW1] at hh1 hoth1 hbel1 hsz1
  rw [← hW1]
  have hh1':W1.heap[p]?=some (.cells #[.slice (some ⟨b,off,none⟩) n cap,.int .i64 ((m:Int)+1),.int .i64 sd] 120 (0,0)):=hh1
  obtain ⟨d0,d1,d2,g1,g2⟩:=Uz hh1'
  have hcz1:W1.cell? ⟨b,off+m,none⟩=some (.int .u8 z):=by rw [hbel1.cell (p:=⟨b,off+m,none⟩) hbp];exact hcz
  have H1:Hid ((∀ k,k≠p→W1.heap[k]?=w.heap[k]?)∧Below p w W1∧W1.heap.size=w.heap.size∧W1.heap[p]?=some (.cells #[.slice (some ⟨b,off,none⟩) n cap,.int .i64 ((m:Int)+1),.int .i64 sd] 120 (0,0))):=⟨hoth1,hbel1,hsz1,hh1'⟩
  clear hW1 hh1 hh1' hoth1 hbel1 hsz1 c0 c1 c2 f1 f2 hcz hh
  have q1:IntKind.i64.wrap ((sd:Int)*31)=(sd:Int)*31:=IntWalk.i64_in _ ⟨by omega,by omega⟩
  have q2:IntKind.i64.wrap ((m:Int)+1 - 1)=(m:Int):=by rw [IntWalk.i64_in _ ⟨by omega,by omega⟩];omega
  have q3:IntKind.i64.wrap z=z:=IntWalk.i64_in _ ⟨by omega,by omega⟩
  have q4:IntKind.i64.wrap ((sd:Int)*31+z)=(sd:Int)*31+z:=IntWalk.i64_in _ ⟨by omega,by omega⟩
  have q5:IntKind.i64.wrap ((sd:Int)*31+z+7)=(sd:Int)*31+z+7:=IntWalk.i64_in _ ⟨by omega,by omega⟩
  have q6:((sd:Int)*31+z+7).tmod 2147483648=((sd:Int)*31+z+7) % 2147483648:=Int.tmod_eq_emod_of_nonneg (by omega)
  go_quiet (fail)
  go_wp2
  go_region
  go_wp2
  clear q1 q4 q5 q6 d2 d0 d1 g1 g2
  have H2:Hid (∀ W2,W2=(W1.drewN (nq+1)).setCell ⟨p,2,none⟩ (.int .i64 (((sd:Int)*31+z+7) % 2147483648))→Src W2 p (.slice (some ⟨b,off,none⟩) n cap) (T+1)∧Tf p w W2∧W2.cell? ⟨p,0,none⟩=some (.slice (some ⟨b,off,none⟩) n cap)∧W2.cell? ⟨p,1,none⟩=some (.int .i64 ((m:Int)+1))∧W2.cell? ⟨b,off+m,none⟩=some (.int .u8 z)):=by
   intro W2 hW2
   obtain ⟨ho,hbe,hsz,hhp⟩:=H1.out
   have hhp':(W1.drewN (nq+1)).heap[p]?=some (.cells #[.slice (some ⟨b,off,none⟩) n cap,.int .i64 ((m:Int)+1),.int .i64 sd] 120 (0,0)):=hhp
   have h2:=heap_setCell_same (W1.drewN (nq+1)) p 2 _ _ (.int .i64 (((sd:Int)*31+z+7) % 2147483648)) hhp'
   rw [← hW2] at h2
   have h2':W2.heap[p]?=some (.cells #[.slice (some ⟨b,off,none⟩) n cap,.int .i64 ((m+1:Nat):Int),.int .i64 ((((sd:Int)*31+z+7) % 2147483648).toNat:Nat)] 120 (0,0)):=by
    rw [h2,Int.toNat_of_nonneg (by omega)]
    rfl
   have hob:∀ k,k≠p→W2.heap[k]?=w.heap[k]?:=fun k hk=>by
    rw [hW2,heap_setCell_other _ ⟨p,2,none⟩ k _ hk]
    exact ho k hk
   have hbe2:Below p w W2:=by
    rw [hW2]
    exact Below.setCell (below_drewN hbe _) (p:=⟨p,2,none⟩) (Nat.le_refl p) _
   obtain ⟨e0,e1,_⟩:=Uz h2'
   refine ⟨⟨m+1,_,h2',by omega,by omega⟩,⟨hbe2,by rw [hW2];simp [World.setCell];exact hsz,hob⟩,e0,e1,?_⟩
   rw [hW2,World.cell?_of_block (w:=W1) (by rw [heap_setCell_other _ ⟨p,2,none⟩ b _ hbp'];rfl)]
   exact hcz1
  obtain ⟨W2,hW2⟩:∃ W2,W2=(W1.drewN (nq+1)).setCell ⟨p,2,none⟩ (.int .i64 (((sd:Int)*31+z+7) % 2147483648)):=⟨_,rfl⟩
  obtain ⟨hSrc,hStep,e0,e1,e2⟩:=H2.out W2 hW2
  rw [← hW2]
  have HSrc:Hid (Src W2 p (.slice (some ⟨b,off,none⟩) n cap) (T+1)):=hSrc
  have HStep:Hid (Tf p w W2):=hStep
  clear hW2 H2 H1 hcz1 hSrc hStep
  go_quiet (fail)
  go_wp2
  go_ret
  exact ⟨⟨z.toNat,by omega,by rw [Int.toNat_of_nonneg z1];rfl⟩,HSrc.out,⟨below_drewN HStep.out.1 _,HStep.out.2.1,HStep.out.2.2⟩⟩
 have hml:¬ (m:Int)+1≤(n:Int):=by omega
 clear hcase hz hbelow hl
 go_enter Tryz.func173,Tryz.ntmps173
 go_wp2
 have hh1:=heap_setCell_same w p 1 _ _ (.int .i64 ((m:Int)+1)) hh
 have hoth1:∀ k,k≠p→(w.setCell ⟨p,1,none⟩ (.int .i64 ((m:Int)+1))).heap[k]?=w.heap[k]?:=fun k hk=>heap_setCell_other w ⟨p,1,none⟩ k _ hk
 have hbel1:Below p w (w.setCell ⟨p,1,none⟩ (.int .i64 ((m:Int)+1))):=Below.setCell (Below.refl p w) (p:=⟨p,1,none⟩) (Nat.le_refl p) _
 have hsz1:(w.setCell ⟨p,1,none⟩ (.int .i64 ((m:Int)+1))).heap.size=w.heap.size:=by simp [World.setCell]
 obtain ⟨W1,hW1⟩:∃ W1,W1=w.setCell ⟨p,1,none⟩ (.int .i64 ((m:Int)+1)):=⟨_,rfl⟩
 rw [← hW1] at hh1 hoth1 hbel1 hsz1
 rw [← hW1]
 have hh1':W1.heap[p]?=some (.cells #[.slice a n cap,.int .i64 ((m:Int)+1),.int .i64 sd] 120 (0,0)):=hh1
 obtain ⟨d0,d1,d2,g1,g2⟩:=Uz hh1'
 have H1:Hid ((∀ k,k≠p→W1.heap[k]?=w.heap[k]?)∧Below p w W1∧W1.heap.size=w.heap.size∧W1.heap[p]?=some (.cells #[.slice a n cap,.int .i64 ((m:Int)+1),.int .i64 sd] 120 (0,0))):=⟨hoth1,hbel1,hsz1,hh1'⟩
 clear hW1 hh1 hh1' hoth1 hbel1 hsz1 c0 c1 c2 f1 f2 hh
 go_quiet (fail)
 by_cases hbig:3000<m+1
 ·have hbig':(3000:Int)<(m:Int)+1:=by omega
  go_wp2
  go_ret
  obtain ⟨ho,hbe,hsz,hhp⟩:=H1.out
  refine ⟨⟨0,by omega,rfl⟩,⟨m+1,sd,?_,by omega,hsd⟩,below_drewN hbe _,hsz,ho⟩
  exact hhp
 have hbig':¬ (3000:Int)<(m:Int)+1:=by omega
 go_wp2
 go_ret
 obtain ⟨ho,hbe,hsz,hhp⟩:=H1.out
 have hhp':(W1.drewN nq).heap[p]?=some (.cells #[.slice a n cap,.int .i64 ((m:Int)+1),.int .i64 sd] 120 (0,0)):=hhp
 have h2:=heap_setCell_same (W1.drewN nq) p 2 _ _ (.int .i64 (((sd:Int)*1103515245+12345) % 2147483648)) hhp'
 refine ⟨⟨((((sd:Int)*1103515245+12345) % 2147483648) / 65536 % 256).toNat,by omega,by rw [Int.toNat_of_nonneg (by omega)];rfl⟩,⟨m+1,(((sd:Int)*1103515245+12345) % 2147483648).toNat,?_,by omega,by omega⟩,?_,?_,?_⟩
 ·rw [h2,Int.toNat_of_nonneg (by omega)];rfl
 ·exact Below.setCell (below_drewN hbe _) (p:=⟨p,2,none⟩) (Nat.le_refl p) _
 ·simp [World.setCell];exact hsz
 intro k hk
 rw [heap_setCell_other _ ⟨p,2,none⟩ k _ hk]
 exact ho k hk
end Go.Proofs.YtmhlokahmblboaaGreatDoor
