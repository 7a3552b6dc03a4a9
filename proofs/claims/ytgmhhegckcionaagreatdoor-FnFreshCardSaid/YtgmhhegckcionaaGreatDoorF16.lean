/-
  Joined: Src, Src2.
-/
import Derived.BigRegion
import Derived.Test.YtgmhhegckcionaaGreatDoorF01

namespace Go.Proofs.YtgmhhegckcionaaGreatDoor
set_option maxRecDepth 100000
set_option maxHeartbeats 16000000
open Go.RowKit

def Src (w:World) (p:Nat) (c:Value) (T:Nat):Prop:=∃ m sd:Nat,w.heap[p]?=some (.cells #[c,.int .i64 m,.int .i64 sd] 120 (0,0))∧m≤T∧sd≤2147483647
def TO (w:World) (p:Nat) (a:Option Addr) (n cap:Nat):Prop:=∃ zs:List Int,Yn .u8 w a n cap zs∧(∀ z ∈ zs,0≤z∧z≤255)∧n≤1048577∧∀ x,a=some x→n≠0→x.block<p

theorem TL {w:World} {p:Nat} {c x y:Value} {t:TypeId} (h:w.heap[p]?=some (.cells #[c,x,y] t (0,0))) :
  w.cell? ⟨p,0,none⟩=some c∧w.cell? ⟨p,1,none⟩=some x∧w.cell? ⟨p,2,none⟩=some y∧w.frozen? ⟨p,1,none⟩=false∧w.frozen? ⟨p,2,none⟩=false:=
 ⟨by rw [cell_of_row w p 0 _ _ _ h];rfl,by rw [cell_of_row w p 1 _ _ _ h];rfl,by rw [cell_of_row w p 2 _ _ _ h];rfl,frozen_of_row w p 1 _ _ h,frozen_of_row w p 2 _ _ h⟩

def Sh (p:Nat) (w w':World):Prop:=Below p w w'∧w'.heap.size=w.heap.size∧∀ k,k≠p→w'.heap[k]?=w.heap[k]?

theorem Sn (p T:Nat) (a:Option Addr) (n cap:Nat) (w:World) (hS:Src w p (.slice a n cap) T) (hC:TO w p a n cap) (hT:T≤1000000) :
  Calls Tryz.prog 94 #[.pointer (some ⟨p,0,none⟩)] w fun e w'=>(∃ v:Nat,v≤255∧e=.returned (.int .i64 v))∧Src w' p (.slice a n cap) (T+1)∧Sh p w w':=by
 obtain ⟨m,sd,hh,hm,hsd⟩:=hS
 obtain ⟨c0,c1,c2,f1,f2⟩:=TL hh
 obtain ⟨zs,⟨hl,hlc,hcm,hcase⟩,hz,hn,hbelow⟩:=hC
 unfold maxLen at hcm
 by_cases hin:m+1≤n
 ·rcases hcase with h0 | ⟨b,off,rfl,hblt,hcell⟩
  ·omega
  have hbp:b<p:=hbelow _ rfl (by omega)
  have hbp':¬ b=p:=by omega
  have hcz:=hcell m (by omega)
  have hzz:=hz _ (show zs.getD m 0 ∈ zs by simp [List.getElem?_eq_getElem (show m<zs.length by omega)])
  generalize zs.getD m 0=z at hcz hzz
  obtain ⟨z1,z2⟩:=hzz
  have hml:(m:Int)+1≤(n:Int):=by omega
  have hml2:(m:Int)<(n:Int):=by omega
  have hd1:decide ((m:Int)+1≤(n:Int))=true:=by simp;omega
  clear hcell hz hbelow hl
  go_enter Tryz.func94,Tryz.ntmps94
  go_wp2
  have hh1:=heap_setCell_same w p 1 _ _ (.int .i64 ((m:Int)+1)) hh
  have hoth1:∀ k,k≠p→(w.setCell ⟨p,1,none⟩ (.int .i64 ((m:Int)+1))).heap[k]?=w.heap[k]?:=fun k hk=>heap_setCell_other w ⟨p,1,none⟩ k _ hk
  have hbel1:Below p w (w.setCell ⟨p,1,none⟩ (.int .i64 ((m:Int)+1))):=Below.setCell (Below.refl p w) (p:=⟨p,1,none⟩) (Nat.le_refl p) _
  have hsz1:(w.setCell ⟨p,1,none⟩ (.int .i64 ((m:Int)+1))).heap.size=w.heap.size:=by simp [World.setCell]
  obtain ⟨W1,hW1⟩:∃ W1,W1=w.setCell ⟨p,1,none⟩ (.int .i64 ((m:Int)+1)):=⟨_,rfl⟩
  rw [← hW1] at hh1 hoth1 hbel1 hsz1
  rw [← hW1]
  have hh1':W1.heap[p]?=some (.cells #[.slice (some ⟨b,off,none⟩) n cap,.int .i64 ((m:Int)+1),.int .i64 sd] 120 (0,0)):=hh1
  obtain ⟨d0,d1,d2,g1,g2⟩:=TL hh1'
  have hcz1:W1.cell? ⟨b,off+m,none⟩=some (.int .u8 z):=by rw [hbel1.cell (p:=⟨b,off+m,none⟩) hbp];exact hcz
  have H1:Hid ((∀ k,k≠p→W1.heap[k]?=w.heap[k]?)∧Below p w W1∧W1.heap.size=w.heap.size∧W1.heap[p]?=some (.cells #[.slice (some ⟨b,off,none⟩) n cap,.int .i64 ((m:Int)+1),.int .i64 sd] 120 (0,0))):=⟨hoth1,hbel1,hsz1,hh1'⟩
  clear hW1 hh1 hh1' hoth1 hbel1 hsz1 c0 c1 c2 f1 f2 hcz hh
  have q1:IntKind.i64.wrap ((sd:Int)*31)=(sd:Int)*31:=IntWalk.i64_in _ ⟨by omega,by omega⟩
  have q2:IntKind.i64.wrap ((m:Int)+1 - 1)=(m:Int):=by rw [IntWalk.i64_in _ ⟨by omega,by omega⟩];omega
  have q3:IntKind.i64.wrap z=z:=IntWalk.i64_in _ ⟨by omega,by omega⟩
  have q4:IntKind.i64.wrap ((sd:Int)*31+z)=(sd:Int)*31+z:=IntWalk.i64_in _ ⟨by omega,by omega⟩
  have q5:IntKind.i64.wrap ((sd:Int)*31+z+7)=(sd:Int)*31+z+7:=IntWalk.i64_in _ ⟨by omega,by omega⟩
  have q6:((sd:Int)*31+z+7).tmod 2147483648=((sd:Int)*31+z+7) % 2147483648:=Int.tmod_eq_emod_of_nonneg (by omega)
  go_quiet (fail)
  go_wp2
  go_region
  go_wp2
  clear q1 q4 q5 q6 d2 d0 d1 g1 g2
  have H2:Hid (∀ W2,W2=(W1.drewN (nq+1)).setCell ⟨p,2,none⟩ (.int .i64 (((sd:Int)*31+z+7) % 2147483648))→Src W2 p (.slice (some ⟨b,off,none⟩) n cap) (T+1)∧Sh p w W2∧W2.cell? ⟨p,0,none⟩=some (.slice (some ⟨b,off,none⟩) n cap)∧W2.cell? ⟨p,1,none⟩=some (.int .i64 ((m:Int)+1))∧W2.cell? ⟨b,off+m,none⟩=some (.int .u8 z)):=by
   intro W2 hW2
   obtain ⟨ho,hbe,hsz,hhp⟩:=H1.out
   have hhp':(W1.drewN (nq+1)).heap[p]?=some (.cells #[.slice (some ⟨b,off,none⟩) n cap,.int .i64 ((m:Int)+1),.int .i64 sd] 120 (0,0)):=hhp
   have h2:=heap_setCell_same (W1.drewN (nq+1)) p 2 _ _ (.int .i64 (((sd:Int)*31+z+7) % 2147483648)) hhp'
   rw [← hW2] at h2
   have h2':W2.heap[p]?=some (.cells #[.slice (some ⟨b,off,none⟩) n cap,.int .i64 ((m+1:Nat):Int),.int .i64 ((((sd:Int)*31+z+7) % 2147483648).toNat:Nat)] 120 (0,0)):=by
    rw [h2,Int.toNat_of_nonneg (by omega)]
    rfl
   have hob:∀ k,k≠p→W2.heap[k]?=w.heap[k]?:=fun k hk=>by
    rw [hW2,heap_setCell_other _ ⟨p,2,none⟩ k _ hk]
    exact ho k hk
   have hbe2:Below p w W2:=by
    rw [hW2]
    exact Below.setCell (below_drewN hbe _) (p:=⟨p,2,none⟩) (Nat.le_refl p) _
   obtain ⟨e0,e1,_⟩:=TL h2'
   refine ⟨⟨m+1,_,h2',by omega,by omega⟩,⟨hbe2,by rw [hW2];simp [World.setCell];exact hsz,hob⟩,e0,e1,?_⟩
   rw [hW2,World.cell?_of_block (w:=W1) (by rw [heap_setCell_other _ ⟨p,2,none⟩ b _ hbp'];rfl)]
   exact hcz1
  obtain ⟨W2,hW2⟩:∃ W2,W2=(W1.drewN (nq+1)).setCell ⟨p,2,none⟩ (.int .i64 (((sd:Int)*31+z+7) % 2147483648)):=⟨_,rfl⟩
  obtain ⟨hSrc,hStep,e0,e1,e2⟩:=H2.out W2 hW2
  rw [← hW2]
  have HSrc:Hid (Src W2 p (.slice (some ⟨b,off,none⟩) n cap) (T+1)):=hSrc
  have HStep:Hid (Sh p w W2):=hStep
  clear hW2 H2 H1 hcz1 hSrc hStep
  go_quiet (fail)
  go_wp2
  go_ret
  exact ⟨⟨z.toNat,by omega,by rw [Int.toNat_of_nonneg z1];rfl⟩,HSrc.out,⟨below_drewN HStep.out.1 _,HStep.out.2.1,HStep.out.2.2⟩⟩
 have hml:¬ (m:Int)+1≤(n:Int):=by omega
 clear hcase hz hbelow hl
 go_enter Tryz.func94,Tryz.ntmps94
 go_wp2
 have hh1:=heap_setCell_same w p 1 _ _ (.int .i64 ((m:Int)+1)) hh
 have hoth1:∀ k,k≠p→(w.setCell ⟨p,1,none⟩ (.int .i64 ((m:Int)+1))).heap[k]?=w.heap[k]?:=fun k hk=>heap_setCell_other w ⟨p,1,none⟩ k _ hk
 have hbel1:Below p w (w.setCell ⟨p,1,none⟩ (.int .i64 ((m:Int)+1))):=Below.setCell (Below.refl p w) (p:=⟨p,1,none⟩) (Nat.le_refl p) _
 have hsz1:(w.setCell ⟨p,1,none⟩ (.int .i64 ((m:Int)+1))).heap.size=w.heap.size:=by simp [World.setCell]
 obtain ⟨W1,hW1⟩:∃ W1,W1=w.setCell ⟨p,1,none⟩ (.int .i64 ((m:Int)+1)):=⟨_,rfl⟩
 rw [← hW1] at hh1 hoth1 hbel1 hsz1
 rw [← hW1]
 have hh1':W1.heap[p]?=some (.cells #[.slice a n cap,.int .i64 ((m:Int)+1),.int .i64 sd] 120 (0,0)):=hh1
 obtain ⟨d0,d1,d2,g1,g2⟩:=TL hh1'
 have H1:Hid ((∀ k,k≠p→W1.heap[k]?=w.heap[k]?)∧Below p w W1∧W1.heap.size=w.heap.size∧W1.heap[p]?=some (.cells #[.slice a n cap,.int .i64 ((m:Int)+1),.int .i64 sd] 120 (0,0))):=⟨hoth1,hbel1,hsz1,hh1'⟩
 clear hW1 hh1 hh1' hoth1 hbel1 hsz1 c0 c1 c2 f1 f2 hh
 go_quiet (fail)
 by_cases hbig:3000<m+1
 ·have hbig':(3000:Int)<(m:Int)+1:=by omega
  go_wp2
  go_ret
  obtain ⟨ho,hbe,hsz,hhp⟩:=H1.out
  refine ⟨⟨0,by omega,rfl⟩,⟨m+1,sd,?_,by omega,hsd⟩,below_drewN hbe _,hsz,ho⟩
  exact hhp
 have hbig':¬ (3000:Int)<(m:Int)+1:=by omega
 go_wp2
 go_ret
 obtain ⟨ho,hbe,hsz,hhp⟩:=H1.out
 have hhp':(W1.drewN nq).heap[p]?=some (.cells #[.slice a n cap,.int .i64 ((m:Int)+1),.int .i64 sd] 120 (0,0)):=hhp
 have h2:=heap_setCell_same (W1.drewN nq) p 2 _ _ (.int .i64 (((sd:Int)*1103515245+12345) % 2147483648)) hhp'
 refine ⟨⟨((((sd:Int)*1103515245+12345) % 2147483648) / 65536 % 256).toNat,by omega,by rw [Int.toNat_of_nonneg (by omega)];rfl⟩,⟨m+1,(((sd:Int)*1103515245+12345) % 2147483648).toNat,?_,by omega,by omega⟩,?_,?_,?_⟩
 ·rw [h2,Int.toNat_of_nonneg (by omega)];rfl
 ·exact Below.setCell (below_drewN hbe _) (p:=⟨p,2,none⟩) (Nat.le_refl p) _
 ·simp [World.setCell];exact hsz
 intro k hk
 rw [heap_setCell_other _ ⟨p,2,none⟩ k _ hk]
 exact ho k hk


abbrev YG (p:Nat) (w w':World):Prop:=w.grownBy w' (some p)
theorem Sh.went {p:Nat} {w w':World} (h:Sh p w w'):YG p w w':=
 ⟨h.1.os,h.1.tape,h.1.output,Nat.le_of_eq h.2.1.symm,fun k _ hk=>h.2.2 k (fun e=>hk (by rw [e]))⟩
theorem YG.trans {p:Nat} {a b c:World} (h:YG p a b) (k:YG p b c):YG p a c:=
 ⟨k.os.trans h.os,k.tape.trans h.tape,k.output.trans h.output,Nat.le_trans h.size k.size,fun i hi hne=>(k.block i (Nat.lt_of_lt_of_le hi h.size) hne).trans (h.block i hi hne)⟩
theorem YG.below {p:Nat} {w w':World} (h:YG p w w') (hp:p≤w.heap.size):Below p w w':=
 (Below.refl _ _).grown h hp (fun k e=>by cases e;exact Nat.le_refl _)
theorem YG.alloc {p:Nat} {w w':World} (h:YG p w w') (o:Obj):YG p w (w'.alloc o):=h.trans (World.grownBy_alloc w' o _)
theorem YG.refl (p:Nat) (w:World):YG p w w:=World.grownBy.refl _ _
theorem YG.grown {p:Nat} {w w' w'':World} {row:Option Nat} (h:YG p w w') (g:w'.grownBy w'' row) (hr:∀ k,row=some k→w.heap.size≤k):YG p w w'':=
 ⟨g.os.trans h.os,g.tape.trans h.tape,g.output.trans h.output,Nat.le_trans h.size g.size,fun i hi hne=>(g.block i (Nat.lt_of_lt_of_le hi h.size) (fun e=>by have:=hr i e.symm;omega)).trans (h.block i hi hne)⟩
theorem Src.grown {p T:Nat} {c:Value} {w w':World} {row:Option Nat} (h:Src w p c T) (g:w.grownBy w' row) (hr:∀ k,row=some k→k≠p):Src w' p c T:=by
 obtain ⟨m,sd,hh,h1,h2⟩:=h
 have hl:p<w.heap.size:=(Array.getElem?_eq_some_iff.1 hh).1
 exact ⟨m,sd,by rw [g.block p hl (fun e=>hr p e.symm rfl)];exact hh,h1,h2⟩
theorem Src.alloc {p T:Nat} {c:Value} {w:World} (h:Src w p c T) (o:Obj):Src (w.alloc o) p c T:=h.grown (World.grownBy_alloc w o none) (fun k e=>by cases e)
theorem Src.lt {p T:Nat} {c:Value} {w:World} (h:Src w p c T):p<w.heap.size:=by
 obtain ⟨m,sd,hh,_⟩:=h
 exact (Array.getElem?_eq_some_iff.1 hh).1
theorem Src.mono {p T T':Nat} {c:Value} {w:World} (h:Src w p c T) (ht:T≤T'):Src w p c T':=by
 obtain ⟨m,sd,hh,h1,h2⟩:=h
 exact ⟨m,sd,hh,Nat.le_trans h1 ht,h2⟩
theorem TO.below {p n cap:Nat} {a:Option Addr} {w w':World} (h:TO w p a n cap) (hb:Below p w w'):TO w' p a n cap:=by
 obtain ⟨zs,⟨h1,h2,h3,h4⟩,h5,h6,h7⟩:=h
 refine ⟨zs,⟨h1,h2,h3,?_⟩,h5,h6,h7⟩
 rcases h4 with h4 | ⟨b,off,ha,hlt,hc⟩
 ·exact .inl h4
 rcases Nat.eq_zero_or_pos n with h0 | h0
 ·exact .inl h0
 have hbB:=h7 _ ha (by omega)
 exact .inr ⟨b,off,ha,by have:=hb.size;omega,fun t ht=>by rw [hb.cell (p:=⟨b,off+t,none⟩) hbB];exact hc t ht⟩
theorem TO.went {p n cap:Nat} {a:Option Addr} {w w':World} (h:TO w p a n cap) (hw:YG p w w') (hp:p≤w.heap.size):TO w' p a n cap:=h.below (hw.below hp)

theorem YA (p T:Nat) (a:Option Addr) (n cap:Nat) (k:Int) (w:World) (hS:Src w p (.slice a n cap) T) (hC:TO w p a n cap) (hT:T≤900000) (hk:k≤1000000) :
  Calls Tryz.prog 55 #[.pointer (some ⟨p,0,none⟩),.int .i64 k] w fun e w'=>(∃ v:Nat,((v:Int)<k∨v=0)∧e=.returned (.int .i64 v))∧Src w' p (.slice a n cap) (T+3)∧YG p w w':=by
 have hp:=Nat.le_of_lt hS.lt
 by_cases h1:k≤1
 ·go_enter Tryz.func55,Tryz.ntmps55
  go_wp2
  go_ret
  exact ⟨⟨0,.inr rfl,rfl⟩,hS.mono (by omega),YG.refl _ _⟩
 by_cases h2:k≤256
 ·go_enter Tryz.func55,Tryz.ntmps55
  go_wp2_with fail
  refine (Sn p T a n cap _ hS hC (by omega)).mono ?_
  rintro e w1 ⟨⟨v,hv,rfl⟩,hS1,hst⟩
  have hW:=hst.went
  have hS3:Src w1 p (.slice a n cap) (T+3):=hS1.mono (by omega)
  clear hst hS1 hS hC
  go_wp2
  go_ret
  exact ⟨⟨((v:Int) % k).toNat,.inl (by have:=Int.emod_lt_of_pos (v:Int) (show 0<k by omega);have:=Int.emod_nonneg (v:Int) (show k≠0 by omega);omega),by rw [Int.toNat_of_nonneg (Int.emod_nonneg _ (by omega))];rfl⟩,hS3,hW⟩
 go_enter Tryz.func55,Tryz.ntmps55
 go_wp2_with fail
 refine (Sn p T a n cap _ hS hC (by omega)).mono ?_
 rintro e w1 ⟨⟨v1,hv1,rfl⟩,hS1,hst1⟩
 have hC1:=hC.went hst1.went hp
 have hp1:=Nat.le_of_lt hS1.lt
 go_wp2_with fail
 refine (Sn p (T+1) a n cap _ hS1 hC1 (by omega)).mono ?_
 rintro e w2 ⟨⟨v2,hv2,rfl⟩,hS2,hst2⟩
 have hC2:=hC1.went hst2.went hp1
 go_wp2_with fail
 refine (Sn p (T+1+1) a n cap _ hS2 hC2 (by omega)).mono ?_
 rintro e w3 ⟨⟨v3,hv3,rfl⟩,hS3,hst3⟩
 have hW:=(hst1.went.trans hst2.went).trans hst3.went
 have hS3':Src w3 p (.slice a n cap) (T+3):=hS3.mono (by omega)
 clear hst1 hst2 hst3 hS1 hS2 hS3 hS hC hC1 hC2
 go_wp2
 go_ret
 exact ⟨⟨(((v1:Int)*65536+(v2:Int)*256+(v3:Int)) % k).toNat,.inl (by have:=Int.emod_lt_of_pos ((v1:Int)*65536+(v2:Int)*256+(v3:Int)) (show 0<k by omega);have:=Int.emod_nonneg ((v1:Int)*65536+(v2:Int)*256+(v3:Int)) (show k≠0 by omega);omega),by rw [Int.toNat_of_nonneg (Int.emod_nonneg _ (by omega))];rfl⟩,hS3',hW⟩

theorem Pv (a:Option Addr) (n cap:Nat) (w:World) (hn:n≤1048577) :
  Calls Tryz.prog 23 #[.slice a n cap] w fun e w'=>e=.returned (.pointer (some ⟨w.heap.size,0,none⟩))∧Src w' w.heap.size (.slice a n cap) 0∧Below w.heap.size w w':=by
 go_enter Tryz.func23,Tryz.ntmps23
 go_wp2
 go_ret
 refine ⟨rfl,⟨0,((n:Int) % 1000).toNat,?_,by omega,by omega⟩,(Below.refl _ _).alloc (Nat.le_refl _) _⟩
 rw [Int.toNat_of_nonneg (by omega)]
 exact heap_alloc_new w _
theorem Pu (a:Option Addr) (n cap:Nat) (w:World) (hn:n≤1048576) :
  Calls Tryz.prog 23 #[.slice a n cap] w fun e w'=>e=.returned (.pointer (some ⟨w.heap.size,0,none⟩))∧Src w' w.heap.size (.slice a n cap) 0∧Below w.heap.size w w':=Pv a n cap w (by omega)
theorem DH {a:Option Addr} {n cap:Nat} {zs:List Int} {w:World} (h:IsRow .u8 w a n cap zs) (hn:n≤1048576):TO w w.heap.size a n cap:=by
 refine ⟨zs.take n,Yn.of_isRow h,?_,by omega,?_⟩
 ·intro z hz
  have hz':=List.mem_of_mem_take hz
  rcases h with ⟨_,_,_,rfl⟩ | ⟨x,_,_,_,_,_,hw⟩
  ·simp at hz'
  have:=hw z hz'
  simp [Lit.wf,IntKind.min,IntKind.max,IntKind.signed,IntKind.bits] at this
  omega
 intro x hx hn0
 obtain ⟨_,_,_,h4⟩:=Yn.of_isRow h
 rcases h4 with h4 | ⟨b,off,ha,hlt,_⟩
 ·exact absurd h4 hn0
 rw [ha] at hx
 cases hx
 exact hlt
end Go.Proofs.YtgmhhegckcionaaGreatDoor
