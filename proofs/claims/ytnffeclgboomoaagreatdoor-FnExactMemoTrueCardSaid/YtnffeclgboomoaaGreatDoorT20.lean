/-
  Joined: EsA.
-/
import Derived.Test.YtnffeclgboomoaaGreatDoorT16

namespace Go.Proofs.YtnffeclgboomoaaGreatDoor
set_option maxRecDepth 100000
set_option maxHeartbeats 16000000
open Go.RowKit
set_option linter.unusedVariables false
set_option linter.unusedSimpArgs false

theorem PI (a:Option Addr) (n cap:Nat) (xs:List I3) (w:World) (h:Zl w a n cap xs) :
  Calls Tryz.prog 143 #[.slice a n cap] w fun e w'=>e=.returned (.bool (Wi xs))∧Below w.heap.size w w':=by
 obtain ⟨hl,hlc,hcm,_,hcase⟩:=h
 unfold maxLen at hcm
 obtain ⟨fin,hfin⟩:∃ fin,fin=Wi xs:=⟨_,rfl⟩
 rw [← hfin]
 have HF:Hid (fin=Wi xs):=hfin
 clear hfin
 go_enter Tryz.func143,Tryz.ntmps143
 go_wp2_with fail
 go_loopw [3] (fun si wr=>∃ k:Nat,k≤n∧si=.int .i64 k∧Hid (∀ i,i<k→Tc xs i=true)∧Below w.heap.size w wr) (fun si _=>n - (intOf si).toNat)
 case atStart=>exact ⟨0,by omega,rfl,fun i hi=>by omega,Below.refl _ _⟩
 case round =>
  obtain ⟨k,hk,rfl,HK,bw⟩:=hrel
  by_cases hlt:k<n
  ·rcases hcase with e0 | ⟨b,off,rfl,hblt,hcell⟩
   ·omega
   obtain ⟨c0,c1,c2⟩:=hcell k hlt
   have HS:Hid (Tc xs k=(okB (xs.getD k (0,0,0)) && (decide (k=0) || ltB (xs.getD (k - 1) (0,0,0)) (xs.getD k (0,0,0))))):=rfl
   have hlt2:(k:Int)<(n:Int):=by omega
   have hk0:(0:Int)≤(k:Int):=by omega
   cases hO:okB (xs.getD k (0,0,0))
   ·have HR:Hid (fin=false):=by rw [Hid,HF.out];exact YW (show k<xs.length by omega) (by rw [HS.out,hO];rfl)
    clear HS HF HK hcell
    generalize xs.getD k (0,0,0)=x at *
    replace c0:=ZE bw c0
    replace c1:=ZE bw c1
    replace c2:=ZE bw c2
    have kO:=fun W=>Wt x W
    unfold I3.val at kO
    rw [hO] at kO
    clear hO
    go_wp2_with fail
    refine wp_region_held_drew (S:=(fun w'=>w'.cell? ⟨b,off+k*3,none⟩=some (.int .i64 x.1)∧w'.cell? ⟨b,off+k*3+1,none⟩=some (.int .i64 x.2.1)∧w'.cell? ⟨b,off+k*3+2,none⟩=some (.int .i64 x.2.2))) (by kernel_rfl) ⟨c0,c1,c2⟩ (fun hS0=>?_)
    refine tkx 0 10 (.slice (some ⟨b,off,none⟩) n cap) ?_ ?_
    ·(intro w' hSw;(try dsimp only at hSw);go_simp;first | done | rfl | omega | (intro h9;omega) | (rw [IntKind.wrap_i64];omega))
    simp only [Act.put,tka,tkb,tkc]
    refine tkx 1 11 (.int .i64 k) ?_ ?_
    ·(intro w' hSw;(try dsimp only at hSw);go_simp;first | done | rfl | omega | (intro h9;omega) | (rw [IntKind.wrap_i64];omega))
    simp only [Act.put,tka,tkb,tkc]
    refine tkx 2 12 (.pointer (some ⟨b,off+k*3,none⟩)) ?_ ?_
    ·(intro w' hSw;(try dsimp only at hSw);go_simp;first | done | rfl | omega | (intro h9;omega) | (rw [IntKind.wrap_i64];omega))
    simp only [Act.put,tka,tkb,tkc]
    refine tkx 3 13 (.agg #[.int .i64 x.1,.int .i64 x.2.1,.int .i64 x.2.2]) ?_ ?_
    ·(intro w' hSw;(try dsimp only at hSw);go_simp;first | done | rfl | omega | (intro h9;omega) | (rw [IntKind.wrap_i64];omega))
    simp only [Act.put,tka,tkb,tkc]
    refine tkr 4 14 (fun K hK=>?_)
    go_simp
    refine (kO _).mono ?_
    rintro e w1 ⟨rfl,hb⟩
    go_wp2_with fail
    refine hK.out _ _ ?_ (fun hS1=>?_)
    ·exact ⟨Za hb _ _ hS0.1,Za hb _ _ hS0.2.1,Za hb _ _ hS0.2.2⟩
    clear hK
    refine tkx 5 15 (.bool true) ?_ ?_
    ·(intro w' hSw;(try dsimp only at hSw);go_simp;first | done | rfl | omega | (intro h9;omega) | (rw [IntKind.wrap_i64];omega))
    simp only [Act.put,tka,tkb,tkc]
    refine tkx 6 16 (.bool true) ?_ ?_
    ·(intro w' hSw;(try dsimp only at hSw);go_simp;first | done | rfl | omega | (intro h9;omega) | (rw [IntKind.wrap_i64];omega))
    simp only [Act.put,tka,tkb,tkc]
    refine tku 7 17 ?_
    refine tku 8 18 ?_
    refine tku 9 19 ?_
    refine tku 10 20 ?_
    refine tku 11 21 ?_
    refine tku 12 22 ?_
    refine tku 13 23 ?_
    refine tku 14 24 ?_
    refine tku 15 25 ?_
    refine tku 16 26 ?_
    refine tku 17 27 ?_
    refine tku 18 28 ?_
    refine tku 19 29 ?_
    refine tku 20 30 ?_
    refine tku 21 31 ?_
    refine tkx 22 32 (.bool true) ?_ ?_
    ·(intro w' hSw;(try dsimp only at hSw);go_simp;first | done | rfl | omega | (intro h9;omega) | (rw [IntKind.wrap_i64];omega))
    simp only [Act.put,tka,tkb,tkc]
    refine wpAnyH_done (by kernel_rfl) ?_ _
    have bz:Below w.heap.size w w1:=Zh (Zh bw (by go_grown)) hb
    clear hS0 hS1 hb c0 c1 c2
    go_wp2
    go_ret
    exact ⟨by rw [HR.out];rfl,bz⟩
   by_cases hz:k=0
   ·have HK2:Hid (∀ i,i<k+1→Tc xs i=true):=fun i hi=>by
     obtain rfl:i=k:=by omega
     rw [HS.out,hO,decide_eq_true hz];rfl
    have hgt:¬ (0:Int)<(k:Int):=by omega
    clear HS HK hcell
    generalize xs.getD k (0,0,0)=x at *
    replace c0:=ZE bw c0
    replace c1:=ZE bw c1
    replace c2:=ZE bw c2
    have kO:=fun W=>Wt x W
    unfold I3.val at kO
    rw [hO] at kO
    clear hO hz
    go_wp2_with fail
    refine wp_region_held_drew (S:=(fun w'=>w'.cell? ⟨b,off+k*3,none⟩=some (.int .i64 x.1)∧w'.cell? ⟨b,off+k*3+1,none⟩=some (.int .i64 x.2.1)∧w'.cell? ⟨b,off+k*3+2,none⟩=some (.int .i64 x.2.2))) (by kernel_rfl) ⟨c0,c1,c2⟩ (fun hS0=>?_)
    refine tkx 0 10 (.slice (some ⟨b,off,none⟩) n cap) ?_ ?_
    ·(intro w' hSw;(try dsimp only at hSw);go_simp;first | done | rfl | omega | (intro h9;omega) | (rw [IntKind.wrap_i64];omega))
    simp only [Act.put,tka,tkb,tkc]
    refine tkx 1 11 (.int .i64 k) ?_ ?_
    ·(intro w' hSw;(try dsimp only at hSw);go_simp;first | done | rfl | omega | (intro h9;omega) | (rw [IntKind.wrap_i64];omega))
    simp only [Act.put,tka,tkb,tkc]
    refine tkx 2 12 (.pointer (some ⟨b,off+k*3,none⟩)) ?_ ?_
    ·(intro w' hSw;(try dsimp only at hSw);go_simp;first | done | rfl | omega | (intro h9;omega) | (rw [IntKind.wrap_i64];omega))
    simp only [Act.put,tka,tkb,tkc]
    refine tkx 3 13 (.agg #[.int .i64 x.1,.int .i64 x.2.1,.int .i64 x.2.2]) ?_ ?_
    ·(intro w' hSw;(try dsimp only at hSw);go_simp;first | done | rfl | omega | (intro h9;omega) | (rw [IntKind.wrap_i64];omega))
    simp only [Act.put,tka,tkb,tkc]
    refine tkr 4 14 (fun K hK=>?_)
    go_simp
    refine (kO _).mono ?_
    rintro e w1 ⟨rfl,hb⟩
    go_wp2_with fail
    refine hK.out _ _ ?_ (fun hS1=>?_)
    ·exact ⟨Za hb _ _ hS0.1,Za hb _ _ hS0.2.1,Za hb _ _ hS0.2.2⟩
    clear hK
    refine tkx 5 15 (.bool false) ?_ ?_
    ·(intro w' hSw;(try dsimp only at hSw);go_simp;first | done | rfl | omega | (intro h9;omega) | (rw [IntKind.wrap_i64];omega))
    simp only [Act.put,tka,tkb,tkc]
    refine tkx 6 16 (.bool false) ?_ ?_
    ·(intro w' hSw;(try dsimp only at hSw);go_simp;first | done | rfl | omega | (intro h9;omega) | (rw [IntKind.wrap_i64];omega))
    simp only [Act.put,tka,tkb,tkc]
    refine tkx 7 17 (.int .i64 k) ?_ ?_
    ·(intro w' hSw;(try dsimp only at hSw);go_simp;first | done | rfl | omega | (intro h9;omega) | (rw [IntKind.wrap_i64];omega))
    simp only [Act.put,tka,tkb,tkc]
    refine tkx 8 18 (.bool false) ?_ ?_
    ·(intro w' hSw;(try dsimp only at hSw);go_simp;first | done | rfl | omega | (intro h9;omega) | (rw [IntKind.wrap_i64];omega))
    simp only [Act.put,tka,tkb,tkc]
    refine tkx 9 19 (.bool false) ?_ ?_
    ·(intro w' hSw;(try dsimp only at hSw);go_simp;first | done | rfl | omega | (intro h9;omega) | (rw [IntKind.wrap_i64];omega))
    simp only [Act.put,tka,tkb,tkc]
    refine tku 10 20 ?_
    refine tku 11 21 ?_
    refine tku 12 22 ?_
    refine tku 13 23 ?_
    refine tku 14 24 ?_
    refine tku 15 25 ?_
    refine tku 16 26 ?_
    refine tku 17 27 ?_
    refine tku 18 28 ?_
    refine tku 19 29 ?_
    refine tku 20 30 ?_
    refine tkx 21 31 (.bool false) ?_ ?_
    ·(intro w' hSw;(try dsimp only at hSw);go_simp;first | done | rfl | omega | (intro h9;omega) | (rw [IntKind.wrap_i64];omega))
    simp only [Act.put,tka,tkb,tkc]
    refine tkx 22 32 (.bool false) ?_ ?_
    ·(intro w' hSw;(try dsimp only at hSw);go_simp;first | done | rfl | omega | (intro h9;omega) | (rw [IntKind.wrap_i64];omega))
    simp only [Act.put,tka,tkb,tkc]
    refine wpAnyH_done (by kernel_rfl) ?_ _
    have bz:Below w.heap.size w w1:=Zh (Zh bw (by go_grown)) hb
    clear hS0 hS1 hb c0 c1 c2
    go_wp2
    go_roundw
    case rel=>exact ⟨k+1,by omega,by go_num,HK2,bz⟩
    case measure=>simp [intOf];omega
   obtain ⟨m,rfl⟩:∃ m,k=m+1:=⟨k - 1,by omega⟩
   obtain ⟨d0,d1,d2⟩:=hcell m (by omega)
   have hgt:(0:Int)<((m+1:Nat):Int):=by omega
   have hsub:IntKind.i64.wrap (((m+1:Nat):Int) - 1)=(m:Int):=by rw [IntKind.wrap_i64];omega
   have hm0:(0:Int)≤(m:Int):=by omega
   have hmn:(m:Int)<(n:Int):=by omega
   rw [show m+1 - 1=m from rfl,decide_eq_false (show ¬ m+1=0 by omega),Bool.false_or] at HS
   cases hT:ltB (xs.getD (m) (0,0,0)) (xs.getD (m+1) (0,0,0))
   ·have HR:Hid (fin=false):=by rw [Hid,HF.out];exact YW (show m+1<xs.length by omega) (by rw [HS.out,hO,hT];rfl)
    clear HS HF HK hcell
    generalize xs.getD (m+1) (0,0,0)=x at *
    generalize xs.getD m (0,0,0)=y at *
    replace c0:=ZE bw c0
    replace c1:=ZE bw c1
    replace c2:=ZE bw c2
    replace d0:=ZE bw d0
    replace d1:=ZE bw d1
    replace d2:=ZE bw d2
    have kO:=fun W=>Wt x W
    unfold I3.val at kO
    rw [hO] at kO
    have kL:=fun W=>UR y x W
    unfold I3.val at kL
    rw [hT] at kL
    clear hO hT
    go_wp2_with fail
    refine wp_region_held_drew (S:=(fun w'=>w'.cell? ⟨b,off+(m+1)*3,none⟩=some (.int .i64 x.1)∧w'.cell? ⟨b,off+(m+1)*3+1,none⟩=some (.int .i64 x.2.1)∧w'.cell? ⟨b,off+(m+1)*3+2,none⟩=some (.int .i64 x.2.2)∧w'.cell? ⟨b,off+m*3,none⟩=some (.int .i64 y.1)∧w'.cell? ⟨b,off+m*3+1,none⟩=some (.int .i64 y.2.1)∧w'.cell? ⟨b,off+m*3+2,none⟩=some (.int .i64 y.2.2))) (by kernel_rfl) ⟨c0,c1,c2,d0,d1,d2⟩ (fun hS0=>?_)
    refine tkx 0 10 (.slice (some ⟨b,off,none⟩) n cap) ?_ ?_
    ·(intro w' hSw;(try dsimp only at hSw);go_simp;first | done | rfl | omega | (intro h9;omega) | (rw [IntKind.wrap_i64];omega))
    simp only [Act.put,tka,tkb,tkc]
    refine tkx 1 11 (.int .i64 ((m+1:Nat):Int)) ?_ ?_
    ·(intro w' hSw;(try dsimp only at hSw);go_simp;first | done | rfl | omega | (intro h9;omega) | (rw [IntKind.wrap_i64];omega))
    simp only [Act.put,tka,tkb,tkc]
    refine tkx 2 12 (.pointer (some ⟨b,off+(m+1)*3,none⟩)) ?_ ?_
    ·(intro w' hSw;(try dsimp only at hSw);go_simp;first | done | rfl | omega | (intro h9;omega) | (rw [IntKind.wrap_i64];omega))
    simp only [Act.put,tka,tkb,tkc]
    refine tkx 3 13 (.agg #[.int .i64 x.1,.int .i64 x.2.1,.int .i64 x.2.2]) ?_ ?_
    ·(intro w' hSw;(try dsimp only at hSw);go_simp;first | done | rfl | omega | (intro h9;omega) | (rw [IntKind.wrap_i64];omega))
    simp only [Act.put,tka,tkb,tkc]
    refine tkr 4 14 (fun K hK=>?_)
    go_simp
    refine (kO _).mono ?_
    rintro e w1 ⟨rfl,hb⟩
    go_wp2_with fail
    refine hK.out _ _ ?_ (fun hS1=>?_)
    ·exact ⟨Za hb _ _ hS0.1,Za hb _ _ hS0.2.1,Za hb _ _ hS0.2.2.1,Za hb _ _ hS0.2.2.2.1,Za hb _ _ hS0.2.2.2.2.1,Za hb _ _ hS0.2.2.2.2.2⟩
    clear hK
    refine tkx 5 15 (.bool false) ?_ ?_
    ·(intro w' hSw;(try dsimp only at hSw);go_simp;first | done | rfl | omega | (intro h9;omega) | (rw [IntKind.wrap_i64];omega))
    simp only [Act.put,tka,tkb,tkc]
    refine tkx 6 16 (.bool false) ?_ ?_
    ·(intro w' hSw;(try dsimp only at hSw);go_simp;first | done | rfl | omega | (intro h9;omega) | (rw [IntKind.wrap_i64];omega))
    simp only [Act.put,tka,tkb,tkc]
    refine tkx 7 17 (.int .i64 ((m+1:Nat):Int)) ?_ ?_
    ·(intro w' hSw;(try dsimp only at hSw);go_simp;first | done | rfl | omega | (intro h9;omega) | (rw [IntKind.wrap_i64];omega))
    simp only [Act.put,tka,tkb,tkc]
    refine tkx 8 18 (.bool true) ?_ ?_
    ·(intro w' hSw;(try dsimp only at hSw);go_simp;first | done | rfl | omega | (intro h9;omega) | (rw [IntKind.wrap_i64];omega))
    simp only [Act.put,tka,tkb,tkc]
    refine tkx 9 19 (.bool true) ?_ ?_
    ·(intro w' hSw;(try dsimp only at hSw);go_simp;first | done | rfl | omega | (intro h9;omega) | (rw [IntKind.wrap_i64];omega))
    simp only [Act.put,tka,tkb,tkc]
    refine tkx 10 20 (.slice (some ⟨b,off,none⟩) n cap) ?_ ?_
    ·(intro w' hSw;(try dsimp only at hSw);go_simp;first | done | rfl | omega | (intro h9;omega) | (rw [IntKind.wrap_i64];omega))
    simp only [Act.put,tka,tkb,tkc]
    refine tkx 11 21 (.int .i64 ((m+1:Nat):Int)) ?_ ?_
    ·(intro w' hSw;(try dsimp only at hSw);go_simp;first | done | rfl | omega | (intro h9;omega) | (rw [IntKind.wrap_i64];omega))
    simp only [Act.put,tka,tkb,tkc]
    refine tkx 12 22 (.int .i64 (m:Int)) ?_ ?_
    ·(intro w' hSw;(try dsimp only at hSw);go_simp;first | done | rfl | omega | (intro h9;omega) | (rw [IntKind.wrap_i64];omega))
    simp only [Act.put,tka,tkb,tkc]
    refine tkx 13 23 (.pointer (some ⟨b,off+m*3,none⟩)) ?_ ?_
    ·(intro w' hSw;(try dsimp only at hSw);go_simp;first | done | rfl | omega | (intro h9;omega) | (rw [IntKind.wrap_i64];omega))
    simp only [Act.put,tka,tkb,tkc]
    refine tkx 14 24 (.agg #[.int .i64 y.1,.int .i64 y.2.1,.int .i64 y.2.2]) ?_ ?_
    ·(intro w' hSw;(try dsimp only at hSw);go_simp;first | done | rfl | omega | (intro h9;omega) | (rw [IntKind.wrap_i64];omega))
    simp only [Act.put,tka,tkb,tkc]
    refine tkx 15 25 (.slice (some ⟨b,off,none⟩) n cap) ?_ ?_
    ·(intro w' hSw;(try dsimp only at hSw);go_simp;first | done | rfl | omega | (intro h9;omega) | (rw [IntKind.wrap_i64];omega))
    simp only [Act.put,tka,tkb,tkc]
    refine tkx 16 26 (.int .i64 ((m+1:Nat):Int)) ?_ ?_
    ·(intro w' hSw;(try dsimp only at hSw);go_simp;first | done | rfl | omega | (intro h9;omega) | (rw [IntKind.wrap_i64];omega))
    simp only [Act.put,tka,tkb,tkc]
    refine tkx 17 27 (.pointer (some ⟨b,off+(m+1)*3,none⟩)) ?_ ?_
    ·(intro w' hSw;(try dsimp only at hSw);go_simp;first | done | rfl | omega | (intro h9;omega) | (rw [IntKind.wrap_i64];omega))
    simp only [Act.put,tka,tkb,tkc]
    refine tkx 18 28 (.agg #[.int .i64 x.1,.int .i64 x.2.1,.int .i64 x.2.2]) ?_ ?_
    ·(intro w' hSw;(try dsimp only at hSw);go_simp;first | done | rfl | omega | (intro h9;omega) | (rw [IntKind.wrap_i64];omega))
    simp only [Act.put,tka,tkb,tkc]
    refine tkr 19 29 (fun K hK=>?_)
    go_simp
    refine (kL _).mono ?_
    rintro e w2 ⟨rfl,hb2⟩
    go_wp2_with fail
    refine hK.out _ _ ?_ (fun hS2=>?_)
    ·exact ⟨Za hb2 _ _ hS1.1,Za hb2 _ _ hS1.2.1,Za hb2 _ _ hS1.2.2.1,Za hb2 _ _ hS1.2.2.2.1,Za hb2 _ _ hS1.2.2.2.2.1,Za hb2 _ _ hS1.2.2.2.2.2⟩
    clear hK
    refine tkx 20 30 (.bool true) ?_ ?_
    ·(intro w' hSw;(try dsimp only at hSw);go_simp;first | done | rfl | omega | (intro h9;omega) | (rw [IntKind.wrap_i64];omega))
    simp only [Act.put,tka,tkb,tkc]
    refine tkx 21 31 (.bool true) ?_ ?_
    ·(intro w' hSw;(try dsimp only at hSw);go_simp;first | done | rfl | omega | (intro h9;omega) | (rw [IntKind.wrap_i64];omega))
    simp only [Act.put,tka,tkb,tkc]
    refine tkx 22 32 (.bool true) ?_ ?_
    ·(intro w' hSw;(try dsimp only at hSw);go_simp;first | done | rfl | omega | (intro h9;omega) | (rw [IntKind.wrap_i64];omega))
    simp only [Act.put,tka,tkb,tkc]
    refine wpAnyH_done (by kernel_rfl) ?_ _
    have bz:Below w.heap.size w w2:=Zh (Zh (Zh bw (by go_grown)) hb) hb2
    clear hS0 hS1 hb c0 c1 c2 d0 d1 d2 hb2 hS2
    go_wp2
    go_ret
    exact ⟨by rw [HR.out];rfl,bz⟩
   have HK2:Hid (∀ i,i<m+1+1→Tc xs i=true):=fun i hi=>by
    by_cases e:i=m+1
    ·rw [e,HS.out,hO,hT];rfl
    exact HK.out i (by omega)
   clear HS HK hcell
   generalize xs.getD (m+1) (0,0,0)=x at *
   generalize xs.getD m (0,0,0)=y at *
   replace c0:=ZE bw c0
   replace c1:=ZE bw c1
   replace c2:=ZE bw c2
   replace d0:=ZE bw d0
   replace d1:=ZE bw d1
   replace d2:=ZE bw d2
   have kO:=fun W=>Wt x W
   unfold I3.val at kO
   rw [hO] at kO
   have kL:=fun W=>UR y x W
   unfold I3.val at kL
   rw [hT] at kL
   clear hO hT
   go_wp2_with fail
   refine wp_region_held_drew (S:=(fun w'=>w'.cell? ⟨b,off+(m+1)*3,none⟩=some (.int .i64 x.1)∧w'.cell? ⟨b,off+(m+1)*3+1,none⟩=some (.int .i64 x.2.1)∧w'.cell? ⟨b,off+(m+1)*3+2,none⟩=some (.int .i64 x.2.2)∧w'.cell? ⟨b,off+m*3,none⟩=some (.int .i64 y.1)∧w'.cell? ⟨b,off+m*3+1,none⟩=some (.int .i64 y.2.1)∧w'.cell? ⟨b,off+m*3+2,none⟩=some (.int .i64 y.2.2))) (by kernel_rfl) ⟨c0,c1,c2,d0,d1,d2⟩ (fun hS0=>?_)
   refine tkx 0 10 (.slice (some ⟨b,off,none⟩) n cap) ?_ ?_
   ·(intro w' hSw;(try dsimp only at hSw);go_simp;first | done | rfl | omega | (intro h9;omega) | (rw [IntKind.wrap_i64];omega))
   simp only [Act.put,tka,tkb,tkc]
   refine tkx 1 11 (.int .i64 ((m+1:Nat):Int)) ?_ ?_
   ·(intro w' hSw;(try dsimp only at hSw);go_simp;first | done | rfl | omega | (intro h9;omega) | (rw [IntKind.wrap_i64];omega))
   simp only [Act.put,tka,tkb,tkc]
   refine tkx 2 12 (.pointer (some ⟨b,off+(m+1)*3,none⟩)) ?_ ?_
   ·(intro w' hSw;(try dsimp only at hSw);go_simp;first | done | rfl | omega | (intro h9;omega) | (rw [IntKind.wrap_i64];omega))
   simp only [Act.put,tka,tkb,tkc]
   refine tkx 3 13 (.agg #[.int .i64 x.1,.int .i64 x.2.1,.int .i64 x.2.2]) ?_ ?_
   ·(intro w' hSw;(try dsimp only at hSw);go_simp;first | done | rfl | omega | (intro h9;omega) | (rw [IntKind.wrap_i64];omega))
   simp only [Act.put,tka,tkb,tkc]
   refine tkr 4 14 (fun K hK=>?_)
   go_simp
   refine (kO _).mono ?_
   rintro e w1 ⟨rfl,hb⟩
   go_wp2_with fail
   refine hK.out _ _ ?_ (fun hS1=>?_)
   ·exact ⟨Za hb _ _ hS0.1,Za hb _ _ hS0.2.1,Za hb _ _ hS0.2.2.1,Za hb _ _ hS0.2.2.2.1,Za hb _ _ hS0.2.2.2.2.1,Za hb _ _ hS0.2.2.2.2.2⟩
   clear hK
   refine tkx 5 15 (.bool false) ?_ ?_
   ·(intro w' hSw;(try dsimp only at hSw);go_simp;first | done | rfl | omega | (intro h9;omega) | (rw [IntKind.wrap_i64];omega))
   simp only [Act.put,tka,tkb,tkc]
   refine tkx 6 16 (.bool false) ?_ ?_
   ·(intro w' hSw;(try dsimp only at hSw);go_simp;first | done | rfl | omega | (intro h9;omega) | (rw [IntKind.wrap_i64];omega))
   simp only [Act.put,tka,tkb,tkc]
   refine tkx 7 17 (.int .i64 ((m+1:Nat):Int)) ?_ ?_
   ·(intro w' hSw;(try dsimp only at hSw);go_simp;first | done | rfl | omega | (intro h9;omega) | (rw [IntKind.wrap_i64];omega))
   simp only [Act.put,tka,tkb,tkc]
   refine tkx 8 18 (.bool true) ?_ ?_
   ·(intro w' hSw;(try dsimp only at hSw);go_simp;first | done | rfl | omega | (intro h9;omega) | (rw [IntKind.wrap_i64];omega))
   simp only [Act.put,tka,tkb,tkc]
   refine tkx 9 19 (.bool true) ?_ ?_
   ·(intro w' hSw;(try dsimp only at hSw);go_simp;first | done | rfl | omega | (intro h9;omega) | (rw [IntKind.wrap_i64];omega))
   simp only [Act.put,tka,tkb,tkc]
   refine tkx 10 20 (.slice (some ⟨b,off,none⟩) n cap) ?_ ?_
   ·(intro w' hSw;(try dsimp only at hSw);go_simp;first | done | rfl | omega | (intro h9;omega) | (rw [IntKind.wrap_i64];omega))
   simp only [Act.put,tka,tkb,tkc]
   refine tkx 11 21 (.int .i64 ((m+1:Nat):Int)) ?_ ?_
   ·(intro w' hSw;(try dsimp only at hSw);go_simp;first | done | rfl | omega | (intro h9;omega) | (rw [IntKind.wrap_i64];omega))
   simp only [Act.put,tka,tkb,tkc]
   refine tkx 12 22 (.int .i64 (m:Int)) ?_ ?_
   ·(intro w' hSw;(try dsimp only at hSw);go_simp;first | done | rfl | omega | (intro h9;omega) | (rw [IntKind.wrap_i64];omega))
   simp only [Act.put,tka,tkb,tkc]
   refine tkx 13 23 (.pointer (some ⟨b,off+m*3,none⟩)) ?_ ?_
   ·(intro w' hSw;(try dsimp only at hSw);go_simp;first | done | rfl | omega | (intro h9;omega) | (rw [IntKind.wrap_i64];omega))
   simp only [Act.put,tka,tkb,tkc]
   refine tkx 14 24 (.agg #[.int .i64 y.1,.int .i64 y.2.1,.int .i64 y.2.2]) ?_ ?_
   ·(intro w' hSw;(try dsimp only at hSw);go_simp;first | done | rfl | omega | (intro h9;omega) | (rw [IntKind.wrap_i64];omega))
   simp only [Act.put,tka,tkb,tkc]
   refine tkx 15 25 (.slice (some ⟨b,off,none⟩) n cap) ?_ ?_
   ·(intro w' hSw;(try dsimp only at hSw);go_simp;first | done | rfl | omega | (intro h9;omega) | (rw [IntKind.wrap_i64];omega))
   simp only [Act.put,tka,tkb,tkc]
   refine tkx 16 26 (.int .i64 ((m+1:Nat):Int)) ?_ ?_
   ·(intro w' hSw;(try dsimp only at hSw);go_simp;first | done | rfl | omega | (intro h9;omega) | (rw [IntKind.wrap_i64];omega))
   simp only [Act.put,tka,tkb,tkc]
   refine tkx 17 27 (.pointer (some ⟨b,off+(m+1)*3,none⟩)) ?_ ?_
   ·(intro w' hSw;(try dsimp only at hSw);go_simp;first | done | rfl | omega | (intro h9;omega) | (rw [IntKind.wrap_i64];omega))
   simp only [Act.put,tka,tkb,tkc]
   refine tkx 18 28 (.agg #[.int .i64 x.1,.int .i64 x.2.1,.int .i64 x.2.2]) ?_ ?_
   ·(intro w' hSw;(try dsimp only at hSw);go_simp;first | done | rfl | omega | (intro h9;omega) | (rw [IntKind.wrap_i64];omega))
   simp only [Act.put,tka,tkb,tkc]
   refine tkr 19 29 (fun K hK=>?_)
   go_simp
   refine (kL _).mono ?_
   rintro e w2 ⟨rfl,hb2⟩
   go_wp2_with fail
   refine hK.out _ _ ?_ (fun hS2=>?_)
   ·exact ⟨Za hb2 _ _ hS1.1,Za hb2 _ _ hS1.2.1,Za hb2 _ _ hS1.2.2.1,Za hb2 _ _ hS1.2.2.2.1,Za hb2 _ _ hS1.2.2.2.2.1,Za hb2 _ _ hS1.2.2.2.2.2⟩
   clear hK
   refine tkx 20 30 (.bool false) ?_ ?_
   ·(intro w' hSw;(try dsimp only at hSw);go_simp;first | done | rfl | omega | (intro h9;omega) | (rw [IntKind.wrap_i64];omega))
   simp only [Act.put,tka,tkb,tkc]
   refine tkx 21 31 (.bool false) ?_ ?_
   ·(intro w' hSw;(try dsimp only at hSw);go_simp;first | done | rfl | omega | (intro h9;omega) | (rw [IntKind.wrap_i64];omega))
   simp only [Act.put,tka,tkb,tkc]
   refine tkx 22 32 (.bool false) ?_ ?_
   ·(intro w' hSw;(try dsimp only at hSw);go_simp;first | done | rfl | omega | (intro h9;omega) | (rw [IntKind.wrap_i64];omega))
   simp only [Act.put,tka,tkb,tkc]
   refine wpAnyH_done (by kernel_rfl) ?_ _
   have bz:Below w.heap.size w w2:=Zh (Zh (Zh bw (by go_grown)) hb) hb2
   clear hS0 hS1 hb c0 c1 c2 d0 d1 d2 hb2 hS2
   go_wp2
   go_roundw
   case rel=>exact ⟨m+1+1,by omega,by go_num,HK2,bz⟩
   case measure=>simp [intOf];omega
  obtain rfl:k=n:=by omega
  have HR:Hid (fin=true):=by rw [Hid,HF.out];exact Xg (fun i hi=>HK.out i (by omega))
  clear HF HK hcase
  go_wp2
  go_ret
  exact ⟨by rw [HR.out];rfl,bw⟩

theorem NG (a:Option Addr) (n cap:Nat) (xs:List Int) (w:World) (h:Z2 .i64 w a n cap xs) (hw:wfs xs) :
  Calls Tryz.prog 144 #[.slice a n cap] w fun e w'=>e=.returned (.bool (Wm xs))∧Below w.heap.size w w':=by
 obtain ⟨hl,hlc,hcm,hcase⟩:=h
 unfold maxLen at hcm
 obtain ⟨fin,hfin⟩:∃ fin,fin=Wm xs:=⟨_,rfl⟩
 rw [← hfin]
 have HF:Hid (fin=Wm xs):=hfin
 clear hfin
 go_enter Tryz.func144,Tryz.ntmps144
 go_wp2_with fail
 go_loopw [3] (fun si wr=>∃ k:Nat,k≤n∧si=.int .i64 k∧Hid (∀ i,i<k→UI xs i=true)∧Below w.heap.size w wr) (fun si _=>n - (intOf si).toNat)
 case atStart=>exact ⟨0,by omega,rfl,fun i hi=>by omega,Below.refl _ _⟩
 case round =>
  obtain ⟨k,hk,rfl,HK,bw⟩:=hrel
  by_cases hlt:k<n
  ·rcases hcase with e0 | ⟨b,off,rfl,hblt,hcell⟩
   ·omega
   have c0:=hcell k hlt
   have hxw:=hw (xs.getD k 0) (by simp [List.getD,List.getElem?_eq_getElem (show k<xs.length by omega)])
   have HS:Hid (UI xs k=(Y7 (xs.getD k 0) && (decide (k=0) || decide (xs.getD (k - 1) 0<xs.getD k 0)))):=rfl
   have hlt2:(k:Int)<(n:Int):=by omega
   have hk0:(0:Int)≤(k:Int):=by omega
   cases hO:Y7 (xs.getD k 0)
   ·have HR:Hid (fin=false):=by rw [Hid,HF.out];exact YW (show k<xs.length by omega) (by rw [HS.out,hO];rfl)
    clear HS HF HK hcell
    generalize xs.getD k 0=x at *
    replace c0:=ZE bw c0
    have kO:=fun W=>Tq x (Rt hxw) W
    rw [hO] at kO
    clear hO
    go_wp2_with fail
    refine wp_region_held_drew (S:=(fun w'=>w'.cell? ⟨b,off+k,none⟩=some (.int .i64 x))) (by kernel_rfl) c0 (fun hS0=>?_)
    refine tkx 0 10 (.slice (some ⟨b,off,none⟩) n cap) ?_ ?_
    ·(intro w' hSw;(try dsimp only at hSw);go_simp;first | done | rfl | omega | (intro h9;omega) | (rw [IntKind.wrap_i64];omega))
    simp only [Act.put,tka,tkb,tkc]
    refine tkx 1 11 (.int .i64 k) ?_ ?_
    ·(intro w' hSw;(try dsimp only at hSw);go_simp;first | done | rfl | omega | (intro h9;omega) | (rw [IntKind.wrap_i64];omega))
    simp only [Act.put,tka,tkb,tkc]
    refine tkx 2 12 (.pointer (some ⟨b,off+k,none⟩)) ?_ ?_
    ·(intro w' hSw;(try dsimp only at hSw);go_simp;first | done | rfl | omega | (intro h9;omega) | (rw [IntKind.wrap_i64];omega))
    simp only [Act.put,tka,tkb,tkc]
    refine tkx 3 13 (.int .i64 x) ?_ ?_
    ·(intro w' hSw;(try dsimp only at hSw);go_simp;first | done | rfl | omega | (intro h9;omega) | (rw [IntKind.wrap_i64];omega))
    simp only [Act.put,tka,tkb,tkc]
    refine tkr 4 14 (fun K hK=>?_)
    go_simp
    refine (kO _).mono ?_
    rintro e w1 ⟨rfl,rfl⟩
    go_wp2_with fail
    refine hK.out _ _ ?_ (fun hS1=>?_)
    ·exact hS0
    clear hK
    refine tkx 5 15 (.bool true) ?_ ?_
    ·(intro w' hSw;(try dsimp only at hSw);go_simp;first | done | rfl | omega | (intro h9;omega) | (rw [IntKind.wrap_i64];omega))
    simp only [Act.put,tka,tkb,tkc]
    refine tkx 6 16 (.bool true) ?_ ?_
    ·(intro w' hSw;(try dsimp only at hSw);go_simp;first | done | rfl | omega | (intro h9;omega) | (rw [IntKind.wrap_i64];omega))
    simp only [Act.put,tka,tkb,tkc]
    refine tku 7 17 ?_
    refine tku 8 18 ?_
    refine tku 9 19 ?_
    refine tku 10 20 ?_
    refine tku 11 21 ?_
    refine tku 12 22 ?_
    refine tku 13 23 ?_
    refine tku 14 24 ?_
    refine tku 15 25 ?_
    refine tku 16 26 ?_
    refine tku 17 27 ?_
    refine tku 18 28 ?_
    refine tku 19 29 ?_
    refine tku 20 30 ?_
    refine tkx 21 31 (.bool true) ?_ ?_
    ·(intro w' hSw;(try dsimp only at hSw);go_simp;first | done | rfl | omega | (intro h9;omega) | (rw [IntKind.wrap_i64];omega))
    simp only [Act.put,tka,tkb,tkc]
    refine wpAnyH_done (by kernel_rfl) ?_ _
    have bz:Below w.heap.size w wr.drew:=Zh bw (by go_grown)
    clear hS0 hS1 c0
    go_wp2
    go_ret
    exact ⟨by rw [HR.out];rfl,bz⟩
   by_cases hz:k=0
   ·have HK2:Hid (∀ i,i<k+1→UI xs i=true):=fun i hi=>by
     obtain rfl:i=k:=by omega
     rw [HS.out,hO,decide_eq_true hz];rfl
    have hgt:¬ (0:Int)<(k:Int):=by omega
    clear HS HK hcell
    generalize xs.getD k 0=x at *
    replace c0:=ZE bw c0
    have kO:=fun W=>Tq x (Rt hxw) W
    rw [hO] at kO
    clear hO hz
    go_wp2_with fail
    refine wp_region_held_drew (S:=(fun w'=>w'.cell? ⟨b,off+k,none⟩=some (.int .i64 x))) (by kernel_rfl) c0 (fun hS0=>?_)
    refine tkx 0 10 (.slice (some ⟨b,off,none⟩) n cap) ?_ ?_
    ·(intro w' hSw;(try dsimp only at hSw);go_simp;first | done | rfl | omega | (intro h9;omega) | (rw [IntKind.wrap_i64];omega))
    simp only [Act.put,tka,tkb,tkc]
    refine tkx 1 11 (.int .i64 k) ?_ ?_
    ·(intro w' hSw;(try dsimp only at hSw);go_simp;first | done | rfl | omega | (intro h9;omega) | (rw [IntKind.wrap_i64];omega))
    simp only [Act.put,tka,tkb,tkc]
    refine tkx 2 12 (.pointer (some ⟨b,off+k,none⟩)) ?_ ?_
    ·(intro w' hSw;(try dsimp only at hSw);go_simp;first | done | rfl | omega | (intro h9;omega) | (rw [IntKind.wrap_i64];omega))
    simp only [Act.put,tka,tkb,tkc]
    refine tkx 3 13 (.int .i64 x) ?_ ?_
    ·(intro w' hSw;(try dsimp only at hSw);go_simp;first | done | rfl | omega | (intro h9;omega) | (rw [IntKind.wrap_i64];omega))
    simp only [Act.put,tka,tkb,tkc]
    refine tkr 4 14 (fun K hK=>?_)
    go_simp
    refine (kO _).mono ?_
    rintro e w1 ⟨rfl,rfl⟩
    go_wp2_with fail
    refine hK.out _ _ ?_ (fun hS1=>?_)
    ·exact hS0
    clear hK
    refine tkx 5 15 (.bool false) ?_ ?_
    ·(intro w' hSw;(try dsimp only at hSw);go_simp;first | done | rfl | omega | (intro h9;omega) | (rw [IntKind.wrap_i64];omega))
    simp only [Act.put,tka,tkb,tkc]
    refine tkx 6 16 (.bool false) ?_ ?_
    ·(intro w' hSw;(try dsimp only at hSw);go_simp;first | done | rfl | omega | (intro h9;omega) | (rw [IntKind.wrap_i64];omega))
    simp only [Act.put,tka,tkb,tkc]
    refine tkx 7 17 (.int .i64 k) ?_ ?_
    ·(intro w' hSw;(try dsimp only at hSw);go_simp;first | done | rfl | omega | (intro h9;omega) | (rw [IntKind.wrap_i64];omega))
    simp only [Act.put,tka,tkb,tkc]
    refine tkx 8 18 (.bool false) ?_ ?_
    ·(intro w' hSw;(try dsimp only at hSw);go_simp;first | done | rfl | omega | (intro h9;omega) | (rw [IntKind.wrap_i64];omega))
    simp only [Act.put,tka,tkb,tkc]
    refine tkx 9 19 (.bool false) ?_ ?_
    ·(intro w' hSw;(try dsimp only at hSw);go_simp;first | done | rfl | omega | (intro h9;omega) | (rw [IntKind.wrap_i64];omega))
    simp only [Act.put,tka,tkb,tkc]
    refine tku 10 20 ?_
    refine tku 11 21 ?_
    refine tku 12 22 ?_
    refine tku 13 23 ?_
    refine tku 14 24 ?_
    refine tku 15 25 ?_
    refine tku 16 26 ?_
    refine tku 17 27 ?_
    refine tku 18 28 ?_
    refine tku 19 29 ?_
    refine tkx 20 30 (.bool false) ?_ ?_
    ·(intro w' hSw;(try dsimp only at hSw);go_simp;first | done | rfl | omega | (intro h9;omega) | (rw [IntKind.wrap_i64];omega))
    simp only [Act.put,tka,tkb,tkc]
    refine tkx 21 31 (.bool false) ?_ ?_
    ·(intro w' hSw;(try dsimp only at hSw);go_simp;first | done | rfl | omega | (intro h9;omega) | (rw [IntKind.wrap_i64];omega))
    simp only [Act.put,tka,tkb,tkc]
    refine wpAnyH_done (by kernel_rfl) ?_ _
    have bz:Below w.heap.size w wr.drew:=Zh bw (by go_grown)
    clear hS0 hS1 c0
    go_wp2
    go_roundw
    case rel=>exact ⟨k+1,by omega,by go_num,HK2,bz⟩
    case measure=>simp [intOf];omega
   obtain ⟨m,rfl⟩:∃ m,k=m+1:=⟨k - 1,by omega⟩
   have d0:=hcell m (by omega)
   have hgt:(0:Int)<((m+1:Nat):Int):=by omega
   have hsub:IntKind.i64.wrap (((m+1:Nat):Int) - 1)=(m:Int):=by rw [IntKind.wrap_i64];omega
   have hm0:(0:Int)≤(m:Int):=by omega
   have hmn:(m:Int)<(n:Int):=by omega
   rw [show m+1 - 1=m from rfl,decide_eq_false (show ¬ m+1=0 by omega),Bool.false_or] at HS
   cases hT:decide (xs.getD (m) 0<xs.getD (m+1) 0)
   ·have HR:Hid (fin=false):=by rw [Hid,HF.out];exact YW (show m+1<xs.length by omega) (by rw [HS.out,hO,hT];rfl)
    clear HS HF HK hcell
    generalize xs.getD (m+1) 0=x at *
    generalize xs.getD m 0=y at *
    replace c0:=ZE bw c0
    replace d0:=ZE bw d0
    have kO:=fun W=>Tq x (Rt hxw) W
    rw [hO] at kO
    have hge:y ≥ x:=by simpa using hT
    skip
    skip
    clear hO hT
    go_wp2_with fail
    refine wp_region_held_drew (S:=(fun w'=>w'.cell? ⟨b,off+(m+1),none⟩=some (.int .i64 x)∧w'.cell? ⟨b,off+m,none⟩=some (.int .i64 y))) (by kernel_rfl) ⟨c0,d0⟩ (fun hS0=>?_)
    refine tkx 0 10 (.slice (some ⟨b,off,none⟩) n cap) ?_ ?_
    ·(intro w' hSw;(try dsimp only at hSw);go_simp;first | done | rfl | omega | (intro h9;omega) | (rw [IntKind.wrap_i64];omega))
    simp only [Act.put,tka,tkb,tkc]
    refine tkx 1 11 (.int .i64 ((m+1:Nat):Int)) ?_ ?_
    ·(intro w' hSw;(try dsimp only at hSw);go_simp;first | done | rfl | omega | (intro h9;omega) | (rw [IntKind.wrap_i64];omega))
    simp only [Act.put,tka,tkb,tkc]
    refine tkx 2 12 (.pointer (some ⟨b,off+(m+1),none⟩)) ?_ ?_
    ·(intro w' hSw;(try dsimp only at hSw);go_simp;first | done | rfl | omega | (intro h9;omega) | (rw [IntKind.wrap_i64];omega))
    simp only [Act.put,tka,tkb,tkc]
    refine tkx 3 13 (.int .i64 x) ?_ ?_
    ·(intro w' hSw;(try dsimp only at hSw);go_simp;first | done | rfl | omega | (intro h9;omega) | (rw [IntKind.wrap_i64];omega))
    simp only [Act.put,tka,tkb,tkc]
    refine tkr 4 14 (fun K hK=>?_)
    go_simp
    refine (kO _).mono ?_
    rintro e w1 ⟨rfl,rfl⟩
    go_wp2_with fail
    refine hK.out _ _ ?_ (fun hS1=>?_)
    ·exact hS0
    clear hK
    refine tkx 5 15 (.bool false) ?_ ?_
    ·(intro w' hSw;(try dsimp only at hSw);go_simp;first | done | rfl | omega | (intro h9;omega) | (rw [IntKind.wrap_i64];omega))
    simp only [Act.put,tka,tkb,tkc]
    refine tkx 6 16 (.bool false) ?_ ?_
    ·(intro w' hSw;(try dsimp only at hSw);go_simp;first | done | rfl | omega | (intro h9;omega) | (rw [IntKind.wrap_i64];omega))
    simp only [Act.put,tka,tkb,tkc]
    refine tkx 7 17 (.int .i64 ((m+1:Nat):Int)) ?_ ?_
    ·(intro w' hSw;(try dsimp only at hSw);go_simp;first | done | rfl | omega | (intro h9;omega) | (rw [IntKind.wrap_i64];omega))
    simp only [Act.put,tka,tkb,tkc]
    refine tkx 8 18 (.bool true) ?_ ?_
    ·(intro w' hSw;(try dsimp only at hSw);go_simp;first | done | rfl | omega | (intro h9;omega) | (rw [IntKind.wrap_i64];omega))
    simp only [Act.put,tka,tkb,tkc]
    refine tkx 9 19 (.bool true) ?_ ?_
    ·(intro w' hSw;(try dsimp only at hSw);go_simp;first | done | rfl | omega | (intro h9;omega) | (rw [IntKind.wrap_i64];omega))
    simp only [Act.put,tka,tkb,tkc]
    refine tkx 10 20 (.slice (some ⟨b,off,none⟩) n cap) ?_ ?_
    ·(intro w' hSw;(try dsimp only at hSw);go_simp;first | done | rfl | omega | (intro h9;omega) | (rw [IntKind.wrap_i64];omega))
    simp only [Act.put,tka,tkb,tkc]
    refine tkx 11 21 (.int .i64 ((m+1:Nat):Int)) ?_ ?_
    ·(intro w' hSw;(try dsimp only at hSw);go_simp;first | done | rfl | omega | (intro h9;omega) | (rw [IntKind.wrap_i64];omega))
    simp only [Act.put,tka,tkb,tkc]
    refine tkx 12 22 (.int .i64 (m:Int)) ?_ ?_
    ·(intro w' hSw;(try dsimp only at hSw);go_simp;first | done | rfl | omega | (intro h9;omega) | (rw [IntKind.wrap_i64];omega))
    simp only [Act.put,tka,tkb,tkc]
    refine tkx 13 23 (.pointer (some ⟨b,off+m,none⟩)) ?_ ?_
    ·(intro w' hSw;(try dsimp only at hSw);go_simp;first | done | rfl | omega | (intro h9;omega) | (rw [IntKind.wrap_i64];omega))
    simp only [Act.put,tka,tkb,tkc]
    refine tkx 14 24 (.int .i64 y) ?_ ?_
    ·(intro w' hSw;(try dsimp only at hSw);go_simp;first | done | rfl | omega | (intro h9;omega) | (rw [IntKind.wrap_i64];omega))
    simp only [Act.put,tka,tkb,tkc]
    refine tkx 15 25 (.slice (some ⟨b,off,none⟩) n cap) ?_ ?_
    ·(intro w' hSw;(try dsimp only at hSw);go_simp;first | done | rfl | omega | (intro h9;omega) | (rw [IntKind.wrap_i64];omega))
    simp only [Act.put,tka,tkb,tkc]
    refine tkx 16 26 (.int .i64 ((m+1:Nat):Int)) ?_ ?_
    ·(intro w' hSw;(try dsimp only at hSw);go_simp;first | done | rfl | omega | (intro h9;omega) | (rw [IntKind.wrap_i64];omega))
    simp only [Act.put,tka,tkb,tkc]
    refine tkx 17 27 (.pointer (some ⟨b,off+(m+1),none⟩)) ?_ ?_
    ·(intro w' hSw;(try dsimp only at hSw);go_simp;first | done | rfl | omega | (intro h9;omega) | (rw [IntKind.wrap_i64];omega))
    simp only [Act.put,tka,tkb,tkc]
    refine tkx 18 28 (.int .i64 x) ?_ ?_
    ·(intro w' hSw;(try dsimp only at hSw);go_simp;first | done | rfl | omega | (intro h9;omega) | (rw [IntKind.wrap_i64];omega))
    simp only [Act.put,tka,tkb,tkc]
    refine tkx 19 29 (.bool true) ?_ ?_
    ·(intro w' hSw;(try dsimp only at hSw);go_simp;first | done | rfl | omega | (intro h9;omega) | (rw [IntKind.wrap_i64];omega))
    simp only [Act.put,tka,tkb,tkc]
    refine tkx 20 30 (.bool true) ?_ ?_
    ·(intro w' hSw;(try dsimp only at hSw);go_simp;first | done | rfl | omega | (intro h9;omega) | (rw [IntKind.wrap_i64];omega))
    simp only [Act.put,tka,tkb,tkc]
    refine tkx 21 31 (.bool true) ?_ ?_
    ·(intro w' hSw;(try dsimp only at hSw);go_simp;first | done | rfl | omega | (intro h9;omega) | (rw [IntKind.wrap_i64];omega))
    simp only [Act.put,tka,tkb,tkc]
    refine wpAnyH_done (by kernel_rfl) ?_ _
    have bz:Below w.heap.size w wr.drew:=Zh bw (by go_grown)
    clear hS0 hS1 c0 d0 
    go_wp2
    go_ret
    exact ⟨by rw [HR.out];rfl,bz⟩
   have HK2:Hid (∀ i,i<m+1+1→UI xs i=true):=fun i hi=>by
    by_cases e:i=m+1
    ·rw [e,HS.out,hO,hT];rfl
    exact HK.out i (by omega)
   clear HS HK hcell
   generalize xs.getD (m+1) 0=x at *
   generalize xs.getD m 0=y at *
   replace c0:=ZE bw c0
   replace d0:=ZE bw d0
   have kO:=fun W=>Tq x (Rt hxw) W
   rw [hO] at kO
   have hge:¬ y ≥ x:=by simpa using hT
   skip
   skip
   clear hO hT
   go_wp2_with fail
   refine wp_region_held_drew (S:=(fun w'=>w'.cell? ⟨b,off+(m+1),none⟩=some (.int .i64 x)∧w'.cell? ⟨b,off+m,none⟩=some (.int .i64 y))) (by kernel_rfl) ⟨c0,d0⟩ (fun hS0=>?_)
   refine tkx 0 10 (.slice (some ⟨b,off,none⟩) n cap) ?_ ?_
   ·(intro w' hSw;(try dsimp only at hSw);go_simp;first | done | rfl | omega | (intro h9;omega) | (rw [IntKind.wrap_i64];omega))
   simp only [Act.put,tka,tkb,tkc]
   refine tkx 1 11 (.int .i64 ((m+1:Nat):Int)) ?_ ?_
   ·(intro w' hSw;(try dsimp only at hSw);go_simp;first | done | rfl | omega | (intro h9;omega) | (rw [IntKind.wrap_i64];omega))
   simp only [Act.put,tka,tkb,tkc]
   refine tkx 2 12 (.pointer (some ⟨b,off+(m+1),none⟩)) ?_ ?_
   ·(intro w' hSw;(try dsimp only at hSw);go_simp;first | done | rfl | omega | (intro h9;omega) | (rw [IntKind.wrap_i64];omega))
   simp only [Act.put,tka,tkb,tkc]
   refine tkx 3 13 (.int .i64 x) ?_ ?_
   ·(intro w' hSw;(try dsimp only at hSw);go_simp;first | done | rfl | omega | (intro h9;omega) | (rw [IntKind.wrap_i64];omega))
   simp only [Act.put,tka,tkb,tkc]
   refine tkr 4 14 (fun K hK=>?_)
   go_simp
   refine (kO _).mono ?_
   rintro e w1 ⟨rfl,rfl⟩
   go_wp2_with fail
   refine hK.out _ _ ?_ (fun hS1=>?_)
   ·exact hS0
   clear hK
   refine tkx 5 15 (.bool false) ?_ ?_
   ·(intro w' hSw;(try dsimp only at hSw);go_simp;first | done | rfl | omega | (intro h9;omega) | (rw [IntKind.wrap_i64];omega))
   simp only [Act.put,tka,tkb,tkc]
   refine tkx 6 16 (.bool false) ?_ ?_
   ·(intro w' hSw;(try dsimp only at hSw);go_simp;first | done | rfl | omega | (intro h9;omega) | (rw [IntKind.wrap_i64];omega))
   simp only [Act.put,tka,tkb,tkc]
   refine tkx 7 17 (.int .i64 ((m+1:Nat):Int)) ?_ ?_
   ·(intro w' hSw;(try dsimp only at hSw);go_simp;first | done | rfl | omega | (intro h9;omega) | (rw [IntKind.wrap_i64];omega))
   simp only [Act.put,tka,tkb,tkc]
   refine tkx 8 18 (.bool true) ?_ ?_
   ·(intro w' hSw;(try dsimp only at hSw);go_simp;first | done | rfl | omega | (intro h9;omega) | (rw [IntKind.wrap_i64];omega))
   simp only [Act.put,tka,tkb,tkc]
   refine tkx 9 19 (.bool true) ?_ ?_
   ·(intro w' hSw;(try dsimp only at hSw);go_simp;first | done | rfl | omega | (intro h9;omega) | (rw [IntKind.wrap_i64];omega))
   simp only [Act.put,tka,tkb,tkc]
   refine tkx 10 20 (.slice (some ⟨b,off,none⟩) n cap) ?_ ?_
   ·(intro w' hSw;(try dsimp only at hSw);go_simp;first | done | rfl | omega | (intro h9;omega) | (rw [IntKind.wrap_i64];omega))
   simp only [Act.put,tka,tkb,tkc]
   refine tkx 11 21 (.int .i64 ((m+1:Nat):Int)) ?_ ?_
   ·(intro w' hSw;(try dsimp only at hSw);go_simp;first | done | rfl | omega | (intro h9;omega) | (rw [IntKind.wrap_i64];omega))
   simp only [Act.put,tka,tkb,tkc]
   refine tkx 12 22 (.int .i64 (m:Int)) ?_ ?_
   ·(intro w' hSw;(try dsimp only at hSw);go_simp;first | done | rfl | omega | (intro h9;omega) | (rw [IntKind.wrap_i64];omega))
   simp only [Act.put,tka,tkb,tkc]
   refine tkx 13 23 (.pointer (some ⟨b,off+m,none⟩)) ?_ ?_
   ·(intro w' hSw;(try dsimp only at hSw);go_simp;first | done | rfl | omega | (intro h9;omega) | (rw [IntKind.wrap_i64];omega))
   simp only [Act.put,tka,tkb,tkc]
   refine tkx 14 24 (.int .i64 y) ?_ ?_
   ·(intro w' hSw;(try dsimp only at hSw);go_simp;first | done | rfl | omega | (intro h9;omega) | (rw [IntKind.wrap_i64];omega))
   simp only [Act.put,tka,tkb,tkc]
   refine tkx 15 25 (.slice (some ⟨b,off,none⟩) n cap) ?_ ?_
   ·(intro w' hSw;(try dsimp only at hSw);go_simp;first | done | rfl | omega | (intro h9;omega) | (rw [IntKind.wrap_i64];omega))
   simp only [Act.put,tka,tkb,tkc]
   refine tkx 16 26 (.int .i64 ((m+1:Nat):Int)) ?_ ?_
   ·(intro w' hSw;(try dsimp only at hSw);go_simp;first | done | rfl | omega | (intro h9;omega) | (rw [IntKind.wrap_i64];omega))
   simp only [Act.put,tka,tkb,tkc]
   refine tkx 17 27 (.pointer (some ⟨b,off+(m+1),none⟩)) ?_ ?_
   ·(intro w' hSw;(try dsimp only at hSw);go_simp;first | done | rfl | omega | (intro h9;omega) | (rw [IntKind.wrap_i64];omega))
   simp only [Act.put,tka,tkb,tkc]
   refine tkx 18 28 (.int .i64 x) ?_ ?_
   ·(intro w' hSw;(try dsimp only at hSw);go_simp;first | done | rfl | omega | (intro h9;omega) | (rw [IntKind.wrap_i64];omega))
   simp only [Act.put,tka,tkb,tkc]
   refine tkx 19 29 (.bool false) ?_ ?_
   ·(intro w' hSw;(try dsimp only at hSw);go_simp;first | done | rfl | omega | (intro h9;omega) | (rw [IntKind.wrap_i64];omega))
   simp only [Act.put,tka,tkb,tkc]
   refine tkx 20 30 (.bool false) ?_ ?_
   ·(intro w' hSw;(try dsimp only at hSw);go_simp;first | done | rfl | omega | (intro h9;omega) | (rw [IntKind.wrap_i64];omega))
   simp only [Act.put,tka,tkb,tkc]
   refine tkx 21 31 (.bool false) ?_ ?_
   ·(intro w' hSw;(try dsimp only at hSw);go_simp;first | done | rfl | omega | (intro h9;omega) | (rw [IntKind.wrap_i64];omega))
   simp only [Act.put,tka,tkb,tkc]
   refine wpAnyH_done (by kernel_rfl) ?_ _
   have bz:Below w.heap.size w wr.drew:=Zh bw (by go_grown)
   clear hS0 hS1 c0 d0 
   go_wp2
   go_roundw
   case rel=>exact ⟨m+1+1,by omega,by go_num,HK2,bz⟩
   case measure=>simp [intOf];omega
  obtain rfl:k=n:=by omega
  have HR:Hid (fin=true):=by rw [Hid,HF.out];exact Xg (fun i hi=>HK.out i (by omega))
  clear HF HK hcase
  go_wp2
  go_ret
  exact ⟨by rw [HR.out];rfl,bw⟩

end Go.Proofs.YtnffeclgboomoaaGreatDoor
