/-
  Joined: EsA.
-/
import Derived.Test.YtgmhhegckcionaaGreatDoorP29

namespace Go.Proofs.YtgmhhegckcionaaGreatDoor
set_option maxRecDepth 100000
set_option maxHeartbeats 16000000
open Go.RowKit
set_option linter.unusedVariables false
set_option linter.unusedSimpArgs false

theorem l10Rising_is (a:Option Addr) (n cap:Nat) (xs:List I3) (w:World) (h:Instrs w a n cap xs) :
  Calls Tryz.prog 104 #[.slice a n cap] w fun e w'=>e=.returned (.bool (riseB xs))∧Below w.heap.size w w':=by
 obtain ⟨hl,hlc,hcm,_,hcase⟩:=h
 unfold maxLen at hcm
 obtain ⟨fin,hfin⟩:∃ fin,fin=riseB xs:=⟨_,rfl⟩
 rw [← hfin]
 have HF:Hid (fin=riseB xs):=hfin
 clear hfin
 go_enter Tryz.func104,Tryz.ntmps104
 go_wp2_with fail
 go_loopw [3] (fun si wr=>∃ k:Nat,k≤n∧si=.int .i64 k∧Hid (∀ i,i<k→bStep xs i=true)∧Below w.heap.size w wr) (fun si _=>n - (intOf si).toNat)
 case atStart=>exact ⟨0,by omega,rfl,fun i hi=>by omega,Below.refl _ _⟩
 case round =>
  obtain ⟨k,hk,rfl,HK,bw⟩:=hrel
  by_cases hlt:k<n
  ·rcases hcase with e0 | ⟨b,off,rfl,hblt,hcell⟩
   ·omega
   obtain ⟨c0,c1,c2⟩:=hcell k hlt
   have HS:Hid (bStep xs k=(okB (xs.getD k (0,0,0)) && (decide (k=0) || ltB (xs.getD (k - 1) (0,0,0)) (xs.getD k (0,0,0))))):=rfl
   have hlt2:(k:Int)<(n:Int):=by omega
   have hk0:(0:Int)≤(k:Int):=by omega
   cases hO:okB (xs.getD k (0,0,0))
   ·have HR:Hid (fin=false):=by rw [Hid,HF.out];exact allR_false (show k<xs.length by omega) (by rw [HS.out,hO];rfl)
    clear HS HF HK hcell
    generalize xs.getD k (0,0,0)=x at *
    replace c0:=cell8 bw c0
    replace c1:=cell8 bw c1
    replace c2:=cell8 bw c2
    have kO:=fun W=>specBugOK_is x W
    unfold I3.val at kO
    rw [hO] at kO
    clear hO
    go_wp2_with fail
    refine wp_region_held_drew (S:=(fun w'=>w'.cell? ⟨b,off+k*3,none⟩=some (.int .i64 x.1)∧w'.cell? ⟨b,off+k*3+1,none⟩=some (.int .i64 x.2.1)∧w'.cell? ⟨b,off+k*3+2,none⟩=some (.int .i64 x.2.2))) (by kernel_rfl) ⟨c0,c1,c2⟩ (fun hS0=>?_)
    refine tkv 0 10 (.slice (some ⟨b,off,none⟩) n cap) ?_
    refine tkv 1 11 (.int .i64 k) ?_
    refine tkv 2 12 (.pointer (some ⟨b,off+k*3,none⟩)) ?_
    refine tkv 3 13 (.agg #[.int .i64 x.1,.int .i64 x.2.1,.int .i64 x.2.2]) ?_
    refine tkr 4 14 (fun K hK=>?_)
    go_simp
    refine (kO _).mono ?_
    rintro e w1 ⟨rfl,hb⟩
    go_wp2_with fail
    refine hK.out _ _ ?_ (fun hS1=>?_)
    ·exact ⟨cells_kept hb _ _ hS0.1,cells_kept hb _ _ hS0.2.1,cells_kept hb _ _ hS0.2.2⟩
    clear hK
    refine tkv 5 15 (.bool true) ?_
    refine tkv 6 16 (.bool true) ?_
    refine tku 7 17 ?_
    refine tku 8 18 ?_
    refine tku 9 19 ?_
    refine tku 10 20 ?_
    refine tku 11 21 ?_
    refine tku 12 22 ?_
    refine tku 13 23 ?_
    refine tku 14 24 ?_
    refine tku 15 25 ?_
    refine tku 16 26 ?_
    refine tku 17 27 ?_
    refine tku 18 28 ?_
    refine tku 19 29 ?_
    refine tku 20 30 ?_
    refine tku 21 31 ?_
    refine tkv 22 32 (.bool true) ?_
    refine wpAnyH_done (by kernel_rfl) ?_ _
    have bz:Below w.heap.size w w1:=bel8 (bel8 bw (by go_grown)) hb
    clear hS0 hS1 hb c0 c1 c2
    go_wp2
    go_ret
    exact ⟨by rw [HR.out];rfl,bz⟩
   ·by_cases hz:k=0
    ·have HK2:Hid (∀ i,i<k+1→bStep xs i=true):=fun i hi=>by
      obtain rfl:i=k:=by omega
      rw [HS.out,hO,decide_eq_true hz];rfl
     have hgt:¬ (0:Int)<(k:Int):=by omega
     clear HS HK hcell
     generalize xs.getD k (0,0,0)=x at *
     replace c0:=cell8 bw c0
     replace c1:=cell8 bw c1
     replace c2:=cell8 bw c2
     have kO:=fun W=>specBugOK_is x W
     unfold I3.val at kO
     rw [hO] at kO
     clear hO hz
     go_wp2_with fail
     refine wp_region_held_drew (S:=(fun w'=>w'.cell? ⟨b,off+k*3,none⟩=some (.int .i64 x.1)∧w'.cell? ⟨b,off+k*3+1,none⟩=some (.int .i64 x.2.1)∧w'.cell? ⟨b,off+k*3+2,none⟩=some (.int .i64 x.2.2))) (by kernel_rfl) ⟨c0,c1,c2⟩ (fun hS0=>?_)
     refine tkv 0 10 (.slice (some ⟨b,off,none⟩) n cap) ?_
     refine tkv 1 11 (.int .i64 k) ?_
     refine tkv 2 12 (.pointer (some ⟨b,off+k*3,none⟩)) ?_
     refine tkv 3 13 (.agg #[.int .i64 x.1,.int .i64 x.2.1,.int .i64 x.2.2]) ?_
     refine tkr 4 14 (fun K hK=>?_)
     go_simp
     refine (kO _).mono ?_
     rintro e w1 ⟨rfl,hb⟩
     go_wp2_with fail
     refine hK.out _ _ ?_ (fun hS1=>?_)
     ·exact ⟨cells_kept hb _ _ hS0.1,cells_kept hb _ _ hS0.2.1,cells_kept hb _ _ hS0.2.2⟩
     clear hK
     refine tkv 5 15 (.bool false) ?_
     refine tkv 6 16 (.bool false) ?_
     refine tkv 7 17 (.int .i64 k) ?_
     refine tkv 8 18 (.bool false) ?_
     refine tkv 9 19 (.bool false) ?_
     refine tku 10 20 ?_
     refine tku 11 21 ?_
     refine tku 12 22 ?_
     refine tku 13 23 ?_
     refine tku 14 24 ?_
     refine tku 15 25 ?_
     refine tku 16 26 ?_
     refine tku 17 27 ?_
     refine tku 18 28 ?_
     refine tku 19 29 ?_
     refine tku 20 30 ?_
     refine tkv 21 31 (.bool false) ?_
     refine tkv 22 32 (.bool false) ?_
     refine wpAnyH_done (by kernel_rfl) ?_ _
     have bz:Below w.heap.size w w1:=bel8 (bel8 bw (by go_grown)) hb
     clear hS0 hS1 hb c0 c1 c2
     go_wp2
     go_roundw
     case rel=>exact ⟨k+1,by omega,by go_num,HK2,bz⟩
     case measure=>simp [intOf];omega
    ·obtain ⟨m,rfl⟩:∃ m,k=m+1:=⟨k - 1,by omega⟩
     obtain ⟨d0,d1,d2⟩:=hcell m (by omega)
     have hgt:(0:Int)<((m+1:Nat):Int):=by omega
     have hsub:IntKind.i64.wrap (((m+1:Nat):Int) - 1)=(m:Int):=by rw [IntKind.wrap_i64];omega
     have hm0:(0:Int)≤(m:Int):=by omega
     have hmn:(m:Int)<(n:Int):=by omega
     rw [show m+1 - 1=m from rfl,decide_eq_false (show ¬ m+1=0 by omega),Bool.false_or] at HS
     cases hT:ltB (xs.getD (m) (0,0,0)) (xs.getD (m+1) (0,0,0))
     ·have HR:Hid (fin=false):=by rw [Hid,HF.out];exact allR_false (show m+1<xs.length by omega) (by rw [HS.out,hO,hT];rfl)
      clear HS HF HK hcell
      generalize xs.getD (m+1) (0,0,0)=x at *
      generalize xs.getD m (0,0,0)=y at *
      replace c0:=cell8 bw c0
      replace c1:=cell8 bw c1
      replace c2:=cell8 bw c2
      replace d0:=cell8 bw d0
      replace d1:=cell8 bw d1
      replace d2:=cell8 bw d2
      have kO:=fun W=>specBugOK_is x W
      unfold I3.val at kO
      rw [hO] at kO
      have kL:=fun W=>l04Less_is y x W
      unfold I3.val at kL
      rw [hT] at kL
      clear hO hT
      go_wp2_with fail
      refine wp_region_held_drew (S:=(fun w'=>w'.cell? ⟨b,off+(m+1)*3,none⟩=some (.int .i64 x.1)∧w'.cell? ⟨b,off+(m+1)*3+1,none⟩=some (.int .i64 x.2.1)∧w'.cell? ⟨b,off+(m+1)*3+2,none⟩=some (.int .i64 x.2.2)∧w'.cell? ⟨b,off+m*3,none⟩=some (.int .i64 y.1)∧w'.cell? ⟨b,off+m*3+1,none⟩=some (.int .i64 y.2.1)∧w'.cell? ⟨b,off+m*3+2,none⟩=some (.int .i64 y.2.2))) (by kernel_rfl) ⟨c0,c1,c2,d0,d1,d2⟩ (fun hS0=>?_)
      refine tkv 0 10 (.slice (some ⟨b,off,none⟩) n cap) ?_
      refine tkv 1 11 (.int .i64 ((m+1:Nat):Int)) ?_
      refine tkv 2 12 (.pointer (some ⟨b,off+(m+1)*3,none⟩)) ?_
      refine tkv 3 13 (.agg #[.int .i64 x.1,.int .i64 x.2.1,.int .i64 x.2.2]) ?_
      refine tkr 4 14 (fun K hK=>?_)
      go_simp
      refine (kO _).mono ?_
      rintro e w1 ⟨rfl,hb⟩
      go_wp2_with fail
      refine hK.out _ _ ?_ (fun hS1=>?_)
      ·exact ⟨cells_kept hb _ _ hS0.1,cells_kept hb _ _ hS0.2.1,cells_kept hb _ _ hS0.2.2.1,cells_kept hb _ _ hS0.2.2.2.1,cells_kept hb _ _ hS0.2.2.2.2.1,cells_kept hb _ _ hS0.2.2.2.2.2⟩
      clear hK
      refine tkv 5 15 (.bool false) ?_
      refine tkv 6 16 (.bool false) ?_
      refine tkv 7 17 (.int .i64 ((m+1:Nat):Int)) ?_
      refine tkv 8 18 (.bool true) ?_
      refine tkv 9 19 (.bool true) ?_
      refine tkv 10 20 (.slice (some ⟨b,off,none⟩) n cap) ?_
      refine tkv 11 21 (.int .i64 ((m+1:Nat):Int)) ?_
      refine tkv 12 22 (.int .i64 (m:Int)) ?_
      refine tkv 13 23 (.pointer (some ⟨b,off+m*3,none⟩)) ?_
      refine tkv 14 24 (.agg #[.int .i64 y.1,.int .i64 y.2.1,.int .i64 y.2.2]) ?_
      refine tkv 15 25 (.slice (some ⟨b,off,none⟩) n cap) ?_
      refine tkv 16 26 (.int .i64 ((m+1:Nat):Int)) ?_
      refine tkv 17 27 (.pointer (some ⟨b,off+(m+1)*3,none⟩)) ?_
      refine tkv 18 28 (.agg #[.int .i64 x.1,.int .i64 x.2.1,.int .i64 x.2.2]) ?_
      refine tkr 19 29 (fun K hK=>?_)
      go_simp
      refine (kL _).mono ?_
      rintro e w2 ⟨rfl,hb2⟩
      go_wp2_with fail
      refine hK.out _ _ ?_ (fun hS2=>?_)
      ·exact ⟨cells_kept hb2 _ _ hS1.1,cells_kept hb2 _ _ hS1.2.1,cells_kept hb2 _ _ hS1.2.2.1,cells_kept hb2 _ _ hS1.2.2.2.1,cells_kept hb2 _ _ hS1.2.2.2.2.1,cells_kept hb2 _ _ hS1.2.2.2.2.2⟩
      clear hK
      refine tkv 20 30 (.bool true) ?_
      refine tkv 21 31 (.bool true) ?_
      refine tkv 22 32 (.bool true) ?_
      refine wpAnyH_done (by kernel_rfl) ?_ _
      have bz:Below w.heap.size w w2:=bel8 (bel8 (bel8 bw (by go_grown)) hb) hb2
      clear hS0 hS1 hb c0 c1 c2 d0 d1 d2 hb2 hS2
      go_wp2
      go_ret
      exact ⟨by rw [HR.out];rfl,bz⟩
     ·have HK2:Hid (∀ i,i<m+1+1→bStep xs i=true):=fun i hi=>by
       by_cases e:i=m+1
       ·rw [e,HS.out,hO,hT];rfl
       ·exact HK.out i (by omega)
      clear HS HK hcell
      generalize xs.getD (m+1) (0,0,0)=x at *
      generalize xs.getD m (0,0,0)=y at *
      replace c0:=cell8 bw c0
      replace c1:=cell8 bw c1
      replace c2:=cell8 bw c2
      replace d0:=cell8 bw d0
      replace d1:=cell8 bw d1
      replace d2:=cell8 bw d2
      have kO:=fun W=>specBugOK_is x W
      unfold I3.val at kO
      rw [hO] at kO
      have kL:=fun W=>l04Less_is y x W
      unfold I3.val at kL
      rw [hT] at kL
      clear hO hT
      go_wp2_with fail
      refine wp_region_held_drew (S:=(fun w'=>w'.cell? ⟨b,off+(m+1)*3,none⟩=some (.int .i64 x.1)∧w'.cell? ⟨b,off+(m+1)*3+1,none⟩=some (.int .i64 x.2.1)∧w'.cell? ⟨b,off+(m+1)*3+2,none⟩=some (.int .i64 x.2.2)∧w'.cell? ⟨b,off+m*3,none⟩=some (.int .i64 y.1)∧w'.cell? ⟨b,off+m*3+1,none⟩=some (.int .i64 y.2.1)∧w'.cell? ⟨b,off+m*3+2,none⟩=some (.int .i64 y.2.2))) (by kernel_rfl) ⟨c0,c1,c2,d0,d1,d2⟩ (fun hS0=>?_)
      refine tkv 0 10 (.slice (some ⟨b,off,none⟩) n cap) ?_
      refine tkv 1 11 (.int .i64 ((m+1:Nat):Int)) ?_
      refine tkv 2 12 (.pointer (some ⟨b,off+(m+1)*3,none⟩)) ?_
      refine tkv 3 13 (.agg #[.int .i64 x.1,.int .i64 x.2.1,.int .i64 x.2.2]) ?_
      refine tkr 4 14 (fun K hK=>?_)
      go_simp
      refine (kO _).mono ?_
      rintro e w1 ⟨rfl,hb⟩
      go_wp2_with fail
      refine hK.out _ _ ?_ (fun hS1=>?_)
      ·exact ⟨cells_kept hb _ _ hS0.1,cells_kept hb _ _ hS0.2.1,cells_kept hb _ _ hS0.2.2.1,cells_kept hb _ _ hS0.2.2.2.1,cells_kept hb _ _ hS0.2.2.2.2.1,cells_kept hb _ _ hS0.2.2.2.2.2⟩
      clear hK
      refine tkv 5 15 (.bool false) ?_
      refine tkv 6 16 (.bool false) ?_
      refine tkv 7 17 (.int .i64 ((m+1:Nat):Int)) ?_
      refine tkv 8 18 (.bool true) ?_
      refine tkv 9 19 (.bool true) ?_
      refine tkv 10 20 (.slice (some ⟨b,off,none⟩) n cap) ?_
      refine tkv 11 21 (.int .i64 ((m+1:Nat):Int)) ?_
      refine tkv 12 22 (.int .i64 (m:Int)) ?_
      refine tkv 13 23 (.pointer (some ⟨b,off+m*3,none⟩)) ?_
      refine tkv 14 24 (.agg #[.int .i64 y.1,.int .i64 y.2.1,.int .i64 y.2.2]) ?_
      refine tkv 15 25 (.slice (some ⟨b,off,none⟩) n cap) ?_
      refine tkv 16 26 (.int .i64 ((m+1:Nat):Int)) ?_
      refine tkv 17 27 (.pointer (some ⟨b,off+(m+1)*3,none⟩)) ?_
      refine tkv 18 28 (.agg #[.int .i64 x.1,.int .i64 x.2.1,.int .i64 x.2.2]) ?_
      refine tkr 19 29 (fun K hK=>?_)
      go_simp
      refine (kL _).mono ?_
      rintro e w2 ⟨rfl,hb2⟩
      go_wp2_with fail
      refine hK.out _ _ ?_ (fun hS2=>?_)
      ·exact ⟨cells_kept hb2 _ _ hS1.1,cells_kept hb2 _ _ hS1.2.1,cells_kept hb2 _ _ hS1.2.2.1,cells_kept hb2 _ _ hS1.2.2.2.1,cells_kept hb2 _ _ hS1.2.2.2.2.1,cells_kept hb2 _ _ hS1.2.2.2.2.2⟩
      clear hK
      refine tkv 20 30 (.bool false) ?_
      refine tkv 21 31 (.bool false) ?_
      refine tkv 22 32 (.bool false) ?_
      refine wpAnyH_done (by kernel_rfl) ?_ _
      have bz:Below w.heap.size w w2:=bel8 (bel8 (bel8 bw (by go_grown)) hb) hb2
      clear hS0 hS1 hb c0 c1 c2 d0 d1 d2 hb2 hS2
      go_wp2
      go_roundw
      case rel=>exact ⟨m+1+1,by omega,by go_num,HK2,bz⟩
      case measure=>simp [intOf];omega
  ·obtain rfl:k=n:=by omega
   have HR:Hid (fin=true):=by rw [Hid,HF.out];exact allR_true (fun i hi=>HK.out i (by omega))
   clear HF HK hcase
   go_wp2
   go_ret
   exact ⟨by rw [HR.out];rfl,bw⟩

theorem l10Items_is (a:Option Addr) (n cap:Nat) (xs:List Int) (w:World) (h:Ints .i64 w a n cap xs) (hw:wfs xs) :
  Calls Tryz.prog 105 #[.slice a n cap] w fun e w'=>e=.returned (.bool (riseI xs))∧Below w.heap.size w w':=by
 obtain ⟨hl,hlc,hcm,hcase⟩:=h
 unfold maxLen at hcm
 obtain ⟨fin,hfin⟩:∃ fin,fin=riseI xs:=⟨_,rfl⟩
 rw [← hfin]
 have HF:Hid (fin=riseI xs):=hfin
 clear hfin
 go_enter Tryz.func105,Tryz.ntmps105
 go_wp2_with fail
 go_loopw [3] (fun si wr=>∃ k:Nat,k≤n∧si=.int .i64 k∧Hid (∀ i,i<k→iStep xs i=true)∧Below w.heap.size w wr) (fun si _=>n - (intOf si).toNat)
 case atStart=>exact ⟨0,by omega,rfl,fun i hi=>by omega,Below.refl _ _⟩
 case round =>
  obtain ⟨k,hk,rfl,HK,bw⟩:=hrel
  by_cases hlt:k<n
  ·rcases hcase with e0 | ⟨b,off,rfl,hblt,hcell⟩
   ·omega
   have c0:=hcell k hlt
   have hxw:=hw (xs.getD k 0) (by simp [List.getD,List.getElem?_eq_getElem (show k<xs.length by omega)])
   have HS:Hid (iStep xs k=(itOk (xs.getD k 0) && (decide (k=0) || decide (xs.getD (k - 1) 0<xs.getD k 0)))):=rfl
   have hlt2:(k:Int)<(n:Int):=by omega
   have hk0:(0:Int)≤(k:Int):=by omega
   cases hO:itOk (xs.getD k 0)
   ·have HR:Hid (fin=false):=by rw [Hid,HF.out];exact allR_false (show k<xs.length by omega) (by rw [HS.out,hO];rfl)
    clear HS HF HK hcell
    generalize xs.getD k 0=x at *
    replace c0:=cell8 bw c0
    have kO:=fun W=>l08OK_is x (in_wf8 hxw) W
    rw [hO] at kO
    clear hO
    go_wp2_with fail
    refine wp_region_held_drew (S:=(fun w'=>w'.cell? ⟨b,off+k,none⟩=some (.int .i64 x))) (by kernel_rfl) c0 (fun hS0=>?_)
    refine tkv 0 10 (.slice (some ⟨b,off,none⟩) n cap) ?_
    refine tkv 1 11 (.int .i64 k) ?_
    refine tkv 2 12 (.pointer (some ⟨b,off+k,none⟩)) ?_
    refine tkv 3 13 (.int .i64 x) ?_
    refine tkr 4 14 (fun K hK=>?_)
    go_simp
    refine (kO _).mono ?_
    rintro e w1 ⟨rfl,rfl⟩
    go_wp2_with fail
    refine hK.out _ _ ?_ (fun hS1=>?_)
    ·exact hS0
    clear hK
    refine tkv 5 15 (.bool true) ?_
    refine tkv 6 16 (.bool true) ?_
    refine tku 7 17 ?_
    refine tku 8 18 ?_
    refine tku 9 19 ?_
    refine tku 10 20 ?_
    refine tku 11 21 ?_
    refine tku 12 22 ?_
    refine tku 13 23 ?_
    refine tku 14 24 ?_
    refine tku 15 25 ?_
    refine tku 16 26 ?_
    refine tku 17 27 ?_
    refine tku 18 28 ?_
    refine tku 19 29 ?_
    refine tku 20 30 ?_
    refine tkv 21 31 (.bool true) ?_
    refine wpAnyH_done (by kernel_rfl) ?_ _
    have bz:Below w.heap.size w wr.drew:=bel8 bw (by go_grown)
    clear hS0 hS1 c0
    go_wp2
    go_ret
    exact ⟨by rw [HR.out];rfl,bz⟩
   ·by_cases hz:k=0
    ·have HK2:Hid (∀ i,i<k+1→iStep xs i=true):=fun i hi=>by
      obtain rfl:i=k:=by omega
      rw [HS.out,hO,decide_eq_true hz];rfl
     have hgt:¬ (0:Int)<(k:Int):=by omega
     clear HS HK hcell
     generalize xs.getD k 0=x at *
     replace c0:=cell8 bw c0
     have kO:=fun W=>l08OK_is x (in_wf8 hxw) W
     rw [hO] at kO
     clear hO hz
     go_wp2_with fail
     refine wp_region_held_drew (S:=(fun w'=>w'.cell? ⟨b,off+k,none⟩=some (.int .i64 x))) (by kernel_rfl) c0 (fun hS0=>?_)
     refine tkv 0 10 (.slice (some ⟨b,off,none⟩) n cap) ?_
     refine tkv 1 11 (.int .i64 k) ?_
     refine tkv 2 12 (.pointer (some ⟨b,off+k,none⟩)) ?_
     refine tkv 3 13 (.int .i64 x) ?_
     refine tkr 4 14 (fun K hK=>?_)
     go_simp
     refine (kO _).mono ?_
     rintro e w1 ⟨rfl,rfl⟩
     go_wp2_with fail
     refine hK.out _ _ ?_ (fun hS1=>?_)
     ·exact hS0
     clear hK
     refine tkv 5 15 (.bool false) ?_
     refine tkv 6 16 (.bool false) ?_
     refine tkv 7 17 (.int .i64 k) ?_
     refine tkv 8 18 (.bool false) ?_
     refine tkv 9 19 (.bool false) ?_
     refine tku 10 20 ?_
     refine tku 11 21 ?_
     refine tku 12 22 ?_
     refine tku 13 23 ?_
     refine tku 14 24 ?_
     refine tku 15 25 ?_
     refine tku 16 26 ?_
     refine tku 17 27 ?_
     refine tku 18 28 ?_
     refine tku 19 29 ?_
     refine tkv 20 30 (.bool false) ?_
     refine tkv 21 31 (.bool false) ?_
     refine wpAnyH_done (by kernel_rfl) ?_ _
     have bz:Below w.heap.size w wr.drew:=bel8 bw (by go_grown)
     clear hS0 hS1 c0
     go_wp2
     go_roundw
     case rel=>exact ⟨k+1,by omega,by go_num,HK2,bz⟩
     case measure=>simp [intOf];omega
    ·obtain ⟨m,rfl⟩:∃ m,k=m+1:=⟨k - 1,by omega⟩
     have d0:=hcell m (by omega)
     have hgt:(0:Int)<((m+1:Nat):Int):=by omega
     have hsub:IntKind.i64.wrap (((m+1:Nat):Int) - 1)=(m:Int):=by rw [IntKind.wrap_i64];omega
     have hm0:(0:Int)≤(m:Int):=by omega
     have hmn:(m:Int)<(n:Int):=by omega
     rw [show m+1 - 1=m from rfl,decide_eq_false (show ¬ m+1=0 by omega),Bool.false_or] at HS
     cases hT:decide (xs.getD (m) 0<xs.getD (m+1) 0)
     ·have HR:Hid (fin=false):=by rw [Hid,HF.out];exact allR_false (show m+1<xs.length by omega) (by rw [HS.out,hO,hT];rfl)
      clear HS HF HK hcell
      generalize xs.getD (m+1) 0=x at *
      generalize xs.getD m 0=y at *
      replace c0:=cell8 bw c0
      replace d0:=cell8 bw d0
      have kO:=fun W=>l08OK_is x (in_wf8 hxw) W
      rw [hO] at kO
      have hge:y ≥ x:=by simpa using hT
      skip
      skip
      clear hO hT
      go_wp2_with fail
      refine wp_region_held_drew (S:=(fun w'=>w'.cell? ⟨b,off+(m+1),none⟩=some (.int .i64 x)∧w'.cell? ⟨b,off+m,none⟩=some (.int .i64 y))) (by kernel_rfl) ⟨c0,d0⟩ (fun hS0=>?_)
      refine tkv 0 10 (.slice (some ⟨b,off,none⟩) n cap) ?_
      refine tkv 1 11 (.int .i64 ((m+1:Nat):Int)) ?_
      refine tkv 2 12 (.pointer (some ⟨b,off+(m+1),none⟩)) ?_
      refine tkv 3 13 (.int .i64 x) ?_
      refine tkr 4 14 (fun K hK=>?_)
      go_simp
      refine (kO _).mono ?_
      rintro e w1 ⟨rfl,rfl⟩
      go_wp2_with fail
      refine hK.out _ _ ?_ (fun hS1=>?_)
      ·exact hS0
      clear hK
      refine tkv 5 15 (.bool false) ?_
      refine tkv 6 16 (.bool false) ?_
      refine tkv 7 17 (.int .i64 ((m+1:Nat):Int)) ?_
      refine tkv 8 18 (.bool true) ?_
      refine tkv 9 19 (.bool true) ?_
      refine tkv 10 20 (.slice (some ⟨b,off,none⟩) n cap) ?_
      refine tkv 11 21 (.int .i64 ((m+1:Nat):Int)) ?_
      refine tkv 12 22 (.int .i64 (m:Int)) ?_
      refine tkv 13 23 (.pointer (some ⟨b,off+m,none⟩)) ?_
      refine tkv 14 24 (.int .i64 y) ?_
      refine tkv 15 25 (.slice (some ⟨b,off,none⟩) n cap) ?_
      refine tkv 16 26 (.int .i64 ((m+1:Nat):Int)) ?_
      refine tkv 17 27 (.pointer (some ⟨b,off+(m+1),none⟩)) ?_
      refine tkv 18 28 (.int .i64 x) ?_
      refine tkv 19 29 (.bool true) ?_
      refine tkv 20 30 (.bool true) ?_
      refine tkv 21 31 (.bool true) ?_
      refine wpAnyH_done (by kernel_rfl) ?_ _
      have bz:Below w.heap.size w wr.drew:=bel8 bw (by go_grown)
      clear hS0 hS1 c0 d0 
      go_wp2
      go_ret
      exact ⟨by rw [HR.out];rfl,bz⟩
     ·have HK2:Hid (∀ i,i<m+1+1→iStep xs i=true):=fun i hi=>by
       by_cases e:i=m+1
       ·rw [e,HS.out,hO,hT];rfl
       ·exact HK.out i (by omega)
      clear HS HK hcell
      generalize xs.getD (m+1) 0=x at *
      generalize xs.getD m 0=y at *
      replace c0:=cell8 bw c0
      replace d0:=cell8 bw d0
      have kO:=fun W=>l08OK_is x (in_wf8 hxw) W
      rw [hO] at kO
      have hge:¬ y ≥ x:=by simpa using hT
      skip
      skip
      clear hO hT
      go_wp2_with fail
      refine wp_region_held_drew (S:=(fun w'=>w'.cell? ⟨b,off+(m+1),none⟩=some (.int .i64 x)∧w'.cell? ⟨b,off+m,none⟩=some (.int .i64 y))) (by kernel_rfl) ⟨c0,d0⟩ (fun hS0=>?_)
      refine tkv 0 10 (.slice (some ⟨b,off,none⟩) n cap) ?_
      refine tkv 1 11 (.int .i64 ((m+1:Nat):Int)) ?_
      refine tkv 2 12 (.pointer (some ⟨b,off+(m+1),none⟩)) ?_
      refine tkv 3 13 (.int .i64 x) ?_
      refine tkr 4 14 (fun K hK=>?_)
      go_simp
      refine (kO _).mono ?_
      rintro e w1 ⟨rfl,rfl⟩
      go_wp2_with fail
      refine hK.out _ _ ?_ (fun hS1=>?_)
      ·exact hS0
      clear hK
      refine tkv 5 15 (.bool false) ?_
      refine tkv 6 16 (.bool false) ?_
      refine tkv 7 17 (.int .i64 ((m+1:Nat):Int)) ?_
      refine tkv 8 18 (.bool true) ?_
      refine tkv 9 19 (.bool true) ?_
      refine tkv 10 20 (.slice (some ⟨b,off,none⟩) n cap) ?_
      refine tkv 11 21 (.int .i64 ((m+1:Nat):Int)) ?_
      refine tkv 12 22 (.int .i64 (m:Int)) ?_
      refine tkv 13 23 (.pointer (some ⟨b,off+m,none⟩)) ?_
      refine tkv 14 24 (.int .i64 y) ?_
      refine tkv 15 25 (.slice (some ⟨b,off,none⟩) n cap) ?_
      refine tkv 16 26 (.int .i64 ((m+1:Nat):Int)) ?_
      refine tkv 17 27 (.pointer (some ⟨b,off+(m+1),none⟩)) ?_
      refine tkv 18 28 (.int .i64 x) ?_
      refine tkv 19 29 (.bool false) ?_
      refine tkv 20 30 (.bool false) ?_
      refine tkv 21 31 (.bool false) ?_
      refine wpAnyH_done (by kernel_rfl) ?_ _
      have bz:Below w.heap.size w wr.drew:=bel8 bw (by go_grown)
      clear hS0 hS1 c0 d0 
      go_wp2
      go_roundw
      case rel=>exact ⟨m+1+1,by omega,by go_num,HK2,bz⟩
      case measure=>simp [intOf];omega
  ·obtain rfl:k=n:=by omega
   have HR:Hid (fin=true):=by rw [Hid,HF.out];exact allR_true (fun i hi=>HK.out i (by omega))
   clear HF HK hcase
   go_wp2
   go_ret
   exact ⟨by rw [HR.out];rfl,bw⟩

end Go.Proofs.YtgmhhegckcionaaGreatDoor
