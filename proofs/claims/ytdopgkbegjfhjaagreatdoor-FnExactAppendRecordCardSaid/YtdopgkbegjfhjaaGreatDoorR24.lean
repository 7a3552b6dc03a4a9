/-
  Joined: BonI, MrgA, EsA.
-/
import Derived.Test.YtdopgkbegjfhjaaGreatDoorR22
import Derived.Test.YtdopgkbegjfhjaaGreatDoorR23

namespace Go.Proofs.YtdopgkbegjfhjaaGreatDoor
set_option maxRecDepth 100000
set_option maxHeartbeats 16000000
open Go.RowKit
set_option linter.unusedVariables false
set_option linter.unusedSimpArgs false

def slLen:Value→Nat
 | .slice _ n _=>n
 | _=>0
def RowB (e:Ending) (w':World) (B:Nat) (xs:List I3):Prop:=∃ v,e=.returned v∧w'.ownsRow B 112 3 v xs.length (flat xs)
theorem RowB.mk9 {w':World} {B:Nat} {v:Value} {xs:List I3} (h:w'.ownsRow B 112 3 v xs.length (flat xs)):RowB (.returned v) w' B xs:=⟨v,rfl,h⟩
theorem info_bug9:∃ i,Tryz.prog.info? 112=some i∧i.zero=some (.agg #[.int .i64 0,.int .i64 0,.int .i64 0])∧i.size=3∧i.bytes=24:=info_parts (show (Tryz.prog.info? 112).map (fun i=>(i.zero,i.size,i.bytes))=some (some (.agg #[.int .i64 0,.int .i64 0,.int .i64 0]),3,24) by kernel_rfl)

theorem bugsOf_is (a:Option Addr) (n c:Nat) (ys:List Int) (m:Nat) (w:World) (h:Ints .i64 w a n c ys) (hn:n=3*m) (hm:m≤2000) :
  Calls Tryz.prog 105 #[.slice a n c] w fun e w'=>RowB e w' w.heap.size (triples ys)∧Below w.heap.size w w':=by
 obtain ⟨i0,hi,hz0,hz1,hz2⟩:=info_bug9
 have htl:(triples ys).length=m:=triples_length m ys (by rw [h.1,hn])
 have hyl:ys.length=3*m:=by rw [h.1,hn]
 have HG:Hid (∀ i,i<m→(triples ys).getD i (0,0,0)=(ys.getD (3*i) 0,ys.getD (3*i+1) 0,ys.getD (3*i+2) 0)):=fun i hi=>triples_get m ys i hyl hi
 go_enter Tryz.func105,Tryz.ntmps105
 go_wp2
 go_loopw [0,3] (fun s0 sv wr=>∃ (k ln:Nat) (a':Option Addr) (c':Nat),k≤m∧ln≤3*(m - k)∧3*(m - k)≤ln∧s0=.slice a' ln c'∧Ints .i64 w a' ln c' (ys.drop (3*k))∧wr.ownsRow w.heap.size 112 3 sv k (flat ((triples ys).take k))∧Below w.heap.size w wr) (fun s0 _ _=>slLen s0)
 case atStart=>exact ⟨0,n,a,c,by omega,by omega,by omega,rfl,by simpa using h,by simpa [flat] using World.ownsRow_nil _ _ _ _,Below.refl _ _⟩
 case round =>
  obtain ⟨k,ln,a',c',hk,hl1,hl2,rfl,hI,hr,hb⟩:=hrel
  by_cases hlt:k<m
  ·have hI0:=hI
   obtain ⟨e1,e2,e3,hcase⟩:=hI
   rcases hcase with h0 | ⟨b,off,rfl,hbl,hc⟩
   ·omega
   have d0:=hc 0 (by omega)
   have d1:=hc 1 (by omega)
   have d2:=hc 2 (by omega)
   rw [← hb.cell (p:=⟨b,_,none⟩) hbl] at d0 d1 d2
   obtain ⟨a2,hsl,hI2⟩:=slice_l hI0 (lo:=3) (by omega)
   have hgt:=HG.out k hlt
   have t0:(ys.drop (3*k)).getD 0 0=((triples ys).getD k (0,0,0)).1:=by rw [hgt];simp [List.getD]
   have t1:(ys.drop (3*k)).getD 1 0=((triples ys).getD k (0,0,0)).2.1:=by rw [hgt];simp [List.getD]
   have t2:(ys.drop (3*k)).getD 2 0=((triples ys).getD k (0,0,0)).2.2:=by rw [hgt];simp [List.getD]
   rw [t0] at d0
   rw [t1] at d1
   rw [t2] at d2
   have hst:Hid (flat ((triples ys).take (k+1))=flat ((triples ys).take k)++((triples ys).getD k (0,0,0)).cells):=flat_take_succ (by omega)
   have hI3:Ints .i64 w a2 (ln - 3) (c' - 3) (ys.drop (3*(k+1))):=by
    have:(ys.drop (3*k)).drop 3=ys.drop (3*(k+1)):=by rw [List.drop_drop];congr 1
    rw [← this];exact hI2
   have hsl3:∀ W,(Instr.slice 40 (.slice (some ⟨b,off,none⟩) ln c') (some (.int .i64 3)) none none).run Tryz.prog W=.ok (.slice a2 (ln - 3) (c' - 3)) W:=fun W=>hsl W
   clear hgt t0 t1 t2 hc hI0 hI2 hsl
   rw [Nat.add_zero] at d0
   generalize (triples ys).getD k (0,0,0)=x at d0 d1 d2 hst
   have hge:(3:Int)≤(ln:Int):=by omega
   have hp0:(0:Int)<(ln:Int):=by omega
   have hp1:(1:Int)<(ln:Int):=by omega
   have hp2:(2:Int)<(ln:Int):=by omega
   have hq0:0<ln:=by omega
   have hq1:1<ln:=by omega
   have hq2:2<ln:=by omega
   have hm1:k+1≤maxLen:=by unfold maxLen;omega
   have hm2:(k+1)*24≤140737488355328:=by omega
   have hm3:w.heap.size≤(wr.alloc (.cells #[.int .i64 x.1,.int .i64 x.2.1,.int .i64 x.2.2] 112)).drew.heap.size:=by have:=hb.size;simp;omega
   have hbis:=hb.size
   go_wp2_with fail
   go_region_held3 (fun w'=>w'.cell? ⟨b,off,none⟩=some (.int .i64 x.1)∧w'.cell? ⟨b,off+1,none⟩=some (.int .i64 x.2.1)∧w'.cell? ⟨b,off+2,none⟩=some (.int .i64 x.2.2)) (first | (exact ⟨d0,d1,d2⟩) | (exact ⟨q1,q2,q3⟩) | go_keep)
    (first | (refine step_append_mine rfl _ _ 72 rfl w.heap.size 112 i0 (.agg #[.int .i64 0,.int .i64 0,.int .i64 0]) 3 24 Tryz.underlying72 hi hz0 hz1 hz2 rfl (by decide) _ k (flat ((triples ys).take k)) rfl (own_dr (hr.alloc _)) ⟨wr.heap.size,0,none⟩ 1 1 [.int .i64 x.1,.int .i64 x.2.1,.int .i64 x.2.2] rfl rfl (three_dr wr _ _ _ _) (three_i64 _ _ _) hm1 hm2 hm3 ?_;intro v3 w3 hown3 hgrow3;have hB3:=below_app3 hbis hr hgrow3;have q1:=cells_lo3 hB3 hbl d0;have q2:=cells_lo3 hB3 hbl d1;have q3:=cells_lo3 hB3 hbl d2))
   have hr3:w3.ownsRow w.heap.size 112 3 v3 (k+1) (flat ((triples ys).take (k+1))):=by rw [hst.out];exact hown3
   have hb3:Below w.heap.size w w3:=hb.trans hB3
   clear hown3 hgrow3 hB3 q1 q2 q3 d0 d1 d2 hr hb hm1 hm2 hm3 hbis hst
   go_wp2
   go_roundw
   case rel=>exact ⟨k+1,ln - 3,a2,c' - 3,by omega,by omega,by omega,rfl,hI3,hr3,hb3⟩
   case measure=>simp [slLen];omega
  ·obtain rfl:k=m:=by omega
   have hge:¬ (3:Int)≤(ln:Int):=by omega
   rw [show (triples ys).take k=triples ys by rw [← htl,List.take_length]] at hr
   rw [← htl] at hr
   go_wp2
   go_ret
   exact ⟨RowB.mk9 hr,hb⟩


theorem l04Less_is (x y:I3) (w:World):Calls Tryz.prog 112 #[x.val,y.val] w fun e w'=>e=.returned (.bool (ltB x y))∧Below w.heap.size w w':=by
 obtain ⟨a0,a1,a2⟩:=x
 obtain ⟨b0,b1,b2⟩:=y
 unfold I3.val
 by_cases h0:a0=b0
 ·subst h0
  by_cases h1:a1=b1
  ·subst h1
   have e:ltB (a0,a1,a2) (a0,a1,b2)=decide (a2<b2):=by simp [ltB]
   rw [e]
   clear e
   go_enter Tryz.func112,Tryz.ntmps112
   go_wp2
   go_ret
   exact ⟨rfl,by go_grown⟩
  ·have e:ltB (a0,a1,a2) (a0,b1,b2)=decide (a1<b1):=by simp [ltB,h1]
   rw [e]
   clear e
   go_enter Tryz.func112,Tryz.ntmps112
   go_wp2
   go_ret
   exact ⟨rfl,by go_grown⟩
 ·have e:ltB (a0,a1,a2) (b0,b1,b2)=decide (a0<b0):=by simp [ltB,h0]
  rw [e]
  clear e
  go_enter Tryz.func112,Tryz.ntmps112
  go_wp2
  go_ret
  exact ⟨rfl,by go_grown⟩


theorem l10Rising_is (a:Option Addr) (n cap:Nat) (xs:List I3) (w:World) (h:Instrs w a n cap xs) :
  Calls Tryz.prog 80 #[.slice a n cap] w fun e w'=>e=.returned (.bool (riseB xs))∧Below w.heap.size w w':=by
 obtain ⟨hl,hlc,hcm,_,hcase⟩:=h
 unfold maxLen at hcm
 obtain ⟨fin,hfin⟩:∃ fin,fin=riseB xs:=⟨_,rfl⟩
 rw [← hfin]
 have HF:Hid (fin=riseB xs):=hfin
 clear hfin
 go_enter Tryz.func80,Tryz.ntmps80
 go_wp2_with fail
 go_loopw [3] (fun si wr=>∃ k:Nat,k≤n∧si=.int .i64 k∧Hid (∀ i,i<k→bStep xs i=true)∧Below w.heap.size w wr) (fun si _=>n - (intOf si).toNat)
 case atStart=>exact ⟨0,by omega,rfl,fun i hi=>by omega,Below.refl _ _⟩
 case round =>
  obtain ⟨k,hk,rfl,HK,bw⟩:=hrel
  by_cases hlt:k<n
  ·rcases hcase with e0 | ⟨b,off,rfl,hblt,hcell⟩
   ·omega
   obtain ⟨c0,c1,c2⟩:=hcell k hlt
   have HS:Hid (bStep xs k=(okB (xs.getD k (0,0,0)) && (decide (k=0) || ltB (xs.getD (k - 1) (0,0,0)) (xs.getD k (0,0,0))))):=rfl
   have hlt2:(k:Int)<(n:Int):=by omega
   have hk0:(0:Int)≤(k:Int):=by omega
   cases hO:okB (xs.getD k (0,0,0))
   ·have HR:Hid (fin=false):=by rw [Hid,HF.out];exact allR_false (show k<xs.length by omega) (by rw [HS.out,hO];rfl)
    clear HS HF HK hcell
    generalize xs.getD k (0,0,0)=x at *
    replace c0:=cell8 bw c0
    replace c1:=cell8 bw c1
    replace c2:=cell8 bw c2
    have kO:=fun W=>specBugOK_is x W
    unfold I3.val at kO
    rw [hO] at kO
    clear hO
    go_wp2_with fail
    refine wp_region_held_drew (S:=(fun w'=>w'.cell? ⟨b,off+k*3,none⟩=some (.int .i64 x.1)∧w'.cell? ⟨b,off+k*3+1,none⟩=some (.int .i64 x.2.1)∧w'.cell? ⟨b,off+k*3+2,none⟩=some (.int .i64 x.2.2))) (by kernel_rfl) ⟨c0,c1,c2⟩ (fun hS0=>?_)
    refine tkv 0 10 (.slice (some ⟨b,off,none⟩) n cap) ?_
    refine tkv 1 11 (.int .i64 k) ?_
    refine tkv 2 12 (.pointer (some ⟨b,off+k*3,none⟩)) ?_
    refine tkv 3 13 (.agg #[.int .i64 x.1,.int .i64 x.2.1,.int .i64 x.2.2]) ?_
    refine tkr 4 14 (fun K hK=>?_)
    go_simp
    refine (kO _).mono ?_
    rintro e w1 ⟨rfl,hb⟩
    go_wp2_with fail
    refine hK.out _ _ ?_ (fun hS1=>?_)
    ·exact ⟨cells_kept hb _ _ hS0.1,cells_kept hb _ _ hS0.2.1,cells_kept hb _ _ hS0.2.2⟩
    clear hK
    refine tkv 5 15 (.bool true) ?_
    refine tkv 6 16 (.bool true) ?_
    refine tku 7 17 ?_
    refine tku 8 18 ?_
    refine tku 9 19 ?_
    refine tku 10 20 ?_
    refine tku 11 21 ?_
    refine tku 12 22 ?_
    refine tku 13 23 ?_
    refine tku 14 24 ?_
    refine tku 15 25 ?_
    refine tku 16 26 ?_
    refine tku 17 27 ?_
    refine tku 18 28 ?_
    refine tku 19 29 ?_
    refine tku 20 30 ?_
    refine tku 21 31 ?_
    refine tkv 22 32 (.bool true) ?_
    refine wpAnyH_done (by kernel_rfl) ?_ _
    have bz:Below w.heap.size w w1:=bel8 (bel8 bw (by go_grown)) hb
    clear hS0 hS1 hb c0 c1 c2
    go_wp2
    go_ret
    exact ⟨by rw [HR.out];rfl,bz⟩
   ·by_cases hz:k=0
    ·have HK2:Hid (∀ i,i<k+1→bStep xs i=true):=fun i hi=>by
      obtain rfl:i=k:=by omega
      rw [HS.out,hO,decide_eq_true hz];rfl
     have hgt:¬ (0:Int)<(k:Int):=by omega
     clear HS HK hcell
     generalize xs.getD k (0,0,0)=x at *
     replace c0:=cell8 bw c0
     replace c1:=cell8 bw c1
     replace c2:=cell8 bw c2
     have kO:=fun W=>specBugOK_is x W
     unfold I3.val at kO
     rw [hO] at kO
     clear hO hz
     go_wp2_with fail
     refine wp_region_held_drew (S:=(fun w'=>w'.cell? ⟨b,off+k*3,none⟩=some (.int .i64 x.1)∧w'.cell? ⟨b,off+k*3+1,none⟩=some (.int .i64 x.2.1)∧w'.cell? ⟨b,off+k*3+2,none⟩=some (.int .i64 x.2.2))) (by kernel_rfl) ⟨c0,c1,c2⟩ (fun hS0=>?_)
     refine tkv 0 10 (.slice (some ⟨b,off,none⟩) n cap) ?_
     refine tkv 1 11 (.int .i64 k) ?_
     refine tkv 2 12 (.pointer (some ⟨b,off+k*3,none⟩)) ?_
     refine tkv 3 13 (.agg #[.int .i64 x.1,.int .i64 x.2.1,.int .i64 x.2.2]) ?_
     refine tkr 4 14 (fun K hK=>?_)
     go_simp
     refine (kO _).mono ?_
     rintro e w1 ⟨rfl,hb⟩
     go_wp2_with fail
     refine hK.out _ _ ?_ (fun hS1=>?_)
     ·exact ⟨cells_kept hb _ _ hS0.1,cells_kept hb _ _ hS0.2.1,cells_kept hb _ _ hS0.2.2⟩
     clear hK
     refine tkv 5 15 (.bool false) ?_
     refine tkv 6 16 (.bool false) ?_
     refine tkv 7 17 (.int .i64 k) ?_
     refine tkv 8 18 (.bool false) ?_
     refine tkv 9 19 (.bool false) ?_
     refine tku 10 20 ?_
     refine tku 11 21 ?_
     refine tku 12 22 ?_
     refine tku 13 23 ?_
     refine tku 14 24 ?_
     refine tku 15 25 ?_
     refine tku 16 26 ?_
     refine tku 17 27 ?_
     refine tku 18 28 ?_
     refine tku 19 29 ?_
     refine tku 20 30 ?_
     refine tkv 21 31 (.bool false) ?_
     refine tkv 22 32 (.bool false) ?_
     refine wpAnyH_done (by kernel_rfl) ?_ _
     have bz:Below w.heap.size w w1:=bel8 (bel8 bw (by go_grown)) hb
     clear hS0 hS1 hb c0 c1 c2
     go_wp2
     go_roundw
     case rel=>exact ⟨k+1,by omega,by go_num,HK2,bz⟩
     case measure=>simp [intOf];omega
    ·obtain ⟨m,rfl⟩:∃ m,k=m+1:=⟨k - 1,by omega⟩
     obtain ⟨d0,d1,d2⟩:=hcell m (by omega)
     have hgt:(0:Int)<((m+1:Nat):Int):=by omega
     have hsub:IntKind.i64.wrap (((m+1:Nat):Int) - 1)=(m:Int):=by rw [IntKind.wrap_i64];omega
     have hm0:(0:Int)≤(m:Int):=by omega
     have hmn:(m:Int)<(n:Int):=by omega
     rw [show m+1 - 1=m from rfl,decide_eq_false (show ¬ m+1=0 by omega),Bool.false_or] at HS
     cases hT:ltB (xs.getD (m) (0,0,0)) (xs.getD (m+1) (0,0,0))
     ·have HR:Hid (fin=false):=by rw [Hid,HF.out];exact allR_false (show m+1<xs.length by omega) (by rw [HS.out,hO,hT];rfl)
      clear HS HF HK hcell
      generalize xs.getD (m+1) (0,0,0)=x at *
      generalize xs.getD m (0,0,0)=y at *
      replace c0:=cell8 bw c0
      replace c1:=cell8 bw c1
      replace c2:=cell8 bw c2
      replace d0:=cell8 bw d0
      replace d1:=cell8 bw d1
      replace d2:=cell8 bw d2
      have kO:=fun W=>specBugOK_is x W
      unfold I3.val at kO
      rw [hO] at kO
      have kL:=fun W=>l04Less_is y x W
      unfold I3.val at kL
      rw [hT] at kL
      clear hO hT
      go_wp2_with fail
      refine wp_region_held_drew (S:=(fun w'=>w'.cell? ⟨b,off+(m+1)*3,none⟩=some (.int .i64 x.1)∧w'.cell? ⟨b,off+(m+1)*3+1,none⟩=some (.int .i64 x.2.1)∧w'.cell? ⟨b,off+(m+1)*3+2,none⟩=some (.int .i64 x.2.2)∧w'.cell? ⟨b,off+m*3,none⟩=some (.int .i64 y.1)∧w'.cell? ⟨b,off+m*3+1,none⟩=some (.int .i64 y.2.1)∧w'.cell? ⟨b,off+m*3+2,none⟩=some (.int .i64 y.2.2))) (by kernel_rfl) ⟨c0,c1,c2,d0,d1,d2⟩ (fun hS0=>?_)
      refine tkv 0 10 (.slice (some ⟨b,off,none⟩) n cap) ?_
      refine tkv 1 11 (.int .i64 ((m+1:Nat):Int)) ?_
      refine tkv 2 12 (.pointer (some ⟨b,off+(m+1)*3,none⟩)) ?_
      refine tkv 3 13 (.agg #[.int .i64 x.1,.int .i64 x.2.1,.int .i64 x.2.2]) ?_
      refine tkr 4 14 (fun K hK=>?_)
      go_simp
      refine (kO _).mono ?_
      rintro e w1 ⟨rfl,hb⟩
      go_wp2_with fail
      refine hK.out _ _ ?_ (fun hS1=>?_)
      ·exact ⟨cells_kept hb _ _ hS0.1,cells_kept hb _ _ hS0.2.1,cells_kept hb _ _ hS0.2.2.1,cells_kept hb _ _ hS0.2.2.2.1,cells_kept hb _ _ hS0.2.2.2.2.1,cells_kept hb _ _ hS0.2.2.2.2.2⟩
      clear hK
      refine tkv 5 15 (.bool false) ?_
      refine tkv 6 16 (.bool false) ?_
      refine tkv 7 17 (.int .i64 ((m+1:Nat):Int)) ?_
      refine tkv 8 18 (.bool true) ?_
      refine tkv 9 19 (.bool true) ?_
      refine tkv 10 20 (.slice (some ⟨b,off,none⟩) n cap) ?_
      refine tkv 11 21 (.int .i64 ((m+1:Nat):Int)) ?_
      refine tkv 12 22 (.int .i64 (m:Int)) ?_
      refine tkv 13 23 (.pointer (some ⟨b,off+m*3,none⟩)) ?_
      refine tkv 14 24 (.agg #[.int .i64 y.1,.int .i64 y.2.1,.int .i64 y.2.2]) ?_
      refine tkv 15 25 (.slice (some ⟨b,off,none⟩) n cap) ?_
      refine tkv 16 26 (.int .i64 ((m+1:Nat):Int)) ?_
      refine tkv 17 27 (.pointer (some ⟨b,off+(m+1)*3,none⟩)) ?_
      refine tkv 18 28 (.agg #[.int .i64 x.1,.int .i64 x.2.1,.int .i64 x.2.2]) ?_
      refine tkr 19 29 (fun K hK=>?_)
      go_simp
      refine (kL _).mono ?_
      rintro e w2 ⟨rfl,hb2⟩
      go_wp2_with fail
      refine hK.out _ _ ?_ (fun hS2=>?_)
      ·exact ⟨cells_kept hb2 _ _ hS1.1,cells_kept hb2 _ _ hS1.2.1,cells_kept hb2 _ _ hS1.2.2.1,cells_kept hb2 _ _ hS1.2.2.2.1,cells_kept hb2 _ _ hS1.2.2.2.2.1,cells_kept hb2 _ _ hS1.2.2.2.2.2⟩
      clear hK
      refine tkv 20 30 (.bool true) ?_
      refine tkv 21 31 (.bool true) ?_
      refine tkv 22 32 (.bool true) ?_
      refine wpAnyH_done (by kernel_rfl) ?_ _
      have bz:Below w.heap.size w w2:=bel8 (bel8 (bel8 bw (by go_grown)) hb) hb2
      clear hS0 hS1 hb c0 c1 c2 d0 d1 d2 hb2 hS2
      go_wp2
      go_ret
      exact ⟨by rw [HR.out];rfl,bz⟩
     ·have HK2:Hid (∀ i,i<m+1+1→bStep xs i=true):=fun i hi=>by
       by_cases e:i=m+1
       ·rw [e,HS.out,hO,hT];rfl
       ·exact HK.out i (by omega)
      clear HS HK hcell
      generalize xs.getD (m+1) (0,0,0)=x at *
      generalize xs.getD m (0,0,0)=y at *
      replace c0:=cell8 bw c0
      replace c1:=cell8 bw c1
      replace c2:=cell8 bw c2
      replace d0:=cell8 bw d0
      replace d1:=cell8 bw d1
      replace d2:=cell8 bw d2
      have kO:=fun W=>specBugOK_is x W
      unfold I3.val at kO
      rw [hO] at kO
      have kL:=fun W=>l04Less_is y x W
      unfold I3.val at kL
      rw [hT] at kL
      clear hO hT
      go_wp2_with fail
      refine wp_region_held_drew (S:=(fun w'=>w'.cell? ⟨b,off+(m+1)*3,none⟩=some (.int .i64 x.1)∧w'.cell? ⟨b,off+(m+1)*3+1,none⟩=some (.int .i64 x.2.1)∧w'.cell? ⟨b,off+(m+1)*3+2,none⟩=some (.int .i64 x.2.2)∧w'.cell? ⟨b,off+m*3,none⟩=some (.int .i64 y.1)∧w'.cell? ⟨b,off+m*3+1,none⟩=some (.int .i64 y.2.1)∧w'.cell? ⟨b,off+m*3+2,none⟩=some (.int .i64 y.2.2))) (by kernel_rfl) ⟨c0,c1,c2,d0,d1,d2⟩ (fun hS0=>?_)
      refine tkv 0 10 (.slice (some ⟨b,off,none⟩) n cap) ?_
      refine tkv 1 11 (.int .i64 ((m+1:Nat):Int)) ?_
      refine tkv 2 12 (.pointer (some ⟨b,off+(m+1)*3,none⟩)) ?_
      refine tkv 3 13 (.agg #[.int .i64 x.1,.int .i64 x.2.1,.int .i64 x.2.2]) ?_
      refine tkr 4 14 (fun K hK=>?_)
      go_simp
      refine (kO _).mono ?_
      rintro e w1 ⟨rfl,hb⟩
      go_wp2_with fail
      refine hK.out _ _ ?_ (fun hS1=>?_)
      ·exact ⟨cells_kept hb _ _ hS0.1,cells_kept hb _ _ hS0.2.1,cells_kept hb _ _ hS0.2.2.1,cells_kept hb _ _ hS0.2.2.2.1,cells_kept hb _ _ hS0.2.2.2.2.1,cells_kept hb _ _ hS0.2.2.2.2.2⟩
      clear hK
      refine tkv 5 15 (.bool false) ?_
      refine tkv 6 16 (.bool false) ?_
      refine tkv 7 17 (.int .i64 ((m+1:Nat):Int)) ?_
      refine tkv 8 18 (.bool true) ?_
      refine tkv 9 19 (.bool true) ?_
      refine tkv 10 20 (.slice (some ⟨b,off,none⟩) n cap) ?_
      refine tkv 11 21 (.int .i64 ((m+1:Nat):Int)) ?_
      refine tkv 12 22 (.int .i64 (m:Int)) ?_
      refine tkv 13 23 (.pointer (some ⟨b,off+m*3,none⟩)) ?_
      refine tkv 14 24 (.agg #[.int .i64 y.1,.int .i64 y.2.1,.int .i64 y.2.2]) ?_
      refine tkv 15 25 (.slice (some ⟨b,off,none⟩) n cap) ?_
      refine tkv 16 26 (.int .i64 ((m+1:Nat):Int)) ?_
      refine tkv 17 27 (.pointer (some ⟨b,off+(m+1)*3,none⟩)) ?_
      refine tkv 18 28 (.agg #[.int .i64 x.1,.int .i64 x.2.1,.int .i64 x.2.2]) ?_
      refine tkr 19 29 (fun K hK=>?_)
      go_simp
      refine (kL _).mono ?_
      rintro e w2 ⟨rfl,hb2⟩
      go_wp2_with fail
      refine hK.out _ _ ?_ (fun hS2=>?_)
      ·exact ⟨cells_kept hb2 _ _ hS1.1,cells_kept hb2 _ _ hS1.2.1,cells_kept hb2 _ _ hS1.2.2.1,cells_kept hb2 _ _ hS1.2.2.2.1,cells_kept hb2 _ _ hS1.2.2.2.2.1,cells_kept hb2 _ _ hS1.2.2.2.2.2⟩
      clear hK
      refine tkv 20 30 (.bool false) ?_
      refine tkv 21 31 (.bool false) ?_
      refine tkv 22 32 (.bool false) ?_
      refine wpAnyH_done (by kernel_rfl) ?_ _
      have bz:Below w.heap.size w w2:=bel8 (bel8 (bel8 bw (by go_grown)) hb) hb2
      clear hS0 hS1 hb c0 c1 c2 d0 d1 d2 hb2 hS2
      go_wp2
      go_roundw
      case rel=>exact ⟨m+1+1,by omega,by go_num,HK2,bz⟩
      case measure=>simp [intOf];omega
  ·obtain rfl:k=n:=by omega
   have HR:Hid (fin=true):=by rw [Hid,HF.out];exact allR_true (fun i hi=>HK.out i (by omega))
   clear HF HK hcase
   go_wp2
   go_ret
   exact ⟨by rw [HR.out];rfl,bw⟩

theorem l10Items_is (a:Option Addr) (n cap:Nat) (xs:List Int) (w:World) (h:Ints .i64 w a n cap xs) (hw:wfs xs) :
  Calls Tryz.prog 110 #[.slice a n cap] w fun e w'=>e=.returned (.bool (riseI xs))∧Below w.heap.size w w':=by
 obtain ⟨hl,hlc,hcm,hcase⟩:=h
 unfold maxLen at hcm
 obtain ⟨fin,hfin⟩:∃ fin,fin=riseI xs:=⟨_,rfl⟩
 rw [← hfin]
 have HF:Hid (fin=riseI xs):=hfin
 clear hfin
 go_enter Tryz.func110,Tryz.ntmps110
 go_wp2_with fail
 go_loopw [3] (fun si wr=>∃ k:Nat,k≤n∧si=.int .i64 k∧Hid (∀ i,i<k→iStep xs i=true)∧Below w.heap.size w wr) (fun si _=>n - (intOf si).toNat)
 case atStart=>exact ⟨0,by omega,rfl,fun i hi=>by omega,Below.refl _ _⟩
 case round =>
  obtain ⟨k,hk,rfl,HK,bw⟩:=hrel
  by_cases hlt:k<n
  ·rcases hcase with e0 | ⟨b,off,rfl,hblt,hcell⟩
   ·omega
   have c0:=hcell k hlt
   have hxw:=hw (xs.getD k 0) (by simp [List.getD,List.getElem?_eq_getElem (show k<xs.length by omega)])
   have HS:Hid (iStep xs k=(itOk (xs.getD k 0) && (decide (k=0) || decide (xs.getD (k - 1) 0<xs.getD k 0)))):=rfl
   have hlt2:(k:Int)<(n:Int):=by omega
   have hk0:(0:Int)≤(k:Int):=by omega
   cases hO:itOk (xs.getD k 0)
   ·have HR:Hid (fin=false):=by rw [Hid,HF.out];exact allR_false (show k<xs.length by omega) (by rw [HS.out,hO];rfl)
    clear HS HF HK hcell
    generalize xs.getD k 0=x at *
    replace c0:=cell8 bw c0
    have kO:=fun W=>l08OK_is x (in_wf8 hxw) W
    rw [hO] at kO
    clear hO
    go_wp2_with fail
    refine wp_region_held_drew (S:=(fun w'=>w'.cell? ⟨b,off+k,none⟩=some (.int .i64 x))) (by kernel_rfl) c0 (fun hS0=>?_)
    refine tkv 0 10 (.slice (some ⟨b,off,none⟩) n cap) ?_
    refine tkv 1 11 (.int .i64 k) ?_
    refine tkv 2 12 (.pointer (some ⟨b,off+k,none⟩)) ?_
    refine tkv 3 13 (.int .i64 x) ?_
    refine tkr 4 14 (fun K hK=>?_)
    go_simp
    refine (kO _).mono ?_
    rintro e w1 ⟨rfl,rfl⟩
    go_wp2_with fail
    refine hK.out _ _ ?_ (fun hS1=>?_)
    ·exact hS0
    clear hK
    refine tkv 5 15 (.bool true) ?_
    refine tkv 6 16 (.bool true) ?_
    refine tku 7 17 ?_
    refine tku 8 18 ?_
    refine tku 9 19 ?_
    refine tku 10 20 ?_
    refine tku 11 21 ?_
    refine tku 12 22 ?_
    refine tku 13 23 ?_
    refine tku 14 24 ?_
    refine tku 15 25 ?_
    refine tku 16 26 ?_
    refine tku 17 27 ?_
    refine tku 18 28 ?_
    refine tku 19 29 ?_
    refine tku 20 30 ?_
    refine tkv 21 31 (.bool true) ?_
    refine wpAnyH_done (by kernel_rfl) ?_ _
    have bz:Below w.heap.size w wr.drew:=bel8 bw (by go_grown)
    clear hS0 hS1 c0
    go_wp2
    go_ret
    exact ⟨by rw [HR.out];rfl,bz⟩
   ·by_cases hz:k=0
    ·have HK2:Hid (∀ i,i<k+1→iStep xs i=true):=fun i hi=>by
      obtain rfl:i=k:=by omega
      rw [HS.out,hO,decide_eq_true hz];rfl
     have hgt:¬ (0:Int)<(k:Int):=by omega
     clear HS HK hcell
     generalize xs.getD k 0=x at *
     replace c0:=cell8 bw c0
     have kO:=fun W=>l08OK_is x (in_wf8 hxw) W
     rw [hO] at kO
     clear hO hz
     go_wp2_with fail
     refine wp_region_held_drew (S:=(fun w'=>w'.cell? ⟨b,off+k,none⟩=some (.int .i64 x))) (by kernel_rfl) c0 (fun hS0=>?_)
     refine tkv 0 10 (.slice (some ⟨b,off,none⟩) n cap) ?_
     refine tkv 1 11 (.int .i64 k) ?_
     refine tkv 2 12 (.pointer (some ⟨b,off+k,none⟩)) ?_
     refine tkv 3 13 (.int .i64 x) ?_
     refine tkr 4 14 (fun K hK=>?_)
     go_simp
     refine (kO _).mono ?_
     rintro e w1 ⟨rfl,rfl⟩
     go_wp2_with fail
     refine hK.out _ _ ?_ (fun hS1=>?_)
     ·exact hS0
     clear hK
     refine tkv 5 15 (.bool false) ?_
     refine tkv 6 16 (.bool false) ?_
     refine tkv 7 17 (.int .i64 k) ?_
     refine tkv 8 18 (.bool false) ?_
     refine tkv 9 19 (.bool false) ?_
     refine tku 10 20 ?_
     refine tku 11 21 ?_
     refine tku 12 22 ?_
     refine tku 13 23 ?_
     refine tku 14 24 ?_
     refine tku 15 25 ?_
     refine tku 16 26 ?_
     refine tku 17 27 ?_
     refine tku 18 28 ?_
     refine tku 19 29 ?_
     refine tkv 20 30 (.bool false) ?_
     refine tkv 21 31 (.bool false) ?_
     refine wpAnyH_done (by kernel_rfl) ?_ _
     have bz:Below w.heap.size w wr.drew:=bel8 bw (by go_grown)
     clear hS0 hS1 c0
     go_wp2
     go_roundw
     case rel=>exact ⟨k+1,by omega,by go_num,HK2,bz⟩
     case measure=>simp [intOf];omega
    ·obtain ⟨m,rfl⟩:∃ m,k=m+1:=⟨k - 1,by omega⟩
     have d0:=hcell m (by omega)
     have hgt:(0:Int)<((m+1:Nat):Int):=by omega
     have hsub:IntKind.i64.wrap (((m+1:Nat):Int) - 1)=(m:Int):=by rw [IntKind.wrap_i64];omega
     have hm0:(0:Int)≤(m:Int):=by omega
     have hmn:(m:Int)<(n:Int):=by omega
     rw [show m+1 - 1=m from rfl,decide_eq_false (show ¬ m+1=0 by omega),Bool.false_or] at HS
     cases hT:decide (xs.getD (m) 0<xs.getD (m+1) 0)
     ·have HR:Hid (fin=false):=by rw [Hid,HF.out];exact allR_false (show m+1<xs.length by omega) (by rw [HS.out,hO,hT];rfl)
      clear HS HF HK hcell
      generalize xs.getD (m+1) 0=x at *
      generalize xs.getD m 0=y at *
      replace c0:=cell8 bw c0
      replace d0:=cell8 bw d0
      have kO:=fun W=>l08OK_is x (in_wf8 hxw) W
      rw [hO] at kO
      have hge:y ≥ x:=by simpa using hT
      skip
      skip
      clear hO hT
      go_wp2_with fail
      refine wp_region_held_drew (S:=(fun w'=>w'.cell? ⟨b,off+(m+1),none⟩=some (.int .i64 x)∧w'.cell? ⟨b,off+m,none⟩=some (.int .i64 y))) (by kernel_rfl) ⟨c0,d0⟩ (fun hS0=>?_)
      refine tkv 0 10 (.slice (some ⟨b,off,none⟩) n cap) ?_
      refine tkv 1 11 (.int .i64 ((m+1:Nat):Int)) ?_
      refine tkv 2 12 (.pointer (some ⟨b,off+(m+1),none⟩)) ?_
      refine tkv 3 13 (.int .i64 x) ?_
      refine tkr 4 14 (fun K hK=>?_)
      go_simp
      refine (kO _).mono ?_
      rintro e w1 ⟨rfl,rfl⟩
      go_wp2_with fail
      refine hK.out _ _ ?_ (fun hS1=>?_)
      ·exact hS0
      clear hK
      refine tkv 5 15 (.bool false) ?_
      refine tkv 6 16 (.bool false) ?_
      refine tkv 7 17 (.int .i64 ((m+1:Nat):Int)) ?_
      refine tkv 8 18 (.bool true) ?_
      refine tkv 9 19 (.bool true) ?_
      refine tkv 10 20 (.slice (some ⟨b,off,none⟩) n cap) ?_
      refine tkv 11 21 (.int .i64 ((m+1:Nat):Int)) ?_
      refine tkv 12 22 (.int .i64 (m:Int)) ?_
      refine tkv 13 23 (.pointer (some ⟨b,off+m,none⟩)) ?_
      refine tkv 14 24 (.int .i64 y) ?_
      refine tkv 15 25 (.slice (some ⟨b,off,none⟩) n cap) ?_
      refine tkv 16 26 (.int .i64 ((m+1:Nat):Int)) ?_
      refine tkv 17 27 (.pointer (some ⟨b,off+(m+1),none⟩)) ?_
      refine tkv 18 28 (.int .i64 x) ?_
      refine tkv 19 29 (.bool true) ?_
      refine tkv 20 30 (.bool true) ?_
      refine tkv 21 31 (.bool true) ?_
      refine wpAnyH_done (by kernel_rfl) ?_ _
      have bz:Below w.heap.size w wr.drew:=bel8 bw (by go_grown)
      clear hS0 hS1 c0 d0 
      go_wp2
      go_ret
      exact ⟨by rw [HR.out];rfl,bz⟩
     ·have HK2:Hid (∀ i,i<m+1+1→iStep xs i=true):=fun i hi=>by
       by_cases e:i=m+1
       ·rw [e,HS.out,hO,hT];rfl
       ·exact HK.out i (by omega)
      clear HS HK hcell
      generalize xs.getD (m+1) 0=x at *
      generalize xs.getD m 0=y at *
      replace c0:=cell8 bw c0
      replace d0:=cell8 bw d0
      have kO:=fun W=>l08OK_is x (in_wf8 hxw) W
      rw [hO] at kO
      have hge:¬ y ≥ x:=by simpa using hT
      skip
      skip
      clear hO hT
      go_wp2_with fail
      refine wp_region_held_drew (S:=(fun w'=>w'.cell? ⟨b,off+(m+1),none⟩=some (.int .i64 x)∧w'.cell? ⟨b,off+m,none⟩=some (.int .i64 y))) (by kernel_rfl) ⟨c0,d0⟩ (fun hS0=>?_)
      refine tkv 0 10 (.slice (some ⟨b,off,none⟩) n cap) ?_
      refine tkv 1 11 (.int .i64 ((m+1:Nat):Int)) ?_
      refine tkv 2 12 (.pointer (some ⟨b,off+(m+1),none⟩)) ?_
      refine tkv 3 13 (.int .i64 x) ?_
      refine tkr 4 14 (fun K hK=>?_)
      go_simp
      refine (kO _).mono ?_
      rintro e w1 ⟨rfl,rfl⟩
      go_wp2_with fail
      refine hK.out _ _ ?_ (fun hS1=>?_)
      ·exact hS0
      clear hK
      refine tkv 5 15 (.bool false) ?_
      refine tkv 6 16 (.bool false) ?_
      refine tkv 7 17 (.int .i64 ((m+1:Nat):Int)) ?_
      refine tkv 8 18 (.bool true) ?_
      refine tkv 9 19 (.bool true) ?_
      refine tkv 10 20 (.slice (some ⟨b,off,none⟩) n cap) ?_
      refine tkv 11 21 (.int .i64 ((m+1:Nat):Int)) ?_
      refine tkv 12 22 (.int .i64 (m:Int)) ?_
      refine tkv 13 23 (.pointer (some ⟨b,off+m,none⟩)) ?_
      refine tkv 14 24 (.int .i64 y) ?_
      refine tkv 15 25 (.slice (some ⟨b,off,none⟩) n cap) ?_
      refine tkv 16 26 (.int .i64 ((m+1:Nat):Int)) ?_
      refine tkv 17 27 (.pointer (some ⟨b,off+(m+1),none⟩)) ?_
      refine tkv 18 28 (.int .i64 x) ?_
      refine tkv 19 29 (.bool false) ?_
      refine tkv 20 30 (.bool false) ?_
      refine tkv 21 31 (.bool false) ?_
      refine wpAnyH_done (by kernel_rfl) ?_ _
      have bz:Below w.heap.size w wr.drew:=bel8 bw (by go_grown)
      clear hS0 hS1 c0 d0 
      go_wp2
      go_roundw
      case rel=>exact ⟨m+1+1,by omega,by go_num,HK2,bz⟩
      case measure=>simp [intOf];omega
  ·obtain rfl:k=n:=by omega
   have HR:Hid (fin=true):=by rw [Hid,HF.out];exact allR_true (fun i hi=>HK.out i (by omega))
   clear HF HK hcase
   go_wp2
   go_ret
   exact ⟨by rw [HR.out];rfl,bw⟩

end Go.Proofs.YtdopgkbegjfhjaaGreatDoor
