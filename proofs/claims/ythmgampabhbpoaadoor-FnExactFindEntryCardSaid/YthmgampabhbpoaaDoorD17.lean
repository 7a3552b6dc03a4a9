/-
  Joined: Ent4.
-/
import Derived.Test.YthmgampabhbpoaaDoorD16

namespace Go.Proofs.YthmgampabhbpoaaDoor
set_option maxRecDepth 100000
set_option maxHeartbeats 16000000
open Go.RowKit
set_option linter.unusedVariables false
set_option linter.unusedSimpArgs false

theorem eqEntry_same (e:E3) (s s':Sl2) (w:World) (h:Emem w s e) (h':Emem w s' e) :
  Calls Tryd.prog 14 #[entV e.1 s,entV e.1 s'] w fun x w'=>x=.returned (.bool true)∧Below w.heap.size w w':=by
 obtain ⟨_,hB,hF,_⟩:=h
 obtain ⟨_,hB',hF',_⟩:=h'
 have l1:=hB.1
 have l2:=hF.1
 have l1':=hB'.1
 have l2':=hF'.1
 obtain ⟨k,bs,zs⟩:=e
 obtain ⟨⟨a1,n1,c1⟩,⟨a2,n2,c2⟩⟩:=s
 obtain ⟨⟨b1,m1,d1⟩,⟨b2,m2,d2⟩⟩:=s'
 unfold entV
 simp only at *
 obtain rfl:n1=m1:=by omega
 obtain rfl:n2=m2:=by omega
 have kB:=fun W (hb:Below w.heap.size w W)=>eqBugS_same a1 b1 n1 c1 d1 bs W (hB.below hb) (hB'.below hb)
 have kF:=fun W (hb:Below w.heap.size w W)=>eq8 a2 b2 n2 c2 d2 zs W (hF.below hb) (hF'.below hb)
 clear hB hF hB' hF' l1 l2 l1' l2'
 have hkk:(k.toList == k.toList)=true:=by simp
 have bw:Below w.heap.size w ((w.alloc (.cells #[.string k,.slice a1 n1 c1,.slice a2 n2 c2] 30)).alloc (.cells #[.string k,.slice b1 n1 d1,.slice b2 n2 d2] 30)):=by go_grown
 have pA:Blk ((w.alloc (.cells #[.string k,.slice a1 n1 c1,.slice a2 n2 c2] 30)).alloc (.cells #[.string k,.slice b1 n1 d1,.slice b2 n2 d2] 30)) w.heap.size 30 [.string k,.slice a1 n1 c1,.slice a2 n2 c2]:=blkOld _ (blkAt _ _ _ rfl)
 have pB:Blk ((w.alloc (.cells #[.string k,.slice a1 n1 c1,.slice a2 n2 c2] 30)).alloc (.cells #[.string k,.slice b1 n1 d1,.slice b2 n2 d2] 30)) (w.heap.size+1) 30 [.string k,.slice b1 n1 d1,.slice b2 n2 d2]:=blkAt _ _ _ (by simp)
 go_enter Tryd.func14,Tryd.ntmps14
 go_wp2_with fail
 refine (kB _ bw).mono ?_
 rintro x w1 ⟨rfl,hb⟩
 replace bw:=bel8 bw hb
 replace pA:=pA.below hb
 replace pB:=pB.below hb
 clear hb kB
 have y2:=pA.cell 2
 have z2:=pB.cell 2
 simp only [List.getElem?_cons_zero,List.getElem?_cons_succ] at y2 z2
 go_wp2_with fail
 refine (kF _ bw).mono ?_
 rintro x w2 ⟨rfl,hb⟩
 replace bw:=bel8 bw hb
 clear hb kF
 go_wp2
 go_ret
 exact ⟨rfl,bw⟩

theorem eqEntryS_same (a a':Option Addr) (len cap cap':Nat) (es:List E3) (w:World) (h:Ents w a len cap es) (h':Ents w a' len cap' es) :
  Calls Tryd.prog 52 #[.slice a len cap,.slice a' len cap'] w fun e w'=>e=.returned (.bool true)∧Below w.heap.size w w':=by
 obtain ⟨hl,hlc,hcm,hcase⟩:=h
 obtain ⟨_,hlc',hcm',hcase'⟩:=h'
 unfold maxLen at hcm hcm'
 have hne:((len:Int) != (len:Int))=false:=by simp
 by_cases h0:len=0
 ·subst h0
  go_enter Tryd.func52,Tryd.ntmps52
  go_wp2
  refine wp_loop_rounds 1 ?_
  rw [rounds_succ]
  go_wp2
  go_ret
  exact ⟨rfl,Below.refl _ _⟩
 ·rcases hcase with h0' | ⟨b,off,rfl,hblt,hcell⟩
  ·exact absurd h0' h0
  rcases hcase' with h0' | ⟨b',off',rfl,hblt',hcell'⟩
  ·exact absurd h0' h0
  go_enter Tryd.func52,Tryd.ntmps52
  go_wp2
  go_loopw [5] (fun si wr=>∃ k:Nat,k≤len∧si=.int .i64 k∧Below w.heap.size w wr) (fun si _=>len - (intOf si).toNat)
  case atStart=>exact ⟨0,by omega,rfl,Below.refl _ _⟩
  case round =>
   obtain ⟨k,hk,rfl,bw⟩:=hrel
   by_cases hlt:k<len
   ·obtain ⟨s,c0,c1,c2,hm⟩:=hcell k hlt
    obtain ⟨s',d0,d1,d2,hm'⟩:=hcell' k hlt
    have kE:=fun W (hb:Below w.heap.size w W)=>eqEntry_same (es.getD k e3d) s s' W (hm.below hb) (hm'.below hb)
    replace c0:=cell8 bw c0
    replace c1:=cell8 bw c1
    replace c2:=cell8 bw c2
    replace d0:=cell8 bw d0
    replace d1:=cell8 bw d1
    replace d2:=cell8 bw d2
    clear hcell hcell' hm hm'
    generalize es.getD k e3d=x at *
    obtain ⟨xk,xb,xz⟩:=x
    obtain ⟨⟨p1,pn1,pc1⟩,⟨p2,pn2,pc2⟩⟩:=s
    obtain ⟨⟨q1,qn1,qc1⟩,⟨q2,qn2,qc2⟩⟩:=s'
    unfold entV at kE
    simp only at c0 c1 c2 d0 d1 d2 kE
    have hlt2:(k:Int)<(len:Int):=by omega
    have hk0:(0:Int)≤(k:Int):=by omega
    have bd:Below w.heap.size w wr.drew:=bel8 bw (by go_grown)
    go_wp2_with fail
    refine wp_region_held_drew (S:=(fun w'=>w'.cell? ⟨b,off+k*3,none⟩=some (.string xk)∧w'.cell? ⟨b,off+k*3+1,none⟩=some (.slice p1 pn1 pc1)∧w'.cell? ⟨b,off+k*3+2,none⟩=some (.slice p2 pn2 pc2)∧w'.cell? ⟨b',off'+k*3,none⟩=some (.string xk)∧w'.cell? ⟨b',off'+k*3+1,none⟩=some (.slice q1 qn1 qc1)∧w'.cell? ⟨b',off'+k*3+2,none⟩=some (.slice q2 qn2 qc2))) (by kernel_rfl) ⟨c0,c1,c2,d0,d1,d2⟩ (fun hS0=>?_)
    refine tkm 0 17 (.slice (some ⟨b,off,none⟩) len cap) ?_
    refine tkm 1 18 (.int .i64 k) ?_
    refine tkm 2 19 (.pointer (some ⟨b,off+k*3,none⟩)) ?_
    refine tkm 3 20 (.agg #[.string xk,.slice p1 pn1 pc1,.slice p2 pn2 pc2]) ?_
    refine tkm 4 21 (.slice (some ⟨b',off',none⟩) len cap') ?_
    refine tkm 5 22 (.int .i64 k) ?_
    refine tkm 6 23 (.pointer (some ⟨b',off'+k*3,none⟩)) ?_
    refine tkm 7 24 (.agg #[.string xk,.slice q1 qn1 qc1,.slice q2 qn2 qc2]) ?_
    refine tkr 8 25 (fun K hK=>?_)
    go_simp
    refine (kE _ bd).mono ?_
    rintro e w1 ⟨rfl,hb⟩
    go_wp2_with fail
    refine hK.out _ _ ?_ (fun hS1=>?_)
    ·exact ⟨cells_kept hb _ _ hS0.1,cells_kept hb _ _ hS0.2.1,cells_kept hb _ _ hS0.2.2.1,cells_kept hb _ _ hS0.2.2.2.1,cells_kept hb _ _ hS0.2.2.2.2.1,cells_kept hb _ _ hS0.2.2.2.2.2⟩
    clear hK
    refine tkm 9 26 (.bool false) ?_
    refine wpAnyH_done (by kernel_rfl) ?_ _
    replace bw:=bel8 bd hb
    clear hb bd hS0 hS1 c0 c1 c2 d0 d1 d2 kE
    go_wp2
    go_roundw
    case rel=>exact ⟨k+1,by omega,by go_num,bw⟩
    case measure=>simp [intOf];omega
   ·go_wp2
    go_ret
    exact ⟨rfl,bw⟩

theorem eqMemo_same (a a':Option Addr) (len cap cap':Nat) (es:List E3) (w:World) (h:Ents w a len cap es) (h':Ents w a' len cap' es) :
  Calls Tryd.prog 19 #[.agg #[.slice a len cap],.agg #[.slice a' len cap']] w fun e w'=>e=.returned (.bool true)∧Below w.heap.size w w':=by
 have kE:=fun W (hb:Below w.heap.size w W)=>eqEntryS_same a a' len cap cap' es W (h.below hb) (h'.below hb)
 have bw:Below w.heap.size w ((w.alloc (.cells #[.slice a len cap] 41)).alloc (.cells #[.slice a' len cap'] 41)):=by go_grown
 go_enter Tryd.func19,Tryd.ntmps19
 go_wp2_with fail
 refine (kE _ bw).mono ?_
 rintro x w1 ⟨rfl,hb⟩
 replace bw:=bel8 bw hb
 clear hb kE
 go_wp2
 go_ret
 exact ⟨rfl,bw⟩
end Go.Proofs.YthmgampabhbpoaaDoor
