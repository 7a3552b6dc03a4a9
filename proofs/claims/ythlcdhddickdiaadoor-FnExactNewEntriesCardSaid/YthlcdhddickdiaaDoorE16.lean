/-
  Joined: Ent7.
-/
import Derived.Test.YthlcdhddickdiaaDoorE15

namespace Go.Proofs.YthlcdhddickdiaaDoor
set_option maxRecDepth 100000
set_option maxHeartbeats 16000000
open Go.RowKit
set_option linter.unusedVariables false
set_option linter.unusedSimpArgs false

theorem own_ne_blk9' {w:World} {B e s n g t:Nat} {v:Value} {xs cs:List Value} (h:w.ownsRow B e s v n xs) (hB:Blk w g t cs) (he:e≠t):v.ownBlock≠some g:=by
 rcases h.2 with ⟨rfl,_⟩ | ⟨g',cap,cur,rfl,_,hh,_⟩
 ·simp [Value.ownBlock]
 ·simp only [Value.ownBlock,ne_eq,Option.some.injEq]
  rintro rfl
  unfold Blk at hB
  rw [hh] at hB
  simp at hB
  exact he hB.2
theorem markMemo_own (B T:Nat) (v:Value) (k:Nat) (es:List E3) (w:World) (hk0:0<k) (hk:k≤100000000) (hcj:∀ j,j≤es.length→cntM es j≤10000000) (hr:∀ t,t<es.length→(es.getD t e3d).2.1.length≤1048576∧(es.getD t e3d).2.2.length≤1048576) (hB:B≤w.heap.size) (h:OwnMT w B T v es) :
  Calls Tryd.prog 14 #[.agg #[v],.int .i64 k] w fun e w'=>e=.returned (.int .i64 (k+cntM es es.length))∧OwnMT w' B T v (mkM k es es.length)∧Mid9 B T w w':=by
 obtain ⟨a,cap,rfl⟩:∃ a cap,v=.slice a es.length cap:=by obtain ⟨cs,h1,_⟩:=h;exact slice8 h1
 have kE:=fun W (hb:Below w.heap.size w W)=>markEntryS_own B T _ k es W hk0 hk hcj hr (h.below hb)
 have bw:Below w.heap.size w (w.alloc (.cells #[.slice a es.length cap] 33)):=by go_grown
 go_enter Tryd.func14,Tryd.ntmps14
 go_wp2_with fail
 refine (kE _ bw).mono ?_
 rintro e w1 ⟨rfl,h1,hm⟩
 have hm2:=hm.after bw hB
 clear hm kE
 go_wp2
 go_ret
 exact ⟨rfl,h1,hm2⟩

def OwnET (w:World) (B T:Nat) (vb vf:Value) (e:E3):Prop:=OwnE w B vb vf e∧(∀ x,vb.ownBlock=some x→x<T)∧∀ x,vf.ownBlock=some x→x<T
theorem OwnET.below {w w':World} {B T:Nat} {vb vf:Value} {e:E3} (h:OwnET w B T vb vf e) (hb:Below w.heap.size w w'):OwnET w' B T vb vf e:=⟨h.1.below hb,h.2⟩
theorem OwnE.top9 {w:World} {B:Nat} {vb vf:Value} {e:E3} (h:OwnE w B vb vf e):OwnET w B w.heap.size vb vf e:=⟨h,fun x hx=>(h.1.lt x hx).2,fun x hx=>(h.2.lt x hx).2⟩
theorem OwnET.mid {B T B' T':Nat} {w w':World} {vb vf:Value} {e:E3} (h:OwnET w B' T' vb vf e) (hm:Mid9 B T w w') (hT:T≤B'):OwnET w' B' T' vb vf e:=⟨⟨hm.owns h.1.1 hT,hm.owns h.1.2 hT⟩,h.2⟩
def mkF (k:Nat) (e:E3):E3:=(e.1,mkI (k:Int) e.2.1 e.2.1.length,mkTo ((k:Int)+e.2.1.length*3) e.2.2 e.2.2.length)

theorem markEntry_own (B T:Nat) (s:Sl2) (k:Nat) (e:E3) (w:World) (hk:k≤100000000) (h1:e.2.1.length≤1048576) (h2:e.2.2.length≤1048576) (hB:B≤w.heap.size) (h:OwnET w B T (.slice s.1.1 s.1.2.1 s.1.2.2) (.slice s.2.1 s.2.2.1 s.2.2.2) e) :
  Calls Tryd.prog 15 #[entV e.1 s,.int .i64 k] w fun x w'=>x=.returned (.int .i64 ((k:Int)+e.2.1.length*3+e.2.2.length))∧OwnET w' B T (.slice s.1.1 s.1.2.1 s.1.2.2) (.slice s.2.1 s.2.2.1 s.2.2.2) (mkF k e)∧Mid9 B T w w':=by
 obtain ⟨⟨a1,n1,c1⟩,⟨a2,n2,c2⟩⟩:=s
 obtain ⟨ek,eb,ez⟩:=e
 unfold entV mkF
 simp only at *
 have bw:Below w.heap.size w (w.alloc (.cells #[.string ek,.slice a1 n1 c1,.slice a2 n2 c2] 39)):=by go_grown
 have pA:Blk (w.alloc (.cells #[.string ek,.slice a1 n1 c1,.slice a2 n2 c2] 39)) w.heap.size 39 [.string ek,.slice a1 n1 c1,.slice a2 n2 c2]:=blkAt _ _ _ rfl
 have hm:Mid9 B T w (w.alloc (.cells #[.string ek,.slice a1 n1 c1,.slice a2 n2 c2] 39)):=(Mid9.refl B T w).bel bw hB
 replace h:=h.below bw
 have hs:B≤(w.alloc (.cells #[.string ek,.slice a1 n1 c1,.slice a2 n2 c2] 39)).heap.size:=Nat.le_trans hB bw.size
 go_enter Tryd.func15,Tryd.ntmps15
 go_wp2_with fail
 generalize (w.alloc (.cells #[.string ek,.slice a1 n1 c1,.slice a2 n2 c2] 39))=U at *
 obtain ⟨⟨q1,q2⟩,t1,t2⟩:=h
 simp only at q1 q2
 refine (markBugS_any B (.slice a1 n1 c1) k eb U (by omega) (by omega) h1 q1).mono ?_
 rintro x W2 ⟨rfl,hrow,hg⟩
 have hm2:=hm.step hg hs (fun y hy=>(q1.lt y hy).1) t1
 have pA2:=pA.kept hg (own_ne_blk9' q1 pA (by decide))
 have q2':=q2.kept hg (owns_ne q2 q1 (by decide))
 have hs2:B≤W2.heap.size:=Nat.le_trans hB hm2.1.size
 clear hg hm pA q1 q2 hs
 have y2:=pA2.cell 2
 simp only [List.getElem?_cons_zero,List.getElem?_cons_succ] at y2
 go_wp2_with fail
 refine (markAny8 B (.slice a2 n2 c2) ((k:Int)+eb.length*3) ez W2 (by omega) (by omega) h2 q2').mono ?_
 rintro x W3 ⟨rfl,hrow2,hg⟩
 have hm3:=hm2.step hg hs2 (fun y hy=>(q2'.lt y hy).1) t2
 have hrow':=hrow.kept hg (owns_ne hrow q2' (by decide))
 clear hg hm2 pA2 q2' hs2 hrow y2
 have hfin:OwnET W3 B T (.slice a1 n1 c1) (.slice a2 n2 c2) (ek,mkI (k:Int) eb eb.length,mkTo ((k:Int)+eb.length*3) ez ez.length):=by
  refine ⟨⟨?_,?_⟩,t1,t2⟩
  ·simp only
   rw [mkI_len]
   exact hrow'
  ·simp only
   rw [mkTo_len]
   exact hrow2
 clear hrow' hrow2
 go_wp2
 go_ret
 exact ⟨rfl,hfin,hm3⟩

theorem heldEntryS_own (B:Nat) (v:Value) (k:Nat) (es:List E3) (w:World) (hk0:0<k) (hk:k≤100000000) (hcj:∀ j,j≤es.length→cntM es j≤10000000) (hr:∀ t,t<es.length→(es.getD t e3d).2.1.length≤1048576∧(es.getD t e3d).2.2.length≤1048576) (h:OwnM w B v (mkM k es es.length)) :
  Calls Tryd.prog 24 #[v,.int .i64 k] w fun e w'=>e=.returned (.int .i64 (k+cntM es es.length))∧Below w.heap.size w w':=by
 obtain ⟨cs,h1,h2⟩:=h
 have hml:=mkM_len k es es.length
 rw [hml] at h1 h2
 rcases h1.2 with ⟨rfl,h0⟩ | ⟨P,cap,cur,rfl,hPB,hh,hlc,hcm,_⟩
 ·obtain rfl:es=[]:=List.eq_nil_of_length_eq_zero h0
  clear h1 h2
  go_enter Tryd.func24,Tryd.ntmps24
  go_wp2
  refine wp_loop_rounds 1 ?_
  rw [rounds_succ]
  go_wp2
  go_ret
  exact ⟨by simp [cntM],Below.refl _ _⟩
 ·clear hh
  unfold maxLen at hcm
  generalize hn:es.length=n at *
  have hcl:=h1.1
  go_enter Tryd.func24,Tryd.ntmps24
  go_wp2
  go_loopw [1,5] (fun sk si wr=>∃ (j:Nat),j≤n∧si=.int .i64 j∧sk=.int .i64 ((k:Int)+cntM es j)∧Below w.heap.size w wr) (fun _ si _=>n - (intOf si).toNat)
  case atStart=>exact ⟨0,by omega,rfl,by simp [cntM],Below.refl _ _⟩
  case round =>
   obtain ⟨j,hj,rfl,rfl,bw⟩:=hrel
   by_cases hlt:j<n
   ·have hlt2:(j:Int)<(n:Int):=by omega
    have hj0:(0:Int)≤(j:Int):=by omega
    have hcs:=hcj j hj
    obtain ⟨r1,r2⟩:=hr j hlt
    have HS:Hid (cntM es (j+1)=cntM es j+cntE (es.getD j e3d)):=cntM_step es j (by omega)
    obtain ⟨k1,k2⟩:=h2.1 j hlt
    rw [mkM_get k es n j hlt (by omega)] at k1 k2
    obtain ⟨s,e1,e2⟩:=k2.slices
    have c0:=(h1.cellAt (j*3) (by omega)).trans k1
    have c1:w.cell? ⟨P,j*3+1,none⟩=some (cs.getD (j*3+1) undef):=by rw [h1.cellAt _ (by omega)];simp [List.getD,List.getElem?_eq_getElem (show j*3+1<cs.length by omega)]
    have c2:w.cell? ⟨P,j*3+2,none⟩=some (cs.getD (j*3+2) undef):=by rw [h1.cellAt _ (by omega)];simp [List.getD,List.getElem?_eq_getElem (show j*3+2<cs.length by omega)]
    rw [e1] at c1
    rw [e2] at c2
    rw [e1,e2] at k2
    clear e1 e2 k1
    replace k2:=k2.below bw
    replace c0:=cell8 bw c0
    replace c1:=cell8 bw c1
    replace c2:=cell8 bw c2
    generalize es.getD j e3d=x at *
    have kM:=fun W=>markText_is (k+cntM es j) W (by omega) (by omega)
    unfold mkE at k2 c0
    rw [show ((k+cntM es j:Nat):Int)=(k:Int)+(cntM es j:Int) by omega] at kM k2
    obtain ⟨xk,xb,xz⟩:=x
    simp only at *
    generalize cntM es j=c at *
    obtain ⟨q1,q2⟩:=k2
    simp only at q1 q2
    rw [mkI_len] at q1
    rw [mkTo_len] at q2
    generalize markB (k+c)=mk at *
    obtain ⟨⟨a1,n1,d1⟩,⟨a2,n2,d2⟩⟩:=s
    simp only at *
    have hkk:(mk.toList == mk.toList)=true:=by simp
    go_wp2_with fail
    refine wp_region_held_drew (S:=(fun w'=>w'.cell? ⟨P,j*3,none⟩=some (.string mk))) (by kernel_rfl) c0 (fun hS0=>?_)
    refine tkm 0 12 (.slice (some ⟨P,0,none⟩) n cap) ?_
    refine tkm 1 13 (.int .i64 j) ?_
    refine tkm 2 14 (.pointer (some ⟨P,j*3,none⟩)) ?_
    refine tkm 3 15 (.pointer (some ⟨P,j*3,none⟩)) ?_
    refine tkm 4 16 (.string mk) ?_
    refine tkm 5 17 (.int .i64 ((k:Int)+c)) ?_
    refine tkr 6 18 (fun K hK=>?_)
    go_simp
    refine (kM _).mono ?_
    rintro e w1 ⟨rfl,hb⟩
    go_wp2_with fail
    refine hK.out _ _ ?_ (fun hS1=>?_)
    ·exact cells_kept hb _ _ hS0
    clear hK
    refine tkm 7 19 (.bool false) ?_
    refine wpAnyH_done (by kernel_rfl) ?_ _
    have hbb:Below wr.heap.size wr w1:=bel8 (by go_grown) hb
    replace bw:=bel8 bw hbb
    replace c1:=cell8 hbb c1
    replace c2:=cell8 hbb c2
    have kB:=heldBugS_any B (.slice a1 n1 d1) ((k:Int)+c+1) xb w1 (by omega) (by omega) r1 (owns8 q1 hbb)
    have kF:=heldAny8 B (.slice a2 n2 d2) ((k:Int)+c+1+xb.length*3) xz w1 (by omega) (by omega) r2 (owns8 q2 hbb)
    clear hb hbb hS0 hS1 c0 q1 q2 kM
    have g1:decide ((k:Int)+c+1+xb.length*3<0)=false:=by simp;omega
    have g2:decide ((k:Int)+c+1+xb.length*3+xz.length<0)=false:=by simp;omega
    have HK:Hid ((k:Int)+c+1+xb.length*3+xz.length=(k:Int)+cntM es (j+1)):=by rw [Hid,HS.out,cntE];simp only;omega
    clear HS
    go_wp2_with fail
    refine kB.mono ?_
    rintro e W2 ⟨rfl,rfl⟩
    go_wp2_with fail
    refine kF.mono ?_
    rintro e W2 ⟨rfl,rfl⟩
    clear kB kF c1 c2
    go_wp2
    go_roundw
    case rel=>exact ⟨j+1,by omega,by go_num,by rw [← HK.out],bw⟩
    case measure=>simp [intOf];omega
   ·obtain rfl:j=n:=by omega
    go_wp2
    go_ret
    exact ⟨rfl,bw⟩

theorem heldMemo_own (B:Nat) (v:Value) (k:Nat) (es:List E3) (w:World) (hk0:0<k) (hk:k≤100000000) (hcj:∀ j,j≤es.length→cntM es j≤10000000) (hr:∀ t,t<es.length→(es.getD t e3d).2.1.length≤1048576∧(es.getD t e3d).2.2.length≤1048576) (h:OwnM w B v (mkM k es es.length)) :
  Calls Tryd.prog 16 #[.agg #[v],.int .i64 k] w fun e w'=>e=.returned (.int .i64 (k+cntM es es.length))∧Below w.heap.size w w':=by
 obtain ⟨a,cap,rfl⟩:∃ a cap,v=.slice a (mkM k es es.length).length cap:=by obtain ⟨cs,h1,_⟩:=h;exact slice8 h1
 have kE:=fun W (hb:Below w.heap.size w W)=>heldEntryS_own B _ k es W hk0 hk hcj hr (h.below hb)
 have bw:Below w.heap.size w (w.alloc (.cells #[.slice a (mkM k es es.length).length cap] 33)):=by go_grown
 have hc:=hcj es.length (Nat.le_refl _)
 have g1:decide ((k:Int)+cntM es es.length<0)=false:=by simp;omega
 generalize (mkM k es es.length).length=nn at *
 go_enter Tryd.func16,Tryd.ntmps16
 go_wp2_with fail
 refine (kE _ bw).mono ?_
 rintro e w1 ⟨rfl,hb⟩
 replace bw:=bel8 bw hb
 clear hb kE
 go_wp2
 go_ret
 exact ⟨rfl,bw⟩
end Go.Proofs.YthlcdhddickdiaaDoor
