/-
  Joined: Ent7.
-/
import Derived.Test.YthmgampabhbpoaaDoorD19

namespace Go.Proofs.YthmgampabhbpoaaDoor
set_option maxRecDepth 100000
set_option maxHeartbeats 16000000
open Go.RowKit
set_option linter.unusedVariables false
set_option linter.unusedSimpArgs false

theorem own_ne_blk9' {w:World} {B e s n g t:Nat} {v:Value} {xs cs:List Value} (h:w.ownsRow B e s v n xs) (hB:Blk w g t cs) (he:e≠t):v.ownBlock≠some g:=by
 rcases h.2 with ⟨rfl,_⟩ | ⟨g',cap,cur,rfl,_,hh,_⟩
 ·simp [Value.ownBlock]
 ·simp only [Value.ownBlock,ne_eq,Option.some.injEq]
  rintro rfl
  unfold Blk at hB
  rw [hh] at hB
  simp at hB
  exact he hB.2
theorem markMemo_own (B T:Nat) (v:Value) (k:Nat) (es:List E3) (w:World) (hk0:0<k) (hk:k≤100000000) (hcj:∀ j,j≤es.length→cntM es j≤10000000) (hr:∀ t,t<es.length→(es.getD t e3d).2.1.length≤1048576∧(es.getD t e3d).2.2.length≤1048576) (hB:B≤w.heap.size) (h:OwnMT w B T v es) :
  Calls Tryd.prog 22 #[.agg #[v],.int .i64 k] w fun e w'=>e=.returned (.int .i64 (k+cntM es es.length))∧OwnMT w' B T v (mkM k es es.length)∧Mid9 B T w w':=by
 obtain ⟨a,cap,rfl⟩:∃ a cap,v=.slice a es.length cap:=by obtain ⟨cs,h1,_⟩:=h;exact slice8 h1
 have kE:=fun W (hb:Below w.heap.size w W)=>markEntryS_own B T _ k es W hk0 hk hcj hr (h.below hb)
 have bw:Below w.heap.size w (w.alloc (.cells #[.slice a es.length cap] 41)):=by go_grown
 go_enter Tryd.func22,Tryd.ntmps22
 go_wp2_with fail
 refine (kE _ bw).mono ?_
 rintro e w1 ⟨rfl,h1,hm⟩
 have hm2:=hm.after bw hB
 clear hm kE
 go_wp2
 go_ret
 exact ⟨rfl,h1,hm2⟩

def OwnET (w:World) (B T:Nat) (vb vf:Value) (e:E3):Prop:=OwnE w B vb vf e∧(∀ x,vb.ownBlock=some x→x<T)∧∀ x,vf.ownBlock=some x→x<T
theorem OwnET.below {w w':World} {B T:Nat} {vb vf:Value} {e:E3} (h:OwnET w B T vb vf e) (hb:Below w.heap.size w w'):OwnET w' B T vb vf e:=⟨h.1.below hb,h.2⟩
theorem OwnE.top9 {w:World} {B:Nat} {vb vf:Value} {e:E3} (h:OwnE w B vb vf e):OwnET w B w.heap.size vb vf e:=⟨h,fun x hx=>(h.1.lt x hx).2,fun x hx=>(h.2.lt x hx).2⟩
theorem OwnET.mid {B T B' T':Nat} {w w':World} {vb vf:Value} {e:E3} (h:OwnET w B' T' vb vf e) (hm:Mid9 B T w w') (hT:T≤B'):OwnET w' B' T' vb vf e:=⟨⟨hm.owns h.1.1 hT,hm.owns h.1.2 hT⟩,h.2⟩
def mkF (k:Nat) (e:E3):E3:=(e.1,mkI (k:Int) e.2.1 e.2.1.length,mkTo ((k:Int)+e.2.1.length*3) e.2.2 e.2.2.length)

theorem markEntry_own (B T:Nat) (s:Sl2) (k:Nat) (e:E3) (w:World) (hk:k≤100000000) (h1:e.2.1.length≤1048576) (h2:e.2.2.length≤1048576) (hB:B≤w.heap.size) (h:OwnET w B T (.slice s.1.1 s.1.2.1 s.1.2.2) (.slice s.2.1 s.2.2.1 s.2.2.2) e) :
  Calls Tryd.prog 23 #[entV e.1 s,.int .i64 k] w fun x w'=>x=.returned (.int .i64 ((k:Int)+e.2.1.length*3+e.2.2.length))∧OwnET w' B T (.slice s.1.1 s.1.2.1 s.1.2.2) (.slice s.2.1 s.2.2.1 s.2.2.2) (mkF k e)∧Mid9 B T w w':=by
 obtain ⟨⟨a1,n1,c1⟩,⟨a2,n2,c2⟩⟩:=s
 obtain ⟨ek,eb,ez⟩:=e
 unfold entV mkF
 simp only at *
 have bw:Below w.heap.size w (w.alloc (.cells #[.string ek,.slice a1 n1 c1,.slice a2 n2 c2] 30)):=by go_grown
 have pA:Blk (w.alloc (.cells #[.string ek,.slice a1 n1 c1,.slice a2 n2 c2] 30)) w.heap.size 30 [.string ek,.slice a1 n1 c1,.slice a2 n2 c2]:=blkAt _ _ _ rfl
 have hm:Mid9 B T w (w.alloc (.cells #[.string ek,.slice a1 n1 c1,.slice a2 n2 c2] 30)):=(Mid9.refl B T w).bel bw hB
 replace h:=h.below bw
 have hs:B≤(w.alloc (.cells #[.string ek,.slice a1 n1 c1,.slice a2 n2 c2] 30)).heap.size:=Nat.le_trans hB bw.size
 go_enter Tryd.func23,Tryd.ntmps23
 go_wp2_with fail
 generalize (w.alloc (.cells #[.string ek,.slice a1 n1 c1,.slice a2 n2 c2] 30))=U at *
 obtain ⟨⟨q1,q2⟩,t1,t2⟩:=h
 simp only at q1 q2
 refine (markBugS_any B (.slice a1 n1 c1) k eb U (by omega) (by omega) h1 q1).mono ?_
 rintro x W2 ⟨rfl,hrow,hg⟩
 have hm2:=hm.step hg hs (fun y hy=>(q1.lt y hy).1) t1
 have pA2:=pA.kept hg (own_ne_blk9' q1 pA (by decide))
 have q2':=q2.kept hg (owns_ne q2 q1 (by decide))
 have hs2:B≤W2.heap.size:=Nat.le_trans hB hm2.1.size
 clear hg hm pA q1 q2 hs
 have y2:=pA2.cell 2
 simp only [List.getElem?_cons_zero,List.getElem?_cons_succ] at y2
 go_wp2_with fail
 refine (markAny8 B (.slice a2 n2 c2) ((k:Int)+eb.length*3) ez W2 (by omega) (by omega) h2 q2').mono ?_
 rintro x W3 ⟨rfl,hrow2,hg⟩
 have hm3:=hm2.step hg hs2 (fun y hy=>(q2'.lt y hy).1) t2
 have hrow':=hrow.kept hg (owns_ne hrow q2' (by decide))
 clear hg hm2 pA2 q2' hs2 hrow y2
 have hfin:OwnET W3 B T (.slice a1 n1 c1) (.slice a2 n2 c2) (ek,mkI (k:Int) eb eb.length,mkTo ((k:Int)+eb.length*3) ez ez.length):=by
  refine ⟨⟨?_,?_⟩,t1,t2⟩
  ·simp only
   rw [mkI_len]
   exact hrow'
  ·simp only
   rw [mkTo_len]
   exact hrow2
 clear hrow' hrow2
 go_wp2
 go_ret
 exact ⟨rfl,hfin,hm3⟩

theorem heldEntry_own (B:Nat) (s:Sl2) (k:Nat) (e:E3) (w:World) (hk:k≤100000000) (h1:e.2.1.length≤1048576) (h2:e.2.2.length≤1048576) (h:OwnE w B (.slice s.1.1 s.1.2.1 s.1.2.2) (.slice s.2.1 s.2.2.1 s.2.2.2) (mkF k e)) (key:ByteArray) :
  Calls Tryd.prog 24 #[entV key s,.int .i64 k] w fun x w'=>x=.returned (.int .i64 ((k:Int)+e.2.1.length*3+e.2.2.length))∧Below w.heap.size w w':=by
 obtain ⟨⟨a1,n1,c1⟩,⟨a2,n2,c2⟩⟩:=s
 obtain ⟨ek,eb,ez⟩:=e
 unfold mkF at h
 obtain ⟨q1,q2⟩:=h
 simp only at *
 rw [mkI_len] at q1
 rw [mkTo_len] at q2
 unfold entV
 simp only
 have bw:Below w.heap.size w (w.alloc (.cells #[.string key,.slice a1 n1 c1,.slice a2 n2 c2] 30)):=by go_grown
 have kB:=heldBugS_any B (.slice a1 n1 c1) k eb _ (by omega) (by omega) h1 (owns8 q1 bw)
 have kF:=heldAny8 B (.slice a2 n2 c2) ((k:Int)+eb.length*3) ez _ (by omega) (by omega) h2 (owns8 q2 bw)
 have n1':decide ((k:Int)+eb.length*3<0)=false:=by simp;omega
 have n2':decide ((k:Int)+eb.length*3+ez.length<0)=false:=by simp;omega
 clear q1 q2
 go_enter Tryd.func24,Tryd.ntmps24
 go_wp2_with fail
 refine kB.mono ?_
 rintro x W2 ⟨rfl,rfl⟩
 go_wp2_with fail
 refine kF.mono ?_
 rintro x W2 ⟨rfl,rfl⟩
 go_wp2
 go_ret
 exact ⟨rfl,bw⟩

end Go.Proofs.YthmgampabhbpoaaDoor
