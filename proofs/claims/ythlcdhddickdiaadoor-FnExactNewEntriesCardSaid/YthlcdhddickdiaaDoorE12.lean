/-
  Joined: CopyG, Ent2.
-/
import Derived.Laws.CopyOwn
import Derived.Laws.Tables
import Derived.Test.YthlcdhddickdiaaDoorE06
import Derived.Test.YthlcdhddickdiaaDoorE11

namespace Go.Proofs.YthlcdhddickdiaaDoor
set_option maxRecDepth 100000
set_option maxHeartbeats 16000000
open Go.RowKit

theorem blkAt {g:Nat} (w:World) (t:Nat) (cs:List Value) (h:g=w.heap.size):Blk (w.alloc (.cells cs.toArray t)) g t cs:=by
 subst h
 exact Blk.new w t cs
theorem blkOld {g t:Nat} {cs:List Value} {w:World} (o:Obj) (h:Blk w g t cs):Blk (w.alloc o) g t cs:=(Below.heap_alloc w o g h.lt).trans h
theorem grown_setRow (w:World) (g:Nat) (cs:Array Value):w.grownBy (w.setRow g cs) (some g):=
 ⟨rfl,rfl,rfl,by simp [World.setRow],fun k _ hk=>setRow_other w g k cs (fun e=>hk (by rw [e]))⟩

theorem Blk.kept {w w':World} {g t:Nat} {cs:List Value} {r:Option Nat} (h:Blk w g t cs) (hg:w.grownBy w' r) (hr:r≠some g):Blk w' g t cs:=(hg.block g h.lt (Ne.symm hr)).trans h
theorem load_blk {P:Program} {w:World} {g t:Nat} {cs:List Value} (ty:TypeId) (d:TypeDesc) (h:Blk w g t cs) (hu:P.underlying ty=some d) (hd:(match d with | .struct _ | .array _ _=>true | _=>false)=true) (hi:(P.info? ty).map (·.size)=some cs.length) :
  (loadVar ty ⟨g,0,none⟩).run P w=.ok (.agg cs.toArray) w:=run_loadVar_row w g t ty cs.toArray (0,0) d h hu hd (by simpa using hi)
theorem blk_setRow {w:World} {g t:Nat} {cs:List Value} (vs:List Value) (h:Blk w g t cs):Blk (w.setRow g vs.toArray) g t vs:=setRow_heap w g _ _ t _ h

section
variable {P : Program} {ops : Array Oper} {rest : List Oper} {o : Oper} {a : Act} {w : World} {Q : Exit → Act → World → Prop}
theorem wpList_load_blk (hgd:o.guard=none) (ty:TypeId) (x:Operand) (ho:o.op=.load ty x) (g:Nat) (hx:a.eval x=.pointer (some ⟨g,0,none⟩)) {t:Nat} {cs:List Value} (hB:Blk w g t cs) (d:TypeDesc)
  (hu:P.underlying ty=some d) (hd:(match d with | .struct _ | .array _ _=>true | _=>false)=true) (hi:(P.info? ty).map (·.size)=some cs.length)
  (h:wpList P ops Q rest (a.put o.dst (.agg cs.toArray)) w):wpList P ops Q (o::rest) a w:=
 wpList_load_row hgd ty x ho g hx t cs.toArray (0,0) d hB hu hd (by simpa using hi) h
theorem wpList_store_blk (hgd:o.guard=none) (ty:TypeId) (x y:Operand) (ho:o.op=.store ty x y) (g:Nat) (vs:List Value) (hx:a.eval x=.pointer (some ⟨g,0,none⟩)) (hy:a.eval y=.agg vs.toArray) {t:Nat} {cs:List Value} (hB:Blk w g t cs)
  (hi:(P.info? ty).map (·.size)=some vs.length) (hl:cs.length=vs.length) (h1:vs.all (·.oneCell')=true)
  (h:∀ w',Hid (Blk w' g t vs)→w.grownBy w' (some g)→wpList P ops Q rest (a.put o.dst undef) w'):wpList P ops Q (o::rest) a w:=
 wpList_store_row hgd ty x y ho g vs.toArray hx hy t cs.toArray hB (by simpa using hi) (by simpa using hl) (by simpa using h1) (h _ (blk_setRow vs hB) (grown_setRow _ _ _))
end

section
variable {P : Program} {fn : Func} {p q r : Tmp} {ty : TypeId}
theorem results_blk2 (h:fn.results=#[.cell p ty,.tmp q]) (tmps:Array Value) (w:World) (g t:Nat) (cs:List Value) (d:TypeDesc) (hp:tmps.getD p undef=.pointer (some ⟨g,0,none⟩)) (hB:Blk w g t cs)
  (hu:P.underlying ty=some d) (hd:(match d with | .struct _ | .array _ _=>true | _=>false)=true) (hi:(P.info? ty).map (·.size)=some cs.length) :
  (results fn tmps).run P w=.ok (.tuple #[.agg cs.toArray,tmps.getD q undef]) w:=by
 have hp':tmps[p]?.getD undef=.pointer (some ⟨g,0,none⟩):=by simpa using hp
 simp [results,h,hp',asAddr,load_blk ty d hB hu hd hi]
end

set_option linter.unusedVariables false
set_option linter.unusedSimpArgs false

def OwnE (w:World) (B:Nat) (vb vf:Value) (e:E3):Prop:=w.ownsRow B 93 3 vb e.2.1.length (flat e.2.1)∧w.ownsRow B 3 1 vf e.2.2.length (e.2.2.map (Value.int .i64))
theorem OwnE.below {w w':World} {B:Nat} {vb vf:Value} {e:E3} (h:OwnE w B vb vf e) (hb:Below w.heap.size w w'):OwnE w' B vb vf e:=⟨owns8 h.1 hb,owns8 h.2 hb⟩
theorem OwnE.lower {w:World} {B B':Nat} {vb vf:Value} {e:E3} (h:OwnE w B vb vf e) (hB:B'≤B):OwnE w B' vb vf e:=⟨lower8 h.1 hB,lower8 h.2 hB⟩
theorem OwnE.slices {w:World} {B:Nat} {vb vf:Value} {e:E3} (h:OwnE w B vb vf e):∃ s:Sl2,vb=.slice s.1.1 s.1.2.1 s.1.2.2∧vf=.slice s.2.1 s.2.2.1 s.2.2.2:=by
 obtain ⟨a,c,e1⟩:=slice8 h.1
 obtain ⟨a',c',e2⟩:=slice8 h.2
 exact ⟨((a,_,c),(a',_,c')),e1,e2⟩
theorem Instrs.of_ownB9 {w:World} {B:Nat} {v:Value} {xs:List I3} (h:w.ownsRow B 93 3 v xs.length (flat xs)) (hf:∀ x ∈ xs,I3.fits x):∃ a cap,v=.slice a xs.length cap∧Instrs w a xs.length cap xs:=by
 rcases h.2 with ⟨hv,h0⟩ | ⟨g,cap,cur,hv,_⟩
 ·obtain rfl:xs=[]:=List.eq_nil_of_length_eq_zero h0
  exact ⟨none,0,hv,rfl,Nat.le_refl _,by unfold maxLen;omega,by simp,.inl rfl⟩
 ·subst hv
  exact ⟨_,_,rfl,Instrs.of_owns h rfl hf rfl⟩
def E3.fits (e:E3):Prop:=e.1.size≤maxLen∧(∀ x ∈ e.2.1,I3.fits x)∧∀ z ∈ e.2.2,(Lit.int .i64 z).wf=true
theorem Emem.fits {w:World} {s:Sl2} {e:E3} (h:Emem w s e):e.fits:=⟨h.1.1,h.2.1.2.2.2.1,h.2.2.2⟩
theorem own_nil0 {w:World} {B e s n:Nat} {a:Option Addr} {m c:Nat} {xs:List Value} (h:w.ownsRow B e s (.slice a m c) n xs):a=none→c=0:=by
 rcases h.2 with ⟨hv,_⟩ | ⟨g,cap,cur,hv,_⟩
 ·injection hv with e1 e2 e3
  exact fun _=>e3
 ·injection hv with e1 e2 e3
  intro ha
  rw [ha] at e1
  cases e1
theorem OwnE.mem {w:World} {B:Nat} {s:Sl2} {e:E3} (h:OwnE w B (.slice s.1.1 s.1.2.1 s.1.2.2) (.slice s.2.1 s.2.2.1 s.2.2.2) e) (hf:e.fits):Emem w s e:=by
 obtain ⟨⟨a1,n1,c1⟩,⟨a2,n2,c2⟩⟩:=s
 obtain ⟨h1,h2⟩:=h
 simp only at h1 h2
 refine ⟨⟨hf.1,own_nil0 h1,own_nil0 h2⟩,?_,?_,hf.2.2⟩
 ·obtain ⟨a,cap,hv,hI⟩:=Instrs.of_ownB9 h1 hf.2.1
  injection hv with e1 e2 e3
  subst e1 e2 e3
  exact hI
 ·obtain ⟨a,cap,hv⟩:=slice8 h2
  injection hv with e1 e2 e3
  subst e1 e2 e3
  exact ints8 h2

theorem toIntS_own9 (a:Option Addr) (len cap:Nat) (zs:List Int) (w:World) (h:Ints .i64 w a len cap zs) (hlen:len≤1048576) :
  Calls Tryd.prog 35 #[.slice a len cap] w fun e w'=>(∃ g c,e=.returned (.slice g len c)∧w'.ownsRow w.heap.size 3 1 (.slice g len c) len (zs.map (Value.int .i64)))∧Below w.heap.size w w':=by
 refine (to8 a len cap zs w h hlen).mono ?_
 rintro e w' ⟨rfl,⟨g,rfl,q⟩,hb⟩
 exact ⟨⟨_,_,rfl,q⟩,hb⟩

theorem toEntry_own (e:E3) (s:Sl2) (w:World) (h:Emem w s e) (h1:e.2.1.length≤1048576) (h2:e.2.2.length≤1048576) :
  Calls Tryd.prog 10 #[entV e.1 s] w fun x w'=>(∃ s',x=.returned (entV e.1 s')∧OwnE w' w.heap.size (.slice s'.1.1 s'.1.2.1 s'.1.2.2) (.slice s'.2.1 s'.2.2.1 s'.2.2.2) e)∧Below w.heap.size w w':=by
 obtain ⟨⟨hk,_⟩,hB,hF,hfw⟩:=h
 have l1:=hB.1
 have l2:=hF.1
 obtain ⟨k,bs,zs⟩:=e
 obtain ⟨⟨a1,n1,c1⟩,⟨a2,n2,c2⟩⟩:=s
 unfold entV
 simp only at *
 rw [l1] at h1
 rw [l2] at h2
 have kB:=fun W (hb:Below w.heap.size w W)=>toBugS_copy a1 n1 c1 bs W (hB.below hb) h1
 have kF:=fun W (hb:Below w.heap.size w W)=>toIntS_own9 a2 n2 c2 zs W (hF.below hb) h2
 clear hB hF
 go_enter Tryd.func10,Tryd.ntmps10
 have bw:Below w.heap.size w (((w.alloc (.cells #[.string k,.slice a1 n1 c1,.slice a2 n2 c2] 28)).alloc (.cells #[.string ⟨#[]⟩,.slice none 0 0,.slice none 0 0] 39)).alloc (.cells #[.string k,.slice none 0 0,.slice none 0 0] 39)):=by go_grown
 have pA:Blk (((w.alloc (.cells #[.string k,.slice a1 n1 c1,.slice a2 n2 c2] 28)).alloc (.cells #[.string ⟨#[]⟩,.slice none 0 0,.slice none 0 0] 39)).alloc (.cells #[.string k,.slice none 0 0,.slice none 0 0] 39)) w.heap.size 28 [.string k,.slice a1 n1 c1,.slice a2 n2 c2]:=blkOld _ (blkOld _ (blkAt _ _ _ rfl))
 have pR:Blk (((w.alloc (.cells #[.string k,.slice a1 n1 c1,.slice a2 n2 c2] 28)).alloc (.cells #[.string ⟨#[]⟩,.slice none 0 0,.slice none 0 0] 39)).alloc (.cells #[.string k,.slice none 0 0,.slice none 0 0] 39)) (w.heap.size+1) 39 [.string ⟨#[]⟩,.slice none 0 0,.slice none 0 0]:=blkOld _ (blkAt _ _ _ (by simp))
 have pO:Blk (((w.alloc (.cells #[.string k,.slice a1 n1 c1,.slice a2 n2 c2] 28)).alloc (.cells #[.string ⟨#[]⟩,.slice none 0 0,.slice none 0 0] 39)).alloc (.cells #[.string k,.slice none 0 0,.slice none 0 0] 39)) (w.heap.size+1+1) 39 [.string k,.slice none 0 0,.slice none 0 0]:=blkAt _ _ _ (by simp)
 go_wp2_with fail
 refine (kB _ bw).mono ?_
 generalize (((w.alloc (.cells #[.string k,.slice a1 n1 c1,.slice a2 n2 c2] 28)).alloc (.cells #[.string ⟨#[]⟩,.slice none 0 0,.slice none 0 0] 39)).alloc (.cells #[.string k,.slice none 0 0,.slice none 0 0] 39))=U at *
 rintro x w1 ⟨rfl,⟨cs,rfl,qB⟩,hb⟩
 have hU:w.heap.size+1+1<U.heap.size:=pO.lt
 replace bw:=bel8 bw hb
 replace pA:=pA.below hb
 replace pR:=pR.below hb
 replace pO:=pO.below hb
 clear hb kB
 have u1:=pO.cell 1
 have f1:=pO.frozen 1
 simp only [List.getElem?_cons_zero,List.getElem?_cons_succ] at u1
 replace qB:=lower8 qB (show w.heap.size+1+1+1≤U.heap.size by omega)
 clear hU
 generalize U.heap.size=gb at *
 replace qB:=ownsRow_setCell_below qB (a:=⟨w.heap.size+1+1,1,none⟩) (show w.heap.size+1+1<w.heap.size+1+1+1 by omega) (.slice (some ⟨gb,0,none⟩) n1 n1)
 replace bw:=bw.setCell (p:=⟨w.heap.size+1+1,1,none⟩) (show w.heap.size≤w.heap.size+1+1 by omega) (.slice (some ⟨gb,0,none⟩) n1 n1)
 replace pA:=pA.off ⟨w.heap.size+1+1,1,none⟩ (.slice (some ⟨gb,0,none⟩) n1 n1) (by simp;omega)
 replace pR:=pR.off ⟨w.heap.size+1+1,1,none⟩ (.slice (some ⟨gb,0,none⟩) n1 n1) (by simp)
 replace pO:=pO.set 1 (.slice (some ⟨gb,0,none⟩) n1 n1)
 simp only [List.set_cons_zero,List.set_cons_succ] at pO
 have y2:=pA.cell 2
 simp only [List.getElem?_cons_zero,List.getElem?_cons_succ] at y2
 go_wp2_with fail
 refine (kF _ bw).mono ?_
 generalize (w1.setCell ⟨w.heap.size+1+1,1,none⟩ (.slice (some ⟨gb,0,none⟩) n1 n1))=U2 at *
 rintro x w2 ⟨⟨ga,gc,rfl,qF⟩,hb⟩
 have hU:w.heap.size+1+1<U2.heap.size:=pO.lt
 replace bw:=bel8 bw hb
 replace pR:=pR.below hb
 replace pO:=pO.below hb
 replace qB:=owns8 qB hb
 clear hb kF y2 u1 f1 pA
 have u2:=pO.cell 2
 have f2:=pO.frozen 2
 simp only [List.getElem?_cons_zero,List.getElem?_cons_succ] at u2
 replace qF:=lower8 qF (show w.heap.size+1+1+1≤U2.heap.size by omega)
 clear hU
 replace qB:=ownsRow_setCell_below qB (a:=⟨w.heap.size+1+1,2,none⟩) (show w.heap.size+1+1<w.heap.size+1+1+1 by omega) (.slice ga n2 gc)
 replace qF:=ownsRow_setCell_below qF (a:=⟨w.heap.size+1+1,2,none⟩) (show w.heap.size+1+1<w.heap.size+1+1+1 by omega) (.slice ga n2 gc)
 replace bw:=bw.setCell (p:=⟨w.heap.size+1+1,2,none⟩) (show w.heap.size≤w.heap.size+1+1 by omega) (.slice ga n2 gc)
 replace pR:=pR.off ⟨w.heap.size+1+1,2,none⟩ (.slice ga n2 gc) (by simp)
 replace pO:=pO.set 2 (.slice ga n2 gc)
 simp only [List.set_cons_zero,List.set_cons_succ] at pO
 have o0:=pO.cell 0
 have o1:=pO.cell 1
 have o2:=pO.cell 2
 have r0:=pR.cell 0
 have r1:=pR.cell 1
 have r2:=pR.cell 2
 have fr0:=pR.frozen 0
 have fr1:=pR.frozen 1
 have fr2:=pR.frozen 2
 simp only [List.getElem?_cons_zero,List.getElem?_cons_succ] at o0 o1 o2 r0 r1 r2
 clear pO
 have pZ:=((pR.set 0 (.string k)).set 1 (.slice (some ⟨gb,0,none⟩) n1 n1)).set 2 (.slice ga n2 gc)
 simp only [List.set_cons_zero,List.set_cons_succ] at pZ
 have z0:=pZ.cell 0
 have z1:=pZ.cell 1
 have z2:=pZ.cell 2
 simp only [List.getElem?_cons_zero,List.getElem?_cons_succ] at z0 z1 z2
 have bz:=((bw.setCell (p:=⟨w.heap.size+1,0,none⟩) (show w.heap.size≤w.heap.size+1 by omega) (.string k)).setCell (p:=⟨w.heap.size+1,1,none⟩) (show w.heap.size≤w.heap.size+1 by omega) (.slice (some ⟨gb,0,none⟩) n1 n1)).setCell (p:=⟨w.heap.size+1,2,none⟩) (show w.heap.size≤w.heap.size+1 by omega) (.slice ga n2 gc)
 replace qB:=ownsRow_setCell_below (ownsRow_setCell_below (ownsRow_setCell_below qB (a:=⟨w.heap.size+1,0,none⟩) (show w.heap.size+1<w.heap.size+1+1+1 by omega) (.string k)) (a:=⟨w.heap.size+1,1,none⟩) (show w.heap.size+1<w.heap.size+1+1+1 by omega) (.slice (some ⟨gb,0,none⟩) n1 n1)) (a:=⟨w.heap.size+1,2,none⟩) (show w.heap.size+1<w.heap.size+1+1+1 by omega) (.slice ga n2 gc)
 replace qF:=ownsRow_setCell_below (ownsRow_setCell_below (ownsRow_setCell_below qF (a:=⟨w.heap.size+1,0,none⟩) (show w.heap.size+1<w.heap.size+1+1+1 by omega) (.string k)) (a:=⟨w.heap.size+1,1,none⟩) (show w.heap.size+1<w.heap.size+1+1+1 by omega) (.slice (some ⟨gb,0,none⟩) n1 n1)) (a:=⟨w.heap.size+1,2,none⟩) (show w.heap.size+1<w.heap.size+1+1+1 by omega) (.slice ga n2 gc)
 clear pR pZ bw
 go_wp2
 refine bodyPost_ret (by simp [results,Tryd.results10,go_sem,z0,z1,z2];try rfl) rfl ?_
 refine ⟨⟨((some ⟨gb,0,none⟩,n1,n1),(ga,n2,gc)),rfl,?_,?_⟩,bz⟩
 ·rw [l1]
  exact lower8 qB (by omega)
 ·rw [l2]
  exact lower8 qF (by omega)
end Go.Proofs.YthlcdhddickdiaaDoor
