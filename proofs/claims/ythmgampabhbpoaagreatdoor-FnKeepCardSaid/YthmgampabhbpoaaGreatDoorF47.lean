/-
  Joined: FdeI, VmLaid, RowBelow.
-/
import Derived.Test.YthmgampabhbpoaaGreatDoorRows
import Derived.ProofKit
import Derived.OpenShut
import Derived.LaidMore
import Derived.MakeChecks
import Derived.Stop.LaidErr
import Derived.Test.YthmgampabhbpoaaGreatDoorF46

namespace Go.Proofs.YthmgampabhbpoaaGreatDoor
set_option maxRecDepth 100000
set_option maxHeartbeats 16000000
open Go.RowKit
set_option linter.unusedVariables false
set_option linter.unusedSimpArgs false

def fdeE (es:List E3) (key:ByteArray):E3:=if key.size≤65536∧memOk es=true∧isE es key=true then es.getD (plcE es key) e3d else e3d
def fdeC (es:List E3) (key:ByteArray):Int:=if 65536<key.size then 2 else if memOk es=true then (if isE es key=true then 0 else 5) else 1
def EntGotC (x:Ending) (w':World) (B:Nat) (e:E3) (c:Int):Prop:=∃ s:Sl2,x=.returned (.tuple #[entV e.1 s,.int .i64 c])∧OwnE w' B (.slice s.1.1 s.1.2.1 s.1.2.2) (.slice s.2.1 s.2.2.1 s.2.2.2) e
theorem EntGotC.mk9 {w':World} {B:Nat} {e:E3} {c:Int} (s:Sl2) (h:OwnE w' B (.slice s.1.1 s.1.2.1 s.1.2.2) (.slice s.2.1 s.2.2.1 s.2.2.2) e):EntGotC (.returned (.tuple #[entV e.1 s,.int .i64 c])) w' B e c:=⟨s,rfl,h⟩
theorem EntGotC.nil9 {w':World} {B:Nat} {c:Int}:EntGotC (.returned (.tuple #[.agg #[.string ⟨#[]⟩,.slice none 0 0,.slice none 0 0],.int .i64 c])) w' B e3d c:=⟨((none,0,0),(none,0,0)),rfl,OwnE.nil9 _ _ _⟩

theorem implFindEntry_is (a:Option Addr) (n cap:Nat) (es:List E3) (key:ByteArray) (w:World) (h:Ents w a n cap es) (hk:key.size≤1048576) (hV:VmShape w) :
  Calls Tryz.prog 10 #[.agg #[.slice a n cap],.string key] w fun e w'=>EntGotC e w' w.heap.size (fdeE es key) (fdeC es key)∧Below w.heap.size w w':=by
 have hl:=h.1
 have bw:Below w.heap.size w ((w.alloc (.cells #[.slice a n cap] 25)).alloc (.cells #[.string ⟨#[]⟩,.slice none 0 0,.slice none 0 0] 33)):=by go_grown
 have pM:Blk ((w.alloc (.cells #[.slice a n cap] 25)).alloc (.cells #[.string ⟨#[]⟩,.slice none 0 0,.slice none 0 0] 33)) w.heap.size 25 [.slice a n cap]:=blkOld _ (blkAt _ _ _ rfl)
 have pR:Blk ((w.alloc (.cells #[.slice a n cap] 25)).alloc (.cells #[.string ⟨#[]⟩,.slice none 0 0,.slice none 0 0] 33)) (w.heap.size+1) 33 [.string ⟨#[]⟩,.slice none 0 0,.slice none 0 0]:=blkAt _ _ _ (by simp)
 have g0:=pM.cell 0
 simp only [List.getElem?_cons_zero] at g0
 have kM:=fun W (hb:Below w.heap.size w W)=>implMemoOK_is a n cap es W (h.below hb) (hV.below hb)
 unfold fdeE fdeC
 by_cases h1:65536<key.size
 ·rw [if_neg (by omega),if_pos h1]
  have h2:(65536:Int)<(key.size:Int):=by omega
  clear kM g0
  go_enter Tryz.func10,Tryz.ntmps10
  have r0:=pR.cell 0
  have r1:=pR.cell 1
  have r2:=pR.cell 2
  have fr0:=pR.frozen 0
  have fr1:=pR.frozen 1
  have fr2:=pR.frozen 2
  have pZ:=((pR.set 0 (.string ⟨#[]⟩)).set 1 (.slice none 0 0)).set 2 (.slice none 0 0)
  simp only [List.set_cons_zero,List.set_cons_succ] at pZ
  have z0:=pZ.cell 0
  have z1:=pZ.cell 1
  have z2:=pZ.cell 2
  simp only [List.getElem?_cons_zero,List.getElem?_cons_succ] at z0 z1 z2 r0 r1 r2
  have hle:w.heap.size≤w.heap.size+1:=by omega
  have bz:=((bw.setCell (p:=⟨w.heap.size+1,0,none⟩) hle (.string ⟨#[]⟩)).setCell (p:=⟨w.heap.size+1,1,none⟩) hle (.slice none 0 0)).setCell (p:=⟨w.heap.size+1,2,none⟩) hle (.slice none 0 0)
  clear pZ pR pM
  go_wp2
  refine bodyPost_ret (by simp [results,Tryz.results10,go_sem,z0,z1,z2];try rfl) rfl ?_
  first | exact ⟨EntGotC.nil9,bz⟩ | exact ⟨EntGotC.nil9,by go_grown⟩
 ·have h2:¬ (65536:Int)<(key.size:Int):=by omega
  rw [if_neg h1]
  cases hok:memOk es
  ·rw [if_neg (by simp),if_neg (by simp)]
   rw [hok] at kM
   clear hok
   go_enter Tryz.func10,Tryz.ntmps10
   go_wp2_with fail
   generalize ((w.alloc (.cells #[.slice a n cap] 25)).alloc (.cells #[.string ⟨#[]⟩,.slice none 0 0,.slice none 0 0] 33))=U at *
   refine (kM _ bw).mono ?_
   rintro e w1 ⟨rfl,hb⟩
   replace bw:=bel8 bw hb
   replace pR:=pR.below hb
   replace pM:=pM.below hb
   replace g0:=pM.cell 0
   simp only [List.getElem?_cons_zero] at g0
   clear hb kM
   clear g0
   have r0:=pR.cell 0
   have r1:=pR.cell 1
   have r2:=pR.cell 2
   have fr0:=pR.frozen 0
   have fr1:=pR.frozen 1
   have fr2:=pR.frozen 2
   have pZ:=((pR.set 0 (.string ⟨#[]⟩)).set 1 (.slice none 0 0)).set 2 (.slice none 0 0)
   simp only [List.set_cons_zero,List.set_cons_succ] at pZ
   have z0:=pZ.cell 0
   have z1:=pZ.cell 1
   have z2:=pZ.cell 2
   simp only [List.getElem?_cons_zero,List.getElem?_cons_succ] at z0 z1 z2 r0 r1 r2
   have hle:w.heap.size≤w.heap.size+1:=by omega
   have bz:=((bw.setCell (p:=⟨w.heap.size+1,0,none⟩) hle (.string ⟨#[]⟩)).setCell (p:=⟨w.heap.size+1,1,none⟩) hle (.slice none 0 0)).setCell (p:=⟨w.heap.size+1,2,none⟩) hle (.slice none 0 0)
   clear pZ pR pM
   go_wp2
   refine bodyPost_ret (by simp [results,Tryz.results10,go_sem,z0,z1,z2];try rfl) rfl ?_
   first | exact ⟨EntGotC.nil9,bz⟩ | exact ⟨EntGotC.nil9,by go_grown⟩
  ·rw [hok] at kM
   have kP:=fun W (hb:Below w.heap.size w W)=>tableFind_is a n cap es key W (h.below hb) hok
   cases hI:isE es key
   ·rw [if_neg (by simp),if_pos rfl,if_neg (by simp)]
    rw [hI] at kP
    clear hI hok
    go_enter Tryz.func10,Tryz.ntmps10
    go_wp2_with fail
    generalize ((w.alloc (.cells #[.slice a n cap] 25)).alloc (.cells #[.string ⟨#[]⟩,.slice none 0 0,.slice none 0 0] 33))=U at *
    refine (kM _ bw).mono ?_
    rintro e w1 ⟨rfl,hb⟩
    replace bw:=bel8 bw hb
    replace pR:=pR.below hb
    replace pM:=pM.below hb
    replace g0:=pM.cell 0
    simp only [List.getElem?_cons_zero] at g0
    clear hb kM
    go_wp2_with fail
    refine (memoTable_is a n cap _).mono ?_
    rintro e w2 ⟨rfl,hb⟩
    replace bw:=bel8 bw hb
    replace pR:=pR.below hb
    replace pM:=pM.below hb
    clear hb
    go_wp2_with fail
    refine (kP _ bw).mono ?_
    rintro e w3 ⟨rfl,hb⟩
    replace bw:=bel8 bw hb
    replace pR:=pR.below hb
    replace pM:=pM.below hb
    replace g0:=pM.cell 0
    simp only [List.getElem?_cons_zero] at g0
    clear hb kP
    clear g0
    have r0:=pR.cell 0
    have r1:=pR.cell 1
    have r2:=pR.cell 2
    have fr0:=pR.frozen 0
    have fr1:=pR.frozen 1
    have fr2:=pR.frozen 2
    have pZ:=((pR.set 0 (.string ⟨#[]⟩)).set 1 (.slice none 0 0)).set 2 (.slice none 0 0)
    simp only [List.set_cons_zero,List.set_cons_succ] at pZ
    have z0:=pZ.cell 0
    have z1:=pZ.cell 1
    have z2:=pZ.cell 2
    simp only [List.getElem?_cons_zero,List.getElem?_cons_succ] at z0 z1 z2 r0 r1 r2
    have hle:w.heap.size≤w.heap.size+1:=by omega
    have bz:=((bw.setCell (p:=⟨w.heap.size+1,0,none⟩) hle (.string ⟨#[]⟩)).setCell (p:=⟨w.heap.size+1,1,none⟩) hle (.slice none 0 0)).setCell (p:=⟨w.heap.size+1,2,none⟩) hle (.slice none 0 0)
    clear pZ pR pM
    go_wp2
    refine bodyPost_ret (by simp [results,Tryz.results10,go_sem,z0,z1,z2];try rfl) rfl ?_
    first | exact ⟨EntGotC.nil9,bz⟩ | exact ⟨EntGotC.nil9,by go_grown⟩
   ·rw [if_pos ⟨by omega,rfl,rfl⟩,if_pos rfl,if_pos rfl]
    rw [hI] at kP
    have hpl:plcE es key<n:=by
     simp only [isE,Bool.and_eq_true,decide_eq_true_eq] at hI
     omega
    have hek:=memOk_ent hok (i:=plcE es key) (by omega)
    clear hI hok
    generalize plcE es key=p at *
    have hpl2:(p:Int)<(n:Int):=by omega
    have hp0:(0:Int)≤(p:Int):=by omega
    have y1:=entOk_bugs hek
    have y2:=entOk_foot hek
    have y3:=entOk_key hek
    have h9:=h
    obtain ⟨_,_,_,hcase⟩:=h9
    rcases hcase with e0 | ⟨b,off,rfl,hblt,hcell⟩
    ·omega
    obtain ⟨s,c0,c1,c2,hm⟩:=hcell p hpl
    have kO:=fun W (hb:Below w.heap.size w W)=>copied_is (es.getD p e3d) s W (hm.below hb) (by omega) (by omega) (by omega)
    clear hcell hm hek y1 y2 y3
    generalize es.getD p e3d=x at *
    obtain ⟨xk,xb,xz⟩:=x
    obtain ⟨⟨a1,n1,d1⟩,⟨a2,n2,d2⟩⟩:=s
    unfold entV at kO
    simp only at c0 c1 c2 kO
    go_enter Tryz.func10,Tryz.ntmps10
    go_wp2_with fail
    generalize ((w.alloc (.cells #[.slice (some ⟨b,off,none⟩) n cap] 25)).alloc (.cells #[.string ⟨#[]⟩,.slice none 0 0,.slice none 0 0] 33))=U at *
    refine (kM _ bw).mono ?_
    rintro e w1 ⟨rfl,hb⟩
    replace bw:=bel8 bw hb
    replace pR:=pR.below hb
    replace pM:=pM.below hb
    replace g0:=pM.cell 0
    simp only [List.getElem?_cons_zero] at g0
    clear hb kM
    go_wp2_with fail
    refine (memoTable_is (some ⟨b,off,none⟩) n cap _).mono ?_
    rintro e w2 ⟨rfl,hb⟩
    replace bw:=bel8 bw hb
    replace pR:=pR.below hb
    replace pM:=pM.below hb
    clear hb
    go_wp2_with fail
    refine (kP _ bw).mono ?_
    rintro e w3 ⟨rfl,hb⟩
    replace bw:=bel8 bw hb
    replace pR:=pR.below hb
    replace pM:=pM.below hb
    replace g0:=pM.cell 0
    simp only [List.getElem?_cons_zero] at g0
    clear hb kP
    replace c0:=cell8 bw c0
    replace c1:=cell8 bw c1
    replace c2:=cell8 bw c2
    go_wp2_with fail
    refine (kO _ bw).mono ?_
    rintro e w4 ⟨⟨⟨⟨u1,m1,q1⟩,⟨u2,m2,q2⟩⟩,rfl,hO⟩,hb⟩
    have hlow:=pR.lt
    have hup:=bw.size
    replace bw:=bel8 bw hb
    replace pR:=pR.below hb
    clear hb kO c0 c1 c2 g0
    unfold entV
    simp only
    have r0:=pR.cell 0
    have r1:=pR.cell 1
    have r2:=pR.cell 2
    have fr0:=pR.frozen 0
    have fr1:=pR.frozen 1
    have fr2:=pR.frozen 2
    have pZ:=((pR.set 0 (.string xk)).set 1 (.slice u1 m1 q1)).set 2 (.slice u2 m2 q2)
    simp only [List.set_cons_zero,List.set_cons_succ] at pZ
    have z0:=pZ.cell 0
    have z1:=pZ.cell 1
    have z2:=pZ.cell 2
    simp only [List.getElem?_cons_zero,List.getElem?_cons_succ] at z0 z1 z2 r0 r1 r2
    have hle:w.heap.size≤w.heap.size+1:=by omega
    have bz:=((bw.setCell (p:=⟨w.heap.size+1,0,none⟩) hle (.string xk)).setCell (p:=⟨w.heap.size+1,1,none⟩) hle (.slice u1 m1 q1)).setCell (p:=⟨w.heap.size+1,2,none⟩) hle (.slice u2 m2 q2)
    have hO9:=((((hO.low (p:=⟨w.heap.size+1,0,none⟩) hlow (.string xk)).low (p:=⟨w.heap.size+1,1,none⟩) hlow (.slice u1 m1 q1)).low (p:=⟨w.heap.size+1,2,none⟩) hlow (.slice u2 m2 q2))).lower hup
    clear pZ pR pM hO hlow hup
    go_wp2
    refine bodyPost_ret (by simp [results,Tryz.results10,go_sem,z0,z1,z2];try rfl) rfl ?_
    exact ⟨EntGotC.mk9 (e:=(xk,xb,xz)) ((u1,m1,q1),(u2,m2,q2)) hO9,bz⟩

open Go.RowKit Go.ChangeShapes

theorem gVmShape:Tryz.prog.globalNamed "loop.example/g00632/impl.vmShape"=some 0:=by kernel_rfl
theorem tVmShape:(Tryz.prog.globals[0]?).map (·.type)=some 178:=by kernel_rfl

section
variable {H : Type} {enc : TypeId × Value → H} {w : World} {base : Nat} {spare : Nat → Bool} {held : Bool}
theorem part_cells {fuel:Nat} {cs:List Value} {a b:Int} {p:List MemPlace} (h:DataW.trod enc Tryz.prog w base spare held fuel 177 cs=some (.agg [.lit (.int .i64 a),.lit (.int .i64 b)],p)):cs=[.int .i64 a,.int .i64 b]:=by
 obtain ⟨y0,y1,n,hx,hl,h0,h1⟩:=trod_struct2 Tryz.underlying177 h
 have hl2:cs.length=2:=hl.trans (by kernel_rfl)
 have hk:Tryz.prog.cellsOf 3=1:=by kernel_rfl
 match cs,hl2 with
 | [c0,c1],_ =>
  simp only [hk] at h0 h1
  obtain ⟨z0,e0,hy0,_⟩:=DataW.trod_int Tryz.underlying3 h0
  obtain ⟨z1,e1,hy1,_⟩:=DataW.trod_int Tryz.underlying3 h1
  simp at e0 e1
  subst hy0 hy1 e0 e1
  simp at hx
  simp [hx]
theorem shape_cells {fuel:Nat} {cs:List Value} {p:List MemPlace} (h:DataW.trod enc Tryz.prog w base spare held fuel 178 cs=some (Rows.laid_loop_example_g00632_impl_vmShape,p)):cs=[3,6,4,9,2,3,6,9].map (Value.int .i64):=by
 obtain ⟨xs,m,_,hx,hl,hn,hi⟩:=DataW.trod_array Tryz.underlying178 h
 have hk:Tryz.prog.cellsOf 177=2:=by kernel_rfl
 have hl8:cs.length=8:=hl.trans (by kernel_rfl)
 rw [hk] at hi
 match xs,hn with
 | [⟨x0,p0⟩,⟨x1,p1⟩,⟨x2,p2⟩,⟨x3,p3⟩],_ =>
  unfold Rows.laid_loop_example_g00632_impl_vmShape at hx
  simp at hx
  obtain ⟨⟨rfl,rfl,rfl,rfl⟩,_⟩:=hx
  match cs,hl8 with
  | [c0,c1,c2,c3,c4,c5,c6,c7],_ =>
   have g0:=part_cells (hi 0 (by decide))
   have g1:=part_cells (hi 1 (by decide))
   have g2:=part_cells (hi 2 (by decide))
   have g3:=part_cells (hi 3 (by decide))
   simp at g0 g1 g2 g3
   simp [g0,g1,g2,g3]
end

theorem vmShape_of_laid {W:World} {p:List (String × DataW Unit)} (hp:p=[("loop.example/g00632/impl.vmShape",Rows.laid_loop_example_g00632_impl_vmShape)]) (h:laidMetH Tryz.prog p W):VmShape W:=by
 subst hp
 rw [MakeChecks.laidMetH_plain _ _ _ (by kernel_rfl)] at h
 obtain ⟨ps,⟨g0,t0,cs0,f0,p0,q0,hg0,ht0,hv0,hd0,_,_⟩,_,_⟩:=h
 obtain rfl:=Option.some.inj (gVmShape.symm.trans hg0)
 obtain rfl:=Option.some.inj (tVmShape.symm.trans ht0)
 have hcs:=shape_cells hd0
 unfold World.var? at hv0
 simp only [gVmShape,Option.bind_some] at hv0
 cases hh:W.heap[0]? with
 | none=>rw [hh] at hv0;cases hv0
 | some o =>
  rw [hh] at hv0
  cases o with
  | cells cs t fr =>
   simp only [Option.some.injEq] at hv0
   subst hv0
   intro i v hi
   rw [← hcs] at hi
   simp only [World.cell?,hh]
   simpa using hi
  | _=>cases hv0


theorem IsRow.below {k:IntKind} {w w':World} {a:Option Addr} {len cap:Nat} {zs:List Int} (h:IsRow k w a len cap zs) (hb:Below w.heap.size w w'):IsRow k w' a len cap zs:=by
 rcases h with h | ⟨x,h1,h2,h3,h4,h5,h6⟩
 ·exact .inl h
 ·refine .inr ⟨x,h1,h2,h3,h4,fun i hi=>?_,h6⟩
  have hc:=h5 i hi
  have hlt:(x.add i).block<w.heap.size:=by
   rcases Nat.lt_or_ge (x.add i).block w.heap.size with h' | h'
   ·exact h'
   ·simp [World.cell?,Array.getElem?_eq_none h'] at hc
  rw [hb.cell hlt]
  exact hc
theorem IsRow.len_le {k:IntKind} {w:World} {a:Option Addr} {len cap:Nat} {zs:List Int} (h:IsRow k w a len cap zs):len≤maxLen:=by
 rcases h with ⟨_,rfl,_,_⟩ | ⟨x,h1,h2,h3,_⟩
 ·omega
 ·omega
theorem IsRow.drew {k:IntKind} {w:World} {a:Option Addr} {len cap:Nat} {zs:List Int} (h:IsRow k w a len cap zs) (d:Nat):IsRow k (w.drewN d) a len cap zs:=h
end Go.Proofs.YthmgampabhbpoaaGreatDoor
