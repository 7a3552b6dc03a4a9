/-
  Joined: VmLaid, FotE, Vars.
-/
import Derived.Test.YtojcgajjnmjjpaaGreatDoorRows
import Derived.ProofKit
import Derived.OpenShut
import Derived.LaidMore
import Derived.MakeChecks
import Derived.Stop.LaidErr
import Derived.WalkSmall
import Derived.ChangeOld
import Derived.Test.YtojcgajjnmjjpaaGreatDoorF40
import Derived.Test.YtojcgajjnmjjpaaGreatDoorF45
import Derived.Test.YtojcgajjnmjjpaaGreatDoorF48

namespace Go.Proofs.YtojcgajjnmjjpaaGreatDoor
set_option maxRecDepth 100000
open Go.RowKit Go.ChangeShapes

theorem gVmShape:Tryz.prog.globalNamed "loop.example/g00632/impl.vmShape"=some 0:=by kernel_rfl
theorem tVmShape:(Tryz.prog.globals[0]?).map (·.type)=some 209:=by kernel_rfl

section
variable {H : Type} {enc : TypeId × Value → H} {w : World} {base : Nat} {spare : Nat → Bool} {held : Bool}
theorem part_cells {fuel:Nat} {cs:List Value} {a b:Int} {p:List MemPlace} (h:DataW.trod enc Tryz.prog w base spare held fuel 208 cs=some (.agg [.lit (.int .i64 a),.lit (.int .i64 b)],p)):cs=[.int .i64 a,.int .i64 b]:=by
 obtain ⟨y0,y1,n,hx,hl,h0,h1⟩:=trod_struct2 Tryz.underlying208 h
 have hl2:cs.length=2:=hl.trans (by kernel_rfl)
 have hk:Tryz.prog.cellsOf 3=1:=by kernel_rfl
 match cs,hl2 with
 | [c0,c1],_ =>
  simp only [hk] at h0 h1
  obtain ⟨z0,e0,hy0,_⟩:=DataW.trod_int Tryz.underlying3 h0
  obtain ⟨z1,e1,hy1,_⟩:=DataW.trod_int Tryz.underlying3 h1
  simp at e0 e1
  subst hy0 hy1 e0 e1
  simp at hx
  simp [hx]
theorem shape_cells {fuel:Nat} {cs:List Value} {p:List MemPlace} (h:DataW.trod enc Tryz.prog w base spare held fuel 209 cs=some (Rows.laid_loop_example_g00632_impl_vmShape,p)):cs=[3,6,4,9,2,3,6,9].map (Value.int .i64):=by
 obtain ⟨xs,m,_,hx,hl,hn,hi⟩:=DataW.trod_array Tryz.underlying209 h
 have hk:Tryz.prog.cellsOf 208=2:=by kernel_rfl
 have hl8:cs.length=8:=hl.trans (by kernel_rfl)
 rw [hk] at hi
 match xs,hn with
 | [⟨x0,p0⟩,⟨x1,p1⟩,⟨x2,p2⟩,⟨x3,p3⟩],_ =>
  unfold Rows.laid_loop_example_g00632_impl_vmShape at hx
  simp at hx
  obtain ⟨⟨rfl,rfl,rfl,rfl⟩,_⟩:=hx
  match cs,hl8 with
  | [c0,c1,c2,c3,c4,c5,c6,c7],_ =>
   have g0:=part_cells (hi 0 (by decide))
   have g1:=part_cells (hi 1 (by decide))
   have g2:=part_cells (hi 2 (by decide))
   have g3:=part_cells (hi 3 (by decide))
   simp at g0 g1 g2 g3
   simp [g0,g1,g2,g3]
end

theorem vmShape_of_laid {W:World} {p:List (String × DataW Unit)} (hp:p=[("loop.example/g00632/impl.vmShape",Rows.laid_loop_example_g00632_impl_vmShape)]) (h:laidMetH Tryz.prog p W):VmShape W:=by
 subst hp
 rw [MakeChecks.laidMetH_plain _ _ _ (by kernel_rfl)] at h
 obtain ⟨ps,⟨g0,t0,cs0,f0,p0,q0,hg0,ht0,hv0,hd0,_,_⟩,_,_⟩:=h
 obtain rfl:=Option.some.inj (gVmShape.symm.trans hg0)
 obtain rfl:=Option.some.inj (tVmShape.symm.trans ht0)
 have hcs:=shape_cells hd0
 unfold World.var? at hv0
 simp only [gVmShape,Option.bind_some] at hv0
 cases hh:W.heap[0]? with
 | none=>rw [hh] at hv0;cases hv0
 | some o =>
  rw [hh] at hv0
  cases o with
  | cells cs t fr =>
   simp only [Option.some.injEq] at hv0
   subst hv0
   intro i v hi
   rw [← hcs] at hi
   simp only [World.cell?,hh]
   simpa using hi
  | _=>cases hv0

open Go.RowKit
set_option linter.unusedVariables false
set_option linter.unusedSimpArgs false

theorem foot_same {rows:List (List I3)} (hp:progOk rows=true) {m:V4} (hs:shapeOk m=true) :
  ((fullM rows m).length<2000→(ftF rows 19 m ([],[])).1.length<2000∧(ftF rows 19 m ([],[])).2=mrgI ((fullM rows m).flatMap fun r=>lookM r.1))∧(¬ (fullM rows m).length<2000→¬ (ftF rows 19 m ([],[])).1.length<2000):=by
 have hm:∀ x y,y ∈ nxV rows x→∃ t ∈ nxM rows x,t.2=y:=fun x y hy=>by
  obtain ⟨k,hk,rfl⟩:=List.mem_map.1 hy
  exact ⟨(k,(goM rows x k).1),List.mem_map.2 ⟨k,hk,rfl⟩,rfl⟩
 have hm2:∀ x (t:Int × V4),t ∈ nxM rows x→t.2 ∈ nxV rows x:=fun x t ht=>by
  obtain ⟨k,hk,rfl⟩:=List.mem_map.1 ht
  exact List.mem_map.2 ⟨k,hk,rfl⟩
 have h:=dfs_all (nxV rows) lookM 19 m ((fullM rows m).map (·.1)) (leftN rows) (fun x=>shapeOk x=true) hs
  (fun x hx y hy=>by
   obtain ⟨k,hk,rfl⟩:=List.mem_map.1 hy
   have:=left_step hp hx (enab_halt hk)
   exact ⟨goM_shape hp hx (enab_halt hk),by omega⟩)
  (by have:=left_18 hp m;omega)
  (List.mem_map.2 ⟨(m,0,0),List.mem_of_getElem? (fullM_head rows m),rfl⟩) (fullM_nodup rows m)
  (fun hl x hx y hy=>by
   obtain ⟨r,hr,rfl⟩:=List.mem_map.1 hx
   obtain ⟨t,ht,rfl⟩:=hm _ _ hy
   exact fullM_closed (by simp at hl;omega) r hr t ht)
  (fun C h0 hC x hx=>by
   obtain ⟨r,hr,rfl⟩:=List.mem_map.1 hx
   exact fullM_ind C h0 (fun x hx t ht=>hC x hx _ (hm2 x t ht)) r hr)
 have e:((fullM rows m).map (·.1)).flatMap lookM=(fullM rows m).flatMap fun r=>lookM r.1:=by rw [List.flatMap_map]
 rw [List.length_map,e] at h
 exact h

set_option maxHeartbeats 2000000 in
theorem specFootOf_is (a:Option Addr) (len cap:Nat) (rows:List (List I3)) (s:S4) (m:V4) (w:World) (hC:Codes w a len cap rows) (h:Vmem w s m) :
  Calls Tryz.prog 12 #[.agg #[.slice a len cap],s.val] w fun e w'=>(∃ t:Sl,e=.returned (.tuple #[.slice t.1 t.2.1 t.2.2,.int .i64 (footC rows m)])∧Ints .i64 w' t.1 t.2.1 t.2.2 (footA rows m))∧Below w.heap.size w w':=by
 have kV:=fun (W:World) (hb:Below w.heap.size w W)=>specVmOK_is a len cap rows s m W (hC.below hb) (h.below hb)
 have hM:=fun (W:World) (hb:Below w.heap.size w W)=>h.below hb
 obtain ⟨⟨a0,n0,c0⟩,⟨a1,n1,c1⟩,⟨a2,n2,c2⟩,⟨a3,n3,c3⟩⟩:=s
 have uA:S4.val ((a0,n0,c0),(a1,n1,c1),(a2,n2,c2),(a3,n3,c3))=.agg #[.slice a0 n0 c0,.slice a1 n1 c1,.slice a2 n2 c2,.slice a3 n3 c3]:=rfl
 rw [uA] at kV ⊢
 clear h
 obtain ⟨cd,hcd⟩:∃ cd,cd=footC rows m:=⟨_,rfl⟩
 obtain ⟨zs,hzs⟩:∃ zs,zs=footA rows m:=⟨_,rfl⟩
 rw [← hcd,← hzs]
 have bw:Below w.heap.size w ((w.alloc (.cells #[.slice a len cap] 25)).alloc (.cells #[.slice a0 n0 c0,.slice a1 n1 c1,.slice a2 n2 c2,.slice a3 n3 c3] 37)):=by go_grown
 have pP:Blk ((w.alloc (.cells #[.slice a len cap] 25)).alloc (.cells #[.slice a0 n0 c0,.slice a1 n1 c1,.slice a2 n2 c2,.slice a3 n3 c3] 37)) w.heap.size 25 [.slice a len cap]:=blkOld _ (blkAt _ _ _ rfl)
 have pS:Blk ((w.alloc (.cells #[.slice a len cap] 25)).alloc (.cells #[.slice a0 n0 c0,.slice a1 n1 c1,.slice a2 n2 c2,.slice a3 n3 c3] 37)) (w.heap.size+1) 37 [.slice a0 n0 c0,.slice a1 n1 c1,.slice a2 n2 c2,.slice a3 n3 c3]:=blkAt _ _ _ (by simp)
 go_enter Tryz.func12,Tryz.ntmps12
 go_wp2_with fail
 generalize ((w.alloc (.cells #[.slice a len cap] 25)).alloc (.cells #[.slice a0 n0 c0,.slice a1 n1 c1,.slice a2 n2 c2,.slice a3 n3 c3] 37))=U at *
 have kVx:=kV U bw
 clear kV
 go_wp2_with (first | refine wpList_load_blk rfl 25 _ rfl w.heap.size rfl pP _ Tryz.underlying25 rfl (by kernel_rfl) ?_ | refine wpList_load_blk rfl 37 _ rfl (w.heap.size+1) rfl pS _ Tryz.underlying37 rfl (by kernel_rfl) ?_)
 refine kVx.mono ?_
 rintro e w1 ⟨rfl,hb⟩
 replace bw:=bel8 bw hb
 replace pP:=pP.below hb
 replace pS:=pS.below hb
 clear hb kVx
 cases hok:(progOk rows && shapeOk m)
 ·have HZ:Hid (zs=[]∧cd=1):=⟨by rw [hzs];exact footA_bad hok,by rw [hcd];exact footC_bad hok⟩
  have bz:Below w.heap.size w (w1.alloc (.cells #[] 3)):=bel8 bw (by go_grown)
  clear hcd hzs hok uA
  go_wp2
  go_ret2
  exact ⟨by rw [HZ.out.1,HZ.out.2];first | exact ⟨(_,0,0),rfl,rfl,Nat.le_refl _,Nat.zero_le _,.inl rfl⟩ | exact ⟨_,0,0,rfl,rfl,Nat.le_refl _,Nat.zero_le _,.inl rfl⟩,bz⟩
 ·obtain ⟨hp,hs⟩:=both_ok hok
  obtain ⟨hl3,cs,hR⟩:=hC.rowsAt hp
  subst hl3
  have hb2:Below w1.heap.size w1 ((w1.alloc (.cells #[] 9)).alloc (.cells #[] 3)):=by go_grown
  have hSx:Strs ((w1.alloc (.cells #[] 9)).alloc (.cells #[] 3)) (some ⟨w1.heap.size,0,none⟩) 0 0 (([]:List V4).map keyT):=⟨rfl,Nat.le_refl _,Nat.zero_le _,.inl rfl⟩
  have hFx:Ints .i64 ((w1.alloc (.cells #[] 9)).alloc (.cells #[] 3)) (some ⟨w1.heap.size+1,0,none⟩) 0 0 ([]:List Int):=⟨rfl,Nat.le_refl _,Nat.zero_le _,.inl rfl⟩
  have bw2:=bel8 bw hb2
  have kF:=foot_all (cap:=cap) hp 19 m ([],[]) hs (by have:=left_18 hp m;omega) ⟨fun x hx=>by simp at hx,by simp,by simp⟩ (by simp) _ a cs _ _ _ _ _ _ (hR.below bw2) (hM _ bw2) hSx hFx
  rw [uA] at kF
  obtain ⟨hY,hN⟩:=foot_same hp hs
  simp only [List.length_nil] at kF
  have hfo:=(ftF_ok hp 19 hs (st:=([],[])) ⟨fun x hx=>by simp at hx,by simp,by simp⟩ (by simp)).2.1
  generalize ftF rows 19 m ([],[])=st at *
  clear hSx hFx uA
  go_wp2_with (first | refine wpList_load_blk rfl 25 _ rfl w.heap.size rfl pP _ Tryz.underlying25 rfl (by kernel_rfl) ?_ | refine wpList_load_blk rfl 37 _ rfl (w.heap.size+1) rfl pS _ Tryz.underlying37 rfl (by kernel_rfl) ?_)
  refine kF.mono ?_
  rintro e w3 ⟨⟨sb,so,sc,fa,fc,rfl,hS3,hF3⟩,hb⟩
  have bz:=bel8 bw2 hb
  clear hb kF pP pS bw bw2 hb2
  by_cases hl:st.1.length<2000
  ·have hl9:(st.1.length:Int)<2000:=by omega
   have hfl:(fullM rows m).length<2000:=by
    rcases Nat.lt_or_ge (fullM rows m).length 2000 with h9 | h9
    ·exact h9
    ·exact absurd hl (hN (by omega))
   have HZ:Hid (zs=st.2∧cd=0):=⟨by rw [hzs,(hY hfl).2];exact footA_ok hok hfl,by rw [hcd];exact footC_ok hok hfl⟩
   clear hcd hzs hok hY hN hfl hS3
   go_wp2
   go_ret2
   exact ⟨by rw [HZ.out.1,HZ.out.2];first | exact ⟨(_,_,_),rfl,hF3⟩ | exact ⟨_,_,_,rfl,hF3⟩,bz⟩
  ·have hl9:¬ (st.1.length:Int)<2000:=by omega
   have hl8:(2000:Int)≤(st.1.length:Int):=by omega
   have hfl:¬ (fullM rows m).length<2000:=fun h9=>hl (hY h9).1
   have HZ:Hid (zs=[]∧cd=15):=⟨by rw [hzs];exact footA_much hok hfl,by rw [hcd];exact footC_much hok hfl⟩
   have bq:Below w.heap.size w (w3.alloc (.cells #[] 3)):=bel8 bz (by go_grown)
   clear hcd hzs hok hY hN hfl hS3 hF3
   go_wp2
   go_ret2
   exact ⟨by rw [HZ.out.1,HZ.out.2];first | exact ⟨(_,0,0),rfl,rfl,Nat.le_refl _,Nat.zero_le _,.inl rfl⟩ | exact ⟨_,0,0,rfl,rfl,Nat.le_refl _,Nat.zero_le _,.inl rfl⟩,bq⟩
theorem fnExactFootOf_walk (a0:Option Addr) (n0 c0:Nat) (r0:List (List I3)) (s1:S4) (m1:V4) (w:World) (h0:Codes w a0 n0 c0 r0) (h1:Vmem w s1 m1) (hG:VmShape w) :
  Calls Tryz.prog 5 #[.agg #[.slice a0 n0 c0],s1.val] w fun e w'=>e=.returned (.bool true)∧Below w.heap.size w w':=
 fnExactFootOf_of a0 n0 c0 r0 s1 m1 _ (footA_len r0 m1) _ w h0 h1 hG
  (fun a n c s w hC h=>specFootOf_is a n c r0 s m1 w hC h)
  (fun a n c s w hC h hG=>implFootOf_is a n c r0 s m1 w hC h hG)
theorem fnExactFootOf_laid {W:World} (h:laidMetH Tryz.prog Rows.fnExactFootOfRow.laid W):VmShape W:=vmShape_of_laid rfl h
theorem fnExactFootOf_door_met (os:Os) (args:Array Value):laidMetH Tryz.prog Rows.fnExactFootOfRow.laid ((World.doorLaid Tryz.prog 400 os).forCall (fun _ _=>0) ⟨#[],args,[]⟩).memory:=
 laidMetH_of_parts3 (fuel:=8) (laidMet_of_run' 8 (by kernel_rfl) (by kernel_rfl)) (by kernel_rfl) (by kernel_rfl)


def varsFit (P:Program) (ns:List String):Bool:=ns.all fun n =>
 match P.globalNamed n with
 | some g=>match (P.globals[g]?).map (·.type) with
  | some t=>P.readableRec t && decide (t<P.types.size)
  | none=>false
 | none=>false

theorem var?_lt {P:Program} {W:World} {n:String} {g:Nat} {cs:Array Value} (hg:P.globalNamed n=some g) (hv:W.var? P n=some cs):g<W.heap.size:=by
 rcases Nat.lt_or_ge g W.heap.size with h | h
 ·exact h
 ·unfold World.var? at hv
  simp [hg,Array.getElem?_eq_none h] at hv

theorem vars_below {H:Type} {enc:TypeId × Value→H} {P:Program} {W W':World} (hl:laidOutB P=true) (bel:Below W.heap.size W W') :
  ∀ {ns:List String} {gs:List (DataW H)} {ps:List MemPlace},varsFit P ns=true→DataW.TrodVars enc P W (fun _=>true) ns gs ps→DataW.TrodVars enc P W' (fun b=>decide (b<W.heap.size)) ns gs ps
 | [],[],ps,_,h=>h
 | [],_::_,_,_,h=>by cases h
 | _::_,[],_,_,h=>by cases h
 | n::ns,d::ds,ps,hf,h=>by
  obtain ⟨g,t,cs,fuel,p,q,hg,ht,hv,hd,hr,e⟩:=h
  simp only [varsFit,List.all_cons,Bool.and_eq_true] at hf
  obtain ⟨hf1,hf2⟩:=hf
  rw [hg] at hf1
  simp only [ht,Bool.and_eq_true,decide_eq_true_eq] at hf1
  obtain ⟨fuel',hd'⟩:=Below.trod hl hf1.1 hf1.2 (v:=.agg cs) (⟨fuel,by simpa [Value.cells] using hd⟩:DataW.Trod enc P W 0 (fun _=>true) true t (.agg cs) d p) bel (DataW.trod_lt fuel _ _ _ hd)
  exact ⟨g,t,cs,fuel',p,q,hg,ht,var?_below bel hg (var?_lt hg hv) hv,by simpa [Value.cells] using hd',vars_below hl bel hf2 hr,e⟩

theorem vars_len {H:Type} {enc:TypeId × Value→H} {P:Program} {W:World} {spare:Nat→Bool}:∀ {ns:List String} {gs:List (DataW H)} {ps:List MemPlace},DataW.TrodVars enc P W spare ns gs ps→gs.length=ns.length
 | [],[],_,_=>rfl
 | [],_::_,_,h=>by cases h
 | _::_,[],_,h=>by cases h
 | _::_,_::_,_,h=>by
  obtain ⟨_,_,_,_,_,_,_,_,_,_,hr,_⟩:=h
  simp [vars_len hr]
end Go.Proofs.YtojcgajjnmjjpaaGreatDoor
