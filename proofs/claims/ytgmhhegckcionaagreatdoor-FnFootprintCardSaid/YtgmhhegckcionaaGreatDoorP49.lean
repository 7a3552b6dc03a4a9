/-
  Joined: VerT, VerD, VmLaid, FpwW, Vars.
-/
import Derived.Test.YtgmhhegckcionaaGreatDoorRows
import Derived.ProofKit
import Derived.OpenShut
import Derived.LaidMore
import Derived.MakeChecks
import Derived.Stop.LaidErr
import Derived.LaidHandle
import Derived.WalkSmall
import Derived.ChangeOld
import Derived.Test.YtgmhhegckcionaaGreatDoorP42
import Derived.Test.YtgmhhegckcionaaGreatDoorP43
import Derived.Test.YtgmhhegckcionaaGreatDoorP48

namespace Go.Proofs.YtgmhhegckcionaaGreatDoor
set_option maxRecDepth 100000
set_option maxHeartbeats 16000000
open Go.RowKit
set_option linter.unusedVariables false
set_option linter.unusedSimpArgs false

def OwnP9 (w:World) (B:Nat) (v:Value) (L:List Pl9):Prop:=w.ownsRow B 3 1 v L.length ((L.map itm9).map (Value.int .i64))


theorem changeItem_is (k p:Nat) (tP:TypeId) (vP:Value) (tQ:TypeId) (vQ:Value) (w:World) (hk:k<3) (hp:p<7) :
  Calls Tryz.prog 27 #[.agg #[.int .i64 (k:Int),.int .i64 (p:Int),.iface tP vP,.iface tQ vQ]] w fun e w'=>e=.returned (.int .i64 (itm9 (k,p)))∧Below w.heap.size w w':=by
 have kI:=implItemOf_is (k:Int) (p:Int)
 rw [itemV_yes (inB8_true.2 (by omega)) (inB8_true.2 (by omega))] at kI
 have e0:itm9 (k,p)=8*(k:Int)+(p:Int):=rfl
 rw [e0]
 clear e0
 go_enter Tryz.func27,Tryz.ntmps27
 go_wp2_with fail
 refine (kI _).mono ?_
 rintro e w1 ⟨rfl,rfl⟩
 go_wp2
 go_ret
 exact ⟨rfl,by go_grown⟩

def CiGot (e:Ending) (w':World) (B:Nat) (P Q:List (List I3)):Prop:=∃ v,e=.returned (.tuple #[v,.int .i64 (chK9 P Q)])∧OwnP9 w' B v (chL9 P Q)

theorem chL9_mem {P Q:List (List I3)} {t:Nat} (ht:t<(chL9 P Q).length):((chL9 P Q).getD t (0,0)).1<3∧((chL9 P Q).getD t (0,0)).2<7:=by
 have hm:(chL9 P Q).getD t (0,0) ∈ chL9 P Q:=by
  rw [List.getD,List.getElem?_eq_getElem ht]
  exact List.getElem_mem ht
 generalize (chL9 P Q).getD t (0,0)=x at *
 unfold chL9 at hm
 split at hm
 ·obtain ⟨h1,h2,_⟩:=chg9_mem.1 hm
  exact ⟨h1,h2⟩
 ·simp at hm
theorem take_snocV9 {L:List Pl9} {t:Nat} (ht:t<L.length):L.take (t+1)=L.take t++[L.getD t (0,0)]:=by
 rw [List.take_add_one,List.getElem?_eq_getElem ht,List.getD,List.getElem?_eq_getElem ht]
 rfl

theorem implChangedItems_is (a:Option Addr) (len cap:Nat) (P:List (List I3)) (a':Option Addr) (len' cap':Nat) (Q:List (List I3)) (w:World) (h:Codes w a len cap P) (h':Codes w a' len' cap' Q) :
  Calls Tryz.prog 9 #[.agg #[.slice a len cap],.agg #[.slice a' len' cap']] w fun e w'=>CiGot e w' w.heap.size P Q∧Below w.heap.size w w':=by
 obtain ⟨i0,hi,hz0,hz1,hz2⟩:=info_parts info_int
 have kC:=fun W (hb:Below w.heap.size w W)=>changesOf_is a len cap P a' len' cap' Q W (h.below hb) (h'.below hb)
 have bw:Below w.heap.size w ((w.alloc (.cells #[.slice a len cap] 25)).alloc (.cells #[.slice a' len' cap'] 25)):=by go_grown
 go_enter Tryz.func9,Tryz.ntmps9
 go_wp2_with fail
 refine (kC _ bw).mono ?_
 rintro e U ⟨⟨v,rfl,qC⟩,hb⟩
 replace bw:=bel8 bw hb
 clear hb kC
 have hl21:=chL9_len P Q
 have hmem:=fun t ht=>chL9_mem (P:=P) (Q:=Q) (t:=t) ht
 have HG:∀ v W B,w.heap.size≤B→OwnP9 W B v (chL9 P Q)→CiGot (.returned (.tuple #[v,.int .i64 (chK9 P Q)])) W w.heap.size P Q:=fun v W B hB q=>⟨v,rfl,lower8 q hB⟩
 generalize chK9 P Q=cd at *
 unfold OwnC9 at qC
 obtain ⟨va,vc,rfl⟩:=slice8 qC
 generalize chL9 P Q=L at *
 have hat:=fun t (ht:t<L.length)=>flatC9_at P Q L t ht
 have hfl:=flatC9_len P Q L
 go_wp2_with fail
 go_loopw [8,19] (fun so si wr=>∃ (t:Nat) (v:Value),v=so∧t≤L.length∧si=.int .i64 t∧OwnP9 wr U.heap.size v (L.take t)∧Below U.heap.size U wr) (fun _ si _=>L.length - (Go.RowKit.intOf si).toNat)
 case atStart=>exact ⟨0,_,rfl,by omega,rfl,World.ownsRow_nil _ _ _ _,Below.refl _ _⟩
 case round =>
  obtain ⟨t,so,rfl,ht,rfl,q,bu⟩:=hrel
  by_cases hlt:t<L.length
  ·have hlt2:(t:Int)<(L.length:Int):=by omega
   have ht0:(0:Int)≤(t:Int):=by omega
   obtain ⟨g,c,hv⟩:=some8 qC (by omega)
   cases hv
   have hcell:=qC.cellAt
   have d0:=(hcell (t*4) (by omega)).trans (hat t hlt).1
   have d1:=(hcell (t*4+1) (by omega)).trans (hat t hlt).2.1
   have d2:=(hcell (t*4+2) (by omega)).trans (hat t hlt).2.2.1
   have d3:=(hcell (t*4+3) (by omega)).trans (hat t hlt).2.2.2
   obtain ⟨hk,hp⟩:=hmem t hlt
   have HS:Hid (L.take (t+1)=L.take t++[L.getD t (0,0)]):=take_snocV9 hlt
   have HM:Hid ((L.take (t+1)).map itm9=(L.take t).map itm9++[itm9 (L.getD t (0,0))]):=by rw [Hid,take_snocV9 hlt,List.map_append];rfl
   have HN:Hid ((L.take (t+1)).length=t+1):=by rw [Hid,List.length_take];omega
   clear HS
   have hn9:(L.take t).length=t:=by rw [List.length_take];omega
   clear hcell hat hmem
   generalize L.getD t (0,0)=x at *
   obtain ⟨k,p⟩:=x
   simp only at d0 d1 d2 d3 hk hp
   obtain ⟨tP,vP,eP⟩:=site_if9 (atM9 P k p)
   obtain ⟨tQ,vQ,eQ⟩:=site_if9 (atM9 Q k p)
   rw [eP] at d2
   rw [eQ] at d3
   clear eP eQ
   replace d0:=cells_kept bu _ _ d0
   replace d1:=cells_kept bu _ _ d1
   replace d2:=cells_kept bu _ _ d2
   replace d3:=cells_kept bu _ _ d3
   have kI:=fun W=>changeItem_is k p tP vP tQ vQ W hk hp
   generalize itm9 (k,p)=zz at *
   have bx:Below wr.heap.size wr (wr.alloc (.cells #[.int .i64 (k:Int),.int .i64 (p:Int),.iface tP vP,.iface tQ vQ] 67)):=by go_grown
   go_wp2_with fail
   refine (kI _).mono ?_
   rintro e w3 ⟨rfl,hb⟩
   replace bx:=bel8 bx hb
   replace bu:=bel8 bu bx
   replace q:OwnP9 w3 U.heap.size so (L.take t):=owns8 q bx
   clear bx hb kI d0 d1 d2 d3
   unfold OwnP9 at q
   have hsz:=bu.size
   go_wp2_with (at_builtin;refine wpList_append_own _ rfl _ _ 36 rfl U.heap.size 3 i0 (.int .i64 0) 1 8 Tryz.underlying36 hi hz0 hz1 hz2 rfl (by decide) _ _ _ rfl (q.alloc _) ⟨w3.heap.size,0,none⟩ 1 1 [.int .i64 zz] rfl rfl (cell_one_new _ _ _) (by simp [Value.oneCell']) ?c3 ?c4 ?c5 ?_)
   case c3=>unfold maxLen;omega
   case c4=>omega
   case c5=>simp;omega
   intro v' wn hown' hgrow _
   have bn:Below U.heap.size U wn:=(bu.alloc hsz _).grown hgrow (by simp;omega) (fun k hk=>(q.lt k hk).1)
   have qn:OwnP9 wn U.heap.size v' (L.take (t+1)):=by
    unfold OwnP9
    rw [HM.out,HN.out,List.map_append,List.map_map,List.map_take]
    exact hown'
   clear hgrow q bu hown' HM HN
   go_wp2
   go_roundw
   case rel=>exact ⟨t+1,_,rfl,by omega,by go_num,qn,bn⟩
   case measure=>simp [Go.RowKit.intOf];omega
  ·obtain rfl:t=L.length:=by omega
   have hB:=bw.size
   rw [List.take_length] at q
   go_wp2
   go_ret2
   exact ⟨HG _ _ _ hB q,bel8 bw bu⟩

open Go.RowKit Go.ChangeShapes

theorem gVmShape:Tryz.prog.globalNamed "loop.example/g00632/impl.vmShape"=some 0:=by kernel_rfl
theorem tVmShape:(Tryz.prog.globals[0]?).map (·.type)=some 218:=by kernel_rfl

section
variable {H : Type} {enc : TypeId × Value → H} {w : World} {base : Nat} {spare : Nat → Bool} {held : Bool}
theorem part_cells {fuel:Nat} {cs:List Value} {a b:Int} {p:List MemPlace} (h:DataW.trod enc Tryz.prog w base spare held fuel 217 cs=some (.agg [.lit (.int .i64 a),.lit (.int .i64 b)],p)):cs=[.int .i64 a,.int .i64 b]:=by
 obtain ⟨y0,y1,n,hx,hl,h0,h1⟩:=trod_struct2 Tryz.underlying217 h
 have hl2:cs.length=2:=hl.trans (by kernel_rfl)
 have hk:Tryz.prog.cellsOf 3=1:=by kernel_rfl
 match cs,hl2 with
 | [c0,c1],_ =>
  simp only [hk] at h0 h1
  obtain ⟨z0,e0,hy0,_⟩:=DataW.trod_int Tryz.underlying3 h0
  obtain ⟨z1,e1,hy1,_⟩:=DataW.trod_int Tryz.underlying3 h1
  simp at e0 e1
  subst hy0 hy1 e0 e1
  simp at hx
  simp [hx]
theorem shape_cells {fuel:Nat} {cs:List Value} {p:List MemPlace} (h:DataW.trod enc Tryz.prog w base spare held fuel 218 cs=some (Rows.laid_loop_example_g00632_impl_vmShape,p)):cs=[3,6,4,9,2,3,6,9].map (Value.int .i64):=by
 obtain ⟨xs,m,_,hx,hl,hn,hi⟩:=DataW.trod_array Tryz.underlying218 h
 have hk:Tryz.prog.cellsOf 217=2:=by kernel_rfl
 have hl8:cs.length=8:=hl.trans (by kernel_rfl)
 rw [hk] at hi
 match xs,hn with
 | [⟨x0,p0⟩,⟨x1,p1⟩,⟨x2,p2⟩,⟨x3,p3⟩],_ =>
  unfold Rows.laid_loop_example_g00632_impl_vmShape at hx
  simp at hx
  obtain ⟨⟨rfl,rfl,rfl,rfl⟩,_⟩:=hx
  match cs,hl8 with
  | [c0,c1,c2,c3,c4,c5,c6,c7],_ =>
   have g0:=part_cells (hi 0 (by decide))
   have g1:=part_cells (hi 1 (by decide))
   have g2:=part_cells (hi 2 (by decide))
   have g3:=part_cells (hi 3 (by decide))
   simp at g0 g1 g2 g3
   simp [g0,g1,g2,g3]
end

theorem vmShape_of_laid {W:World} {p:List (String × DataW Unit)} (hp:p=[("loop.example/g00632/impl.vmShape",Rows.laid_loop_example_g00632_impl_vmShape)]) (h:laidMetH Tryz.prog p W):VmShape W:=by
 subst hp
 rw [MakeChecks.laidMetH_plain _ _ _ (by kernel_rfl)] at h
 obtain ⟨ps,⟨g0,t0,cs0,f0,p0,q0,hg0,ht0,hv0,hd0,_,_⟩,_,_⟩:=h
 obtain rfl:=Option.some.inj (gVmShape.symm.trans hg0)
 obtain rfl:=Option.some.inj (tVmShape.symm.trans ht0)
 have hcs:=shape_cells hd0
 unfold World.var? at hv0
 simp only [gVmShape,Option.bind_some] at hv0
 cases hh:W.heap[0]? with
 | none=>rw [hh] at hv0;cases hv0
 | some o =>
  rw [hh] at hv0
  cases o with
  | cells cs t fr =>
   simp only [Option.some.injEq] at hv0
   subst hv0
   intro i v hi
   rw [← hcs] at hi
   simp only [World.cell?,hh]
   simpa using hi
  | _=>cases hv0


theorem kpeM_ok14 {es:List E3} {ch:List Int} (h1:ch.length≤4096) (h2:memOk es=true) (h3:allIt ch=true):kpeM es ch=keepE es ch∧kpeC es ch=0:=by
 unfold kpeM kpeC
 rw [if_pos ⟨h1,h2,h3⟩,if_neg (by omega),if_pos h2,if_pos h3]
 exact ⟨rfl,rfl⟩
theorem ch_ok14 {P Q:List (List I3)} (hp:progOk P=true) (hq:progOk Q=true):chL9 P Q=chg9 P Q∧chK9 P Q=0:=by
 unfold chL9 chK9
 rw [if_pos ⟨hp,hq⟩,if_pos ⟨hp,hq⟩]
 exact ⟨rfl,rfl⟩
theorem smeB_self14 {es:List E3} (h:memOk es=true):smeB es es=true:=by
 unfold smeB
 rw [h,decide_eq_true rfl]
 rfl

theorem fnFootprint_walk (a0:Option Addr) (len0 cap0:Nat) (z0:List Int) (a1:Option Addr) (len1 cap1:Nat) (z1:List Int) (w:World) (h0:IsRow .u8 w a0 len0 cap0 z0) (h1:IsRow .u8 w a1 len1 cap1 z1) (hV:VmShape w) :
  Calls Tryz.prog 3 #[.slice a0 len0 cap0,.slice a1 len1 cap1] w fun e w'=>e=.returned (.bool true)∧Below w.heap.size w w':=by
 have m0:=h0.len_le
 have m1:=h1.len_le
 unfold maxLen at m0 m1
 by_cases b0:1048576<len0
 ·clear h0 h1
  go_enter Tryz.func3,Tryz.ntmps3
  go_wp2
  go_ret
  exact ⟨rfl,Below.refl _ _⟩
 by_cases b1:1048576<len1
 ·clear h0 h1
  go_enter Tryz.func3,Tryz.ntmps3
  go_wp2
  go_ret
  exact ⟨rfl,Below.refl _ _⟩
 have n0:len0≤1048576:=by omega
 have n1:len1≤1048576:=by omega
 clear m0 m1 b0 b1
 have kA:=smallDrawn_any a0 len0 cap0 z0 w h0 n0
 have hV9:∀ W,Below w.heap.size w W→VmShape W:=fun W hb=>hV.below hb
 have kB:=fun (W:World) (hb:Below w.heap.size w W) (v:Value) (rows:List (List I3)) (hP:OwnProg W w.heap.size v rows) (hs:ProgS rows)=>versionDrawn_any a1 len1 cap1 z1 w.heap.size v rows W (h1.below hb) n1 hP hs
 clear h0 h1 hV
 go_enter Tryz.func3,Tryz.ntmps3
 go_wp2_with fail
 refine kA.mono ?_
 rintro e w1 ⟨⟨v,P,hP,rfl,oP⟩,bw⟩
 have hp3:=(progOk_parts hP.1).1
 have hpf:∀ r ∈ P,∀ x ∈ r,I3.fits x:=fun r hr x hx=>okI_fits (((progOk_parts hP.1).2 r hr).2 x hx)
 obtain ⟨pa,pc,rfl⟩:=oP.slice
 rw [hp3] at oP ⊢
 clear kA
 have bx:Below w1.heap.size w1 (w1.alloc (.cells #[.slice pa 3 pc] 25)):=by go_grown
 have pB:=Blk.new w1 25 [.slice pa 3 pc]
 replace bw:=bel8 bw bx
 replace oP:=oP.below bx
 have g5:=pB.cell 0
 simp only [List.getElem?_cons_zero,List.getElem?_cons_succ,List.toArray] at g5
 clear pB bx
 go_wp2_with fail
 generalize w1.alloc (.cells #[.slice pa 3 pc] 25)=W1 at *
 generalize w1.heap.size=X5 at *
 refine (kB _ bw _ P oP hP).mono ?_
 rintro e w2 ⟨⟨v,Q,hQ,rfl,oQ⟩,hb⟩
 replace bw:=bel8 bw hb
 replace oP:=oP.below hb
 replace g5:=cell8 hb g5
 clear hb kB
 have hq3:=(progOk_parts hQ).1
 have hqf:∀ r ∈ Q,∀ x ∈ r,I3.fits x:=fun r hr x hx=>okI_fits (((progOk_parts hQ).2 r hr).2 x hx)
 obtain ⟨qa,qc,rfl⟩:=oQ.slice
 rw [hq3] at oQ ⊢
 have cP:=oP.codes hpf
 have cQ:=oQ.codes hqf
 clear oP oQ hpf hqf hp3 hq3
 have bx:Below w2.heap.size w2 (w2.alloc (.cells #[.slice qa 3 qc] 25)):=by go_grown
 have pB:=Blk.new w2 25 [.slice qa 3 qc]
 replace bw:=bel8 bw bx
 replace g5:=cell8 bx g5
 replace cP:=cP.below bx
 replace cQ:=cQ.below bx
 have g6:=pB.cell 0
 simp only [List.getElem?_cons_zero,List.getElem?_cons_succ,List.toArray] at g6
 clear pB bx
 go_wp2_with fail
 generalize w2.alloc (.cells #[.slice qa 3 qc] 25)=W2 at *
 generalize w2.heap.size=X6 at *
 obtain ⟨fc,fm,fe⟩:=fre_small14 hP
 have kC:=implCheckFresh_is pa 3 pc P W2 cP (hV9 _ bw)
 rw [fc] at kC
 generalize freB P=bz at kC
 generalize freN P=nz at kC
 have kEnt:Hid (∀ e ∈ keepE (freE P) (chgI P Q),etB Q e=true∧etC Q e=0):=by
  intro e he
  obtain ⟨h1,h2⟩:=List.mem_filter.1 he
  obtain ⟨m,hs,rfl⟩:=fe e h1
  exact kept_true14 hP hQ hs (by simpa using h2)
 have hfit:=memOk_fits14 fm
 have hfitK:∀ e ∈ keepE (freE P) (chgI P Q),e.fits:=fun e he=>hfit e (List.mem_filter.1 he).1
 have hokK:=keepE_ok fm (chgI P Q)
 have hlenK:(keepE (freE P) (chgI P Q)).length≤(freE P).length:=List.length_filter_le _ _
 have hlenE:(freE P).length≤2000:=memOk_len fm
 have hci:=chgI_len P Q
 have hcw:wfs (chgI P Q):=fun y hy=>itOk_wf (chgI_ok y hy)
 have hca:allIt (chgI P Q)=true:=List.all_eq_true.2 (fun y hy=>chgI_ok y hy)
 obtain ⟨eX,eA⟩:=kpeM_ok14 (es:=freE P) (ch:=chgI P Q) (by omega) fm hca
 have eC:chL9 P Q=chg9 P Q∧chK9 P Q=0:=ch_ok14 hP.1 hQ
 have kD:=fun W (c1:Codes W pa 3 pc P) (c2:Codes W qa 3 qc Q)=>implChangedItems_is pa 3 pc P qa 3 qc Q W c1 c2
 have kI:=fun W hb ma mn mc xa xn xc (i1:Ents W ma mn mc (freE P)) (i2:Ints .i64 W xa xn xc (chgI P Q)) (hx:xn≤1048576)=>implKeepEntries_is ma mn mc (freE P) xa xn xc (chgI P Q) W i1 i2 hx hcw (hV9 W hb)
 have kJ:=fun W ma mn mc xa xn xc (i1:Ents W ma mn mc (freE P)) (i2:Ints .i64 W xa xn xc (chgI P Q)) (hx:xn≤1048576)=>specKeepEntries_is ma mn mc (freE P) xa xn xc (chgI P Q) W i1 i2 hx hcw
 rw [eX,eA] at kI kJ
 have kS:=fun W hb xa xn xc ya yn yc (i1:Ents W xa xn xc (keepE (freE P) (chgI P Q))) (i2:Ents W ya yn yc (keepE (freE P) (chgI P Q)))=>implSameMemo_is xa xn xc _ ya yn yc _ W i1 i2 (hV9 W hb)
 rw [smeB_self14 hokK] at kS
 have kT:=fun W hb (e:E3) (s:Sl2) (c2:Codes W qa 3 qc Q) (hE:Emem W s e)=>implEntryTrue_is qa 3 qc Q e s W c2 hE (hV9 W hb)
 clear fc fm fe eX eA hca hcw hokK hP hQ hV9
 generalize keepE (freE P) (chgI P Q)=kx at *
 generalize freE P=es at *
 refine kC.mono ?_
 rintro e w3 ⟨⟨vb,vm,T,rfl,ob,_,oM,_⟩,hb⟩
 obtain ⟨ba,bc,rfl⟩:=slice8 ob
 clear ob
 generalize bz.length=bn at *
 replace bw:=bel8 bw hb
 replace g5:=cell8 hb g5
 replace cP:=cP.below hb
 replace cQ:=cQ.below hb
 replace g6:=cell8 hb g6
 clear hb kC
 obtain ⟨ma,mc,rfl⟩:=oM.slice9
 have iM:=oM.ents hfit
 clear oM
 obtain ⟨mn,hmn⟩:∃ n,n=es.length:=⟨_,rfl⟩
 rw [← hmn] at iM hlenK hlenE ⊢
 clear hmn
 have bx0:Below w3.heap.size w3 (w3.alloc (.cells #[.slice ba bn bc,.int .i64 (nz:Int)] 30)):=by go_grown
 replace bw:=bel8 bw bx0
 replace g5:=cell8 bx0 g5
 replace cP:=cP.below bx0
 replace cQ:=cQ.below bx0
 replace g6:=cell8 bx0 g6
 replace iM:=iM.below bx0
 clear bx0
 have hs7:(w3.alloc (.cells #[.slice ba bn bc,.int .i64 (nz:Int)] 30)).heap.size=w3.heap.size+1:=by simp
 generalize hW7:w3.alloc (.cells #[.slice ba bn bc,.int .i64 (nz:Int)] 30)=W7 at *
 have bx:Below W7.heap.size W7 (W7.alloc (.cells #[.slice ma mn mc] 33)):=by go_grown
 have pB:=Blk.new W7 33 [.slice ma mn mc]
 replace bw:=bel8 bw bx
 replace g5:=cell8 bx g5
 replace cP:=cP.below bx
 replace cQ:=cQ.below bx
 replace g6:=cell8 bx g6
 replace iM:=iM.below bx
 have g8:=pB.cell 0
 simp only [List.getElem?_cons_zero,List.getElem?_cons_succ,List.toArray] at g8
 clear pB bx
 rw [hs7] at g8
 rw [← hW7] at g5 g6 g8 cP cQ iM bw
 clear hs7 hW7
 go_wp2_with fail
 generalize (w3.alloc (.cells #[.slice ba bn bc,.int .i64 (nz:Int)] 30)).alloc (.cells #[.slice ma mn mc] 33)=W8 at *
 generalize w3.heap.size+1=X8 at *
 have kD9:=kD _ cP cQ
 simp only [CiGot,eC.1,eC.2] at kD9
 refine kD9.mono ?_
 rintro e w4 ⟨⟨v,rfl,oC⟩,hb⟩
 replace bw:=bel8 bw hb
 replace g5:=cell8 hb g5
 replace cP:=cP.below hb
 replace cQ:=cQ.below hb
 replace g6:=cell8 hb g6
 replace iM:=iM.below hb
 replace g8:=cell8 hb g8
 clear hb kD kD9 eC
 unfold OwnP9 at oC
 obtain ⟨ca,cc,rfl⟩:=slice8 oC
 have iC:Ints .i64 w4 ca (chg9 P Q).length cc (chgI P Q):=ints8 oC
 have hcn:(chg9 P Q).length≤21:=chg9_len P Q
 clear oC
 generalize (chg9 P Q).length=cn at *
 go_wp2_with fail
 refine (kI _ bw ma mn mc ca cn cc iM iC (by omega)).mono ?_
 rintro e w5 ⟨⟨v,rfl,oK⟩,hb⟩
 replace bw:=bel8 bw hb
 replace g5:=cell8 hb g5
 replace cP:=cP.below hb
 replace cQ:=cQ.below hb
 replace g6:=cell8 hb g6
 replace iM:=iM.below hb
 replace g8:=cell8 hb g8
 replace iC:=iC.below hb
 clear hb kI
 obtain ⟨ka,kc,rfl⟩:=oK.slice9
 have iK:=oK.ents hfitK
 clear oK
 obtain ⟨kn,hkn⟩:∃ n,n=kx.length:=⟨_,rfl⟩
 rw [← hkn] at iK hlenK ⊢
 have hkn2:Hid (kn=kx.length):=hkn
 clear hkn
 have bx:Below w5.heap.size w5 (w5.alloc (.cells #[.slice ka kn kc] 33)):=by go_grown
 have pB:=Blk.new w5 33 [.slice ka kn kc]
 replace bw:=bel8 bw bx
 replace g5:=cell8 bx g5
 replace cP:=cP.below bx
 replace cQ:=cQ.below bx
 replace g6:=cell8 bx g6
 replace iM:=iM.below bx
 replace g8:=cell8 bx g8
 replace iC:=iC.below bx
 replace iK:=iK.below bx
 have g12:=pB.cell 0
 simp only [List.getElem?_cons_zero,List.getElem?_cons_succ,List.toArray] at g12
 clear pB bx
 go_wp2_with fail
 generalize w5.alloc (.cells #[.slice ka kn kc] 33)=W12 at *
 generalize w5.heap.size=X12 at *
 refine (kJ _ ma mn mc ca cn cc iM iC (by omega)).mono ?_
 rintro e w6 ⟨⟨v,rfl,oW⟩,hb⟩
 replace bw:=bel8 bw hb
 replace g5:=cell8 hb g5
 replace cP:=cP.below hb
 replace cQ:=cQ.below hb
 replace g6:=cell8 hb g6
 replace iM:=iM.below hb
 replace g8:=cell8 hb g8
 replace iC:=iC.below hb
 replace iK:=iK.below hb
 replace g12:=cell8 hb g12
 clear hb kJ
 obtain ⟨la,lc,rfl⟩:=oW.slice9
 have iW:=oW.ents hfitK
 clear oW
 rw [← hkn2.out] at iW ⊢
 have bx:Below w6.heap.size w6 (w6.alloc (.cells #[.slice la kn lc] 33)):=by go_grown
 have pB:=Blk.new w6 33 [.slice la kn lc]
 replace bw:=bel8 bw bx
 replace g5:=cell8 bx g5
 replace cP:=cP.below bx
 replace cQ:=cQ.below bx
 replace g6:=cell8 bx g6
 replace iM:=iM.below bx
 replace g8:=cell8 bx g8
 replace iC:=iC.below bx
 replace iK:=iK.below bx
 replace g12:=cell8 bx g12
 replace iW:=iW.below bx
 have g14:=pB.cell 0
 simp only [List.getElem?_cons_zero,List.getElem?_cons_succ,List.toArray] at g14
 clear pB bx
 go_wp2_with fail
 generalize w6.alloc (.cells #[.slice la kn lc] 33)=W14 at *
 generalize w6.heap.size=X14 at *
 refine (kS _ bw ka kn kc la kn lc iK iW).mono ?_
 rintro e w7 ⟨rfl,hb⟩
 replace bw:=bel8 bw hb
 replace g5:=cell8 hb g5
 replace cP:=cP.below hb
 replace cQ:=cQ.below hb
 replace g6:=cell8 hb g6
 replace iM:=iM.below hb
 replace g8:=cell8 hb g8
 replace iC:=iC.below hb
 replace iK:=iK.below hb
 replace g12:=cell8 hb g12
 replace iW:=iW.below hb
 replace g14:=cell8 hb g14
 clear hb kS
 go_wp2
 clear g5 g14 iW iC iM cP hfit hfitK
 go_loopw [16] (fun si wr=>∃ i:Nat,i≤kn∧si=.int .i64 i∧Below w7.heap.size w7 wr) (fun si _=>kn - (intOf si).toNat)
 case atStart=>exact ⟨0,by omega,rfl,Below.refl _ _⟩
 case round =>
  obtain ⟨i,hi,rfl,bU⟩:=hrel
  replace bw:=bel8 bw bU
  replace cQ:=cQ.below bU
  replace g6:=cell8 bU g6
  replace g8:=cell8 bU g8
  replace iK:=iK.below bU
  replace g12:=cell8 bU g12
  by_cases hlt:i<kn
  ·have hq:=iK
   obtain ⟨_,_,_,hcase⟩:=hq
   rcases hcase with e0 | ⟨b,off,rfl,hbl,hc⟩
   ·omega
   obtain ⟨s,x0,x1,x2,hm⟩:=hc i hlt
   clear hc hbl
   have hmem:kx.getD i e3d ∈ kx:=by rw [List.getD,List.getElem?_eq_getElem (by have:=hkn2.out;omega)];exact List.getElem_mem _
   obtain ⟨hE1,hE2⟩:=kEnt.out _ hmem
   have kT9:=fun W hb (c2:Codes W qa 3 qc Q) (hE:Emem W s (kx.getD i e3d))=>kT W hb _ s c2 hE
   rw [hE1,hE2] at kT9
   clear hE1 hE2 hmem
   generalize kx.getD i e3d=x at *
   obtain ⟨xk,xb,xz⟩:=x
   obtain ⟨⟨a1',n1',c1'⟩,⟨a2',n2',c2'⟩⟩:=s
   unfold entV at kT9
   simp only at x0 x1 x2 kT9
   have hlt':(i:Int)<(kn:Int):=by omega
   have hi0:(0:Int)≤(i:Int):=by omega
   have hdr:Below wr.heap.size wr wr.drew:=by go_grown
   have bd:=bel8 bw hdr
   have cQd:=cQ.below hdr
   have hmd:=hm.below hdr
   go_wp2_with fail
   refine wp_region_held_drew (S:=(fun w'=>w'.cell? ⟨X6,0,none⟩=some (.slice qa 3 qc)∧w'.cell? ⟨X12,0,none⟩=some (.slice (some ⟨b,off,none⟩) kn kc)∧w'.cell? ⟨b,off+i*3,none⟩=some (.string xk)∧w'.cell? ⟨b,off+i*3+1,none⟩=some (.slice a1' n1' c1')∧w'.cell? ⟨b,off+i*3+2,none⟩=some (.slice a2' n2' c2'))) (by kernel_rfl) ⟨g6,g12,x0,x1,x2⟩ (fun hS0=>?_)
   refine tkw 0 80 (.agg #[.slice qa 3 qc]) ?_
   try simp only [Act.put,tka,tkb,tkc]
   refine tkw 1 81 (.pointer (some ⟨X12,0,none⟩)) ?_
   try simp only [Act.put,tka,tkb,tkc]
   refine tkw 2 82 (.slice (some ⟨b,off,none⟩) kn kc) ?_
   try simp only [Act.put,tka,tkb,tkc]
   refine tkw 3 83 (.int .i64 (i:Int)) ?_
   try simp only [Act.put,tka,tkb,tkc]
   refine tkw 4 84 (.pointer (some ⟨b,off+i*3,none⟩)) ?_
   try simp only [Act.put,tka,tkb,tkc]
   refine tkw 5 85 (.agg #[.string xk,.slice a1' n1' c1',.slice a2' n2' c2']) ?_
   try simp only [Act.put,tka,tkb,tkc]
   refine tkr 6 86 (fun K hK=>?_)
   go_simp
   refine (kT9 _ bd cQd hmd).mono ?_
   rintro e wf ⟨rfl,hbf⟩
   go_wp2_with fail
   refine hK.out _ _ ⟨cells_kept hbf _ _ hS0.1,cells_kept hbf _ _ hS0.2.1,cells_kept hbf _ _ hS0.2.2.1,cells_kept hbf _ _ hS0.2.2.2.1,cells_kept hbf _ _ hS0.2.2.2.2⟩ (fun hS7=>?_)
   clear hK
   try simp only [Act.put,tka,tkb,tkc]
   refine tkw 7 79 (.tuple #[.bool true,.int .i64 0]) ?_
   try simp only [Act.put,tka,tkb,tkc]
   refine tkw 8 87 (.bool true) ?_
   try simp only [Act.put,tka,tkb,tkc]
   refine tkw 9 88 (.int .i64 0) ?_
   try simp only [Act.put,tka,tkb,tkc]
   refine tkw 10 17 (.bool true) ?_
   try simp only [Act.put,tka,tkb,tkc]
   refine tkw 11 18 (.int .i64 0) ?_
   try simp only [Act.put,tka,tkb,tkc]
   refine wpAnyH_done (by kernel_rfl) ?_ _
   have bU2:=bel8 (bel8 bU hdr) hbf
   clear hS0 hS7 hdr bd cQd hmd hm x0 x1 x2 hbf kT9
   go_wp2
   go_roundw
   case rel=>exact ⟨i+1,by omega,by go_num,bU2⟩
   case measure=>simp [intOf];omega
  ·have hnl:¬ (i:Int)<(kn:Int):=by omega
   have hle:(kn:Int)≤(mn:Int):=by omega
   go_wp2
   go_ret
   exact ⟨rfl,bw⟩
theorem fnFootprint_laid {W:World} (h:laidMetH Tryz.prog Rows.fnFootprintRow.laid W):VmShape W:=vmShape_of_laid rfl h
theorem fnFootprint_door_met (os:Os) (args:Array Value):laidMetH Tryz.prog Rows.fnFootprintRow.laid ((World.doorLaid Tryz.prog 400 os).forCall (fun _ _=>0) ⟨#[],args,[]⟩).memory:=
 laidMetH_of_parts3 (fuel:=8) (laidMet_of_run' 8 (by kernel_rfl) (by kernel_rfl)) (by kernel_rfl) (by kernel_rfl)


def varsFit (P:Program) (ns:List String):Bool:=ns.all fun n =>
 match P.globalNamed n with
 | some g=>match (P.globals[g]?).map (·.type) with
  | some t=>P.readableRec t && decide (t<P.types.size)
  | none=>false
 | none=>false

theorem var?_lt {P:Program} {W:World} {n:String} {g:Nat} {cs:Array Value} (hg:P.globalNamed n=some g) (hv:W.var? P n=some cs):g<W.heap.size:=by
 rcases Nat.lt_or_ge g W.heap.size with h | h
 ·exact h
 ·unfold World.var? at hv
  simp [hg,Array.getElem?_eq_none h] at hv

theorem vars_below {H:Type} {enc:TypeId × Value→H} {P:Program} {W W':World} (hl:laidOutB P=true) (bel:Below W.heap.size W W') :
  ∀ {ns:List String} {gs:List (DataW H)} {ps:List MemPlace},varsFit P ns=true→DataW.TrodVars enc P W (fun _=>true) ns gs ps→DataW.TrodVars enc P W' (fun b=>decide (b<W.heap.size)) ns gs ps
 | [],[],ps,_,h=>h
 | [],_::_,_,_,h=>by cases h
 | _::_,[],_,_,h=>by cases h
 | n::ns,d::ds,ps,hf,h=>by
  obtain ⟨g,t,cs,fuel,p,q,hg,ht,hv,hd,hr,e⟩:=h
  simp only [varsFit,List.all_cons,Bool.and_eq_true] at hf
  obtain ⟨hf1,hf2⟩:=hf
  rw [hg] at hf1
  simp only [ht,Bool.and_eq_true,decide_eq_true_eq] at hf1
  obtain ⟨fuel',hd'⟩:=Below.trod hl hf1.1 hf1.2 (v:=.agg cs) (⟨fuel,by simpa [Value.cells] using hd⟩:DataW.Trod enc P W 0 (fun _=>true) true t (.agg cs) d p) bel (DataW.trod_lt fuel _ _ _ hd)
  exact ⟨g,t,cs,fuel',p,q,hg,ht,var?_below bel hg (var?_lt hg hv) hv,by simpa [Value.cells] using hd',vars_below hl bel hf2 hr,e⟩

theorem vars_len {H:Type} {enc:TypeId × Value→H} {P:Program} {W:World} {spare:Nat→Bool}:∀ {ns:List String} {gs:List (DataW H)} {ps:List MemPlace},DataW.TrodVars enc P W spare ns gs ps→gs.length=ns.length
 | [],[],_,_=>rfl
 | [],_::_,_,h=>by cases h
 | _::_,[],_,h=>by cases h
 | _::_,_::_,_,h=>by
  obtain ⟨_,_,_,_,_,_,_,_,_,_,hr,_⟩:=h
  simp [vars_len hr]
end Go.Proofs.YtgmhhegckcionaaGreatDoor
