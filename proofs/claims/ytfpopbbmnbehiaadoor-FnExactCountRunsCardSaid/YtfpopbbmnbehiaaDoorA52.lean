/-
  Joined: CntI, CntJ.
-/
import Derived.Test.YtfpopbbmnbehiaaDoorA47

namespace Go.Proofs.YtfpopbbmnbehiaaDoor
set_option maxRecDepth 100000
set_option maxHeartbeats 16000000
open Go.RowKit
set_option linter.unusedVariables false
set_option linter.unusedSimpArgs false

def CtOk (rows:List (List I3)) (L:List (Rec6 V4 × Value)) (cts:List Int):Prop:=cts.length=L.length∧∀ i r mv,L[i]?=some (r,mv)→cts.getD i 0=0∨cts.getD i 0=(cntM rows r.1:Int)
theorem CtOk.put {rows:List (List I3)} {L:List (Rec6 V4 × Value)} {cts:List Int} (h:CtOk rows L cts) {at9:Nat} {r:Rec6 V4} {mv:Value} (hr:L[at9]?=some (r,mv)):CtOk rows L (cts.set at9 (cntM rows r.1:Int)):=by
 have hl:at9<L.length:=(List.getElem?_eq_some_iff.1 hr).1
 refine ⟨by simp [h.1],fun i r' mv' hi=>?_⟩
 by_cases e:at9=i
 ·subst e
  rw [hr] at hi
  cases hi
  right
  simp [List.getD,h.1,hl]
 ·have:=h.2 i r' mv' hi
  simp only [List.getD,List.getElem?_set_ne e] at this ⊢
  exact this
def RunsGot (e:Ending) (w w':World) (rows:List (List I3)) (L:List (Rec6 V4 × Value)) (Bc g c:Nat) (m:V4):Prop:=
 ∃ cts',e=.returned (.int .i64 (cntM rows m:Int))∧OwnI w' Bc (some ⟨g,0,none⟩,L.length,c) cts'∧CtOk rows L cts'∧w.grownBy w' (some g)
def RunsC (rows:List (List I3)) (L:List (Rec6 V4 × Value)) (X nb vc B Bc g c:Nat) (va:Option Addr) (cs:Sl × Sl × Sl) (at9:Nat) (m:V4):Prop:=∀ (w:World) (cts:List Int),SpcD w B nb (.slice va L.length vc) cs (mvsOf rows (L.map (·.1))) L L.length→Blk w X 61 [.slice va L.length vc,.map (some nb)]→OwnI w Bc (some ⟨g,0,none⟩,L.length,c) cts→CtOk rows L cts →
 Calls Tryd.prog 49 #[.pointer (some ⟨X,0,none⟩),.int .i64 at9,.slice (some ⟨g,0,none⟩) L.length c] w fun e w'=>RunsGot e w w' rows L Bc g c m
def sumC (rows:List (List I3)) (m:V4) (j:Nat):Nat:=((enabM rows m 3).take j).foldl (fun s k=>capN (s+cntM rows (goM rows m k).1)) 0
theorem sumC_zero (rows:List (List I3)) (m:V4):sumC rows m 0=0:=by simp [sumC]
theorem sumC_succ {rows:List (List I3)} {m:V4} {j:Nat} {k:Int} (h:(enabM rows m 3)[j]?=some k):sumC rows m (j+1)=capN (sumC rows m j+cntM rows (goM rows m k).1):=by
 unfold sumC
 rw [List.take_add_one,h]
 simp [List.foldl_append]
theorem sumC_all {rows:List (List I3)} (hp:progOk rows=true) {m:V4} (hs:shapeOk m=true) (hne:enabM rows m 3≠[]) {j:Nat} (hj:(enabM rows m 3).length≤j):sumC rows m j=cntM rows m:=by
 unfold sumC
 rw [List.take_of_length_le hj,cap_fold _ _ _ (by decide),cnt_eq hp hs,if_neg hne,Nat.zero_add]
theorem sumC_le (rows:List (List I3)) (m:V4) (j:Nat):sumC rows m j≤1000000:=by
 cases j with
 | zero=>rw [sumC_zero];omega
 | succ j =>
  cases h:(enabM rows m 3)[j]? with
  | some k=>rw [sumC_succ h];exact capN_le _
  | none =>
   have e:sumC rows m (j+1)=sumC rows m j:=by unfold sumC;rw [List.take_add_one,h];simp
   rw [e]
   exact sumC_le rows m j
theorem move_at {rows:List (List I3)} {F:List (Rec6 V4)} {m:V4} {j:Nat} {k:Int} (h:(enabM rows m 3)[j]?=some k):(mvsOf rows F m)[j]?=some (mvOf rows F m k):=by
 unfold mvsOf
 rw [List.getElem?_map,h]
 rfl
theorem range_move {w:World} {B G cap:Nat} {xs:List I4} (h:w.ownsRow B 122 4 (.slice (some ⟨G,0,none⟩) xs.length cap) xs.length (flat4 xs)) {j:Nat} {x:I4} (hx:xs[j]?=some x):w.rangeAt G (j*4) [.int .i64 x.1,.int .i64 x.2.1,.int .i64 x.2.2.1,.int .i64 x.2.2.2]:=by
 have hl:j<xs.length:=(List.getElem?_eq_some_iff.1 hx).1
 have hg:xs.getD j (0,0,0,0)=x:=by simp [List.getD,hx]
 obtain ⟨f0,f1,f2,f3⟩:=flat4_at xs j hl
 rw [hg] at f0 f1 f2 f3
 intro q v hq
 have hq4:q<4:=by have:=(List.getElem?_eq_some_iff.1 hq).1;simpa using this
 rw [h.cellAt (j*4+q) (by omega)]
 match q,hq4 with
 | 0,_=>simp at hq;subst hq;exact f0
 | 1,_=>simp at hq;subst hq;exact f1
 | 2,_=>simp at hq;subst hq;exact f2
 | 3,_=>simp at hq;subst hq;exact f3
theorem SpcD.mvrow {w:World} {B nb d:Nat} {vs:Value} {cs:Sl × Sl × Sl} {M:V4→List I4} {L:List (Rec6 V4 × Value)} (h:SpcD w B nb vs cs M L d) {i:Nat} {r:Rec6 V4} {mv:Value} (hi:i<d) (hr:L[i]?=some (r,mv)):∃ ma mc,mv=.slice ma (M r.1).length mc:=by
 rcases (h.mvs i r mv hi hr).2 with ⟨h1,h2⟩ | ⟨gq,cq,cur,h1,_⟩
 ·exact ⟨none,0,by rw [h1,h2]⟩
 ·exact ⟨_,_,h1⟩
theorem cnt_int {a b s:Nat} (ha:a≤1000000) (hb:b≤1000000) (hs:s=capN (a+b)):min (wrap64 ((a:Int)+(b:Int))) 1000000=(s:Int):=by
 rw [hs,capN_eq]
 unfold wrap64
 omega

theorem runs_step (rows:List (List I3)) (L:List (Rec6 V4 × Value)) (X nb vc B Bc g c:Nat) (va:Option Addr) (cs:Sl × Sl × Sl) (hp:progOk rows=true) (hsh:Shaped (L.map (·.1))) (hcl:∀ r ∈ L.map (·.1),∀ t ∈ nxM rows r.1,t.2 ∈ (L.map (·.1)).map (·.1)) (hl:L.length≤2000) {at9:Nat} {r:Rec6 V4} {mv:Value} (hr:L[at9]?=some (r,mv))
  (ih:∀ at' r' mv',L[at']?=some (r',mv')→leftN rows r'.1<leftN rows r.1→RunsC rows L X nb vc B Bc g c va cs at' r'.1):RunsC rows L X nb vc B Bc g c va cs at9 r.1:=by
 intro w cts sp bx ho hct
 have hla:at9<L.length:=(List.getElem?_eq_some_iff.1 hr).1
 have hrm:r ∈ L.map (·.1):=List.mem_map.2 ⟨_,List.mem_of_getElem? hr,rfl⟩
 have hs:=hsh r hrm
 obtain ⟨g1,c1,e1,hg1,hrg⟩:=sp.at9 hr
 cases e1
 obtain ⟨ma,mc,rfl⟩:=sp.mvrow hla hr
 have cX0:w.cell? ⟨X,0,none⟩=some (.slice (some ⟨g1,0,none⟩) L.length vc):=by simpa using bx.cell 0
 have cM:=hrg 21 _ rfl
 have hlt:(at9:Int)<(L.length:Int):=by omega
 have ha0:(0:Int)≤(at9:Int):=by omega
 have hml:(mvsOf rows (L.map (·.1)) r.1).length=(enabM rows r.1 3).length:=by simp [mvsOf]
 have hen:=enabM_len rows r.1 3
 by_cases hne:enabM rows r.1 3=[]
 ·have h0:(mvsOf rows (L.map (·.1)) r.1).length=0:=by rw [hml,hne];rfl
  have hc1:cntM rows r.1=1:=by rw [cnt_eq hp hs,if_pos hne]
  have HG:Hid (RunsGot (.returned (.int .i64 1)) w w rows L Bc g c r.1):=⟨cts,by rw [hc1];rfl,ho,hct,World.grownBy.refl _ _⟩
  rw [h0] at cM
  clear hc1 hne hml hrg ih hcl hsh hct h0
  go_enter Tryd.func49,Tryd.ntmps49
  go_wp2
  go_ret
  exact HG.out
 ·have hn1:0<(enabM rows r.1 3).length:=List.length_pos_iff.2 hne
  have mvr:=sp.mvs at9 r _ hla hr
  rw [hml] at cM mvr
  have HC:Hid (cts.getD at9 0=0∨cts.getD at9 0=(cntM rows r.1:Int)):=hct.2 at9 r _ hr
  have hcb:=cnt_bounds hp (leftN rows r.1) r.1 hs (Nat.le_refl _)
  have cC:=ho.at9 hla
  obtain ⟨n,hn⟩:∃ n,n=(enabM rows r.1 3).length:=⟨_,rfl⟩
  rw [← hn] at cM mvr hn1 hen
  have HN:Hid (n=(enabM rows r.1 3).length):=hn
  have hnz:((n:Int) == 0)=false:=beq_false_of_ne (by omega)
  have hnz2:decide ((n:Int)=0)=false:=decide_eq_false (by omega)
  obtain ⟨G,mc',e2,_⟩:=own_some6 mvr hn1
  cases e2
  clear hn hml hrg
  by_cases hcz:cts.getD at9 0=0
  ·rw [hcz] at cC
   have HPut:=hct.put hr
   have hmr:∀ j k,(enabM rows r.1 3)[j]?=some k→w.rangeAt G (j*4) [.int .i64 (goM rows r.1 k).2,.int .i64 k,.int .i64 (r.1.1.getD k.toNat 0),.int .i64 (ixS (L.map (·.1)) (goM rows r.1 k).1:Int)]:=by
    have hmv2:w.ownsRow B 122 4 (.slice (some ⟨G,0,none⟩) (mvsOf rows (L.map (·.1)) r.1).length mc) (mvsOf rows (L.map (·.1)) r.1).length (flat4 (mvsOf rows (L.map (·.1)) r.1)):=by
     have e3:(mvsOf rows (L.map (·.1)) r.1).length=n:=by rw [HN.out];simp [mvsOf]
     rw [e3]
     exact mvr
    exact fun j k h=>range_move hmv2 (move_at h)
   have HGG:Hid (G≠g):=fun e=>(Ap3.types mvr ho (by decide)) G rfl (by rw [e];rfl)
   have st:OwnI w Bc (some ⟨g,0,none⟩,L.length,c) cts∧CtOk rows L cts∧w.grownBy w (some g):=⟨ho,hct,World.grownBy.refl _ _⟩
   have hsz0:=sumC_zero rows r.1
   go_enter Tryd.func49,Tryd.ntmps49
   go_wp2_with fail
   go_loopw [8,29] (fun s8 s29 wr=>∃ (j:Nat) (cts':List Int),s29=.int .i64 j∧j≤n∧s8=.int .i64 (sumC rows r.1 j:Int)∧OwnI wr Bc (some ⟨g,0,none⟩,L.length,c) cts'∧CtOk rows L cts'∧w.grownBy wr (some g)) (fun _ s29 _=>n - (intOf s29).toNat)
   case atStart=>exact ⟨0,cts,rfl,Nat.zero_le _,by rw [hsz0];rfl,st⟩
   case round =>
    clear st hsz0 cC hcz
    obtain ⟨j,cts',rfl,hjn,rfl,ho',hct',gr⟩:=hrel
    by_cases hlt2:j<n
    ·have hkj:(enabM rows r.1 3)[j]?=some ((enabM rows r.1 3).getD j 0):=by rw [List.getD,List.getElem?_eq_getElem (by rw [← HN.out];exact hlt2)];rfl
     generalize (enabM rows r.1 3).getD j 0=k at hkj
     have hz:=enab_halt (List.mem_of_getElem? hkj)
     have hx:=goM_shape hp hs hz
     have hlf:=left_step hp hs hz
     have hnm:(goM rows r.1 k).1 ∈ (L.map (·.1)).map (·.1):=hcl r hrm _ (List.mem_map.2 ⟨k,List.mem_of_getElem? hkj,rfl⟩)
     obtain ⟨r',hr',he'⟩:=ixS_get hnm
     obtain ⟨mv',hL'⟩:∃ mv',L[ixS (L.map (·.1)) (goM rows r.1 k).1]?=some (r',mv'):=by
      rw [List.getElem?_map] at hr'
      obtain ⟨y,hy,rfl⟩:=Option.map_eq_some_iff.1 hr'
      exact ⟨y.2,by rw [hy]⟩
     have kR:=ih _ r' mv' hL' (by rw [he'];omega)
     rw [he'] at kR
     have hsu:=sumC_succ hkj
     have hcb2:=cnt_bounds hp _ _ hx (Nat.le_refl _)
     have hsl:=sumC_le rows r.1 j
     have hsl2:=sumC_le rows r.1 (j+1)
     have hmid:=hmr j k hkj
     have hrw:wr.rangeAt G (j*4) [.int .i64 (goM rows r.1 k).2,.int .i64 k,.int .i64 (r.1.1.getD k.toNat 0),.int .i64 (ixS (L.map (·.1)) (goM rows r.1 k).1:Int)]:=fun q v hq=>by
      have h1:=hmid q v hq
      exact cell_grownB gr h1 (fun e=>HGG.out (by cases e;rfl))
     generalize ixS (L.map (·.1)) (goM rows r.1 k).1=ix at *
     have hcn:=hcb2.2
     generalize (goM rows r.1 k).2=f at *
     generalize r.1.1.getD k.toNat 0=pc at *
     have HSU:Hid (min (wrap64 ((sumC rows r.1 j:Int)+(cntM rows (goM rows r.1 k).1:Int))) 1000000=(sumC rows r.1 (j+1):Int)):=cnt_int hsl hcn hsu
     have hlt3:(j:Int)<(n:Int):=by omega
     have hj0:(0:Int)≤(j:Int):=by omega
     clear hsu hkj hz hx hlf hnm hr' he' hL' hmid hmr
     have pN:=Blk.new wr 122 [.int .i64 0,.int .i64 0,.int .i64 0,.int .i64 0]
     have hbN:Below wr.heap.size wr (wr.alloc (.cells #[.int .i64 0,.int .i64 0,.int .i64 0,.int .i64 0] 122)):=by go_grown
     go_wp2_with (first | refine wpList_load_mid rfl 122 _ rfl G (j*4) rfl [.int .i64 f,.int .i64 k,.int .i64 pc,.int .i64 (ix:Int)] _ hrw Tryd.underlying122 rfl (by kernel_rfl) ?_ | refine wpList_store_blk rfl 122 _ _ rfl wr.heap.size [.int .i64 f,.int .i64 k,.int .i64 pc,.int .i64 (ix:Int)] rfl rfl pN (by kernel_rfl) rfl rfl ?_)
     intro w3 p3 g3
     have b3:Below wr.heap.size wr w3:=hbN.grown g3 hbN.size (fun q e=>by cases e;exact Nat.le_refl _)
     have cE:w3.cell? ⟨wr.heap.size,3,none⟩=some (.int .i64 (ix:Int)):=by simpa using p3.out.cell 3
     have gr3:w.grownBy w3 (some g):=grown_tr gr (grown_new b3)
     have ho3:=ho'.below b3
     have sp3:=sp.strgrown ho gr3 (by decide) (by decide)
     have bx3:=bx.kept gr3 (own_ne_blk9 ho bx (by decide))
     have kRx:=kR w3 cts' sp3 bx3 ho3 hct'
     clear p3 g3 pN hbN b3 hrw kR gr ho' sp3 bx3 ho3
     generalize wr.heap.size=E at *
     go_wp2_with fail
     refine kRx.mono ?_
     rintro e w4 ⟨cts4,rfl,ho4,hct4,g4⟩
     have gr4:=grown_tr gr3 g4
     clear kRx gr3 g4 cE
     have st9:∃ (j9:Nat) (cts':List Int),(Value.int .i64 ((j:Int)+1))=.int .i64 (j9:Int)∧j9≤n∧(Value.int .i64 (min (wrap64 ((sumC rows r.1 j:Int)+(cntM rows (goM rows r.1 k).1:Int))) 1000000))=.int .i64 (sumC rows r.1 j9:Int)∧OwnI w4 Bc (some ⟨g,0,none⟩,L.length,c) cts'∧CtOk rows L cts'∧w.grownBy w4 (some g):=⟨j+1,cts4,by go_num,by omega,by rw [HSU.out],ho4,hct4,gr4⟩
     clear ho4 hct4 gr4 HSU hcb hcb2 hsl hsl2 hcn HPut HC
     go_wp2
     exact ⟨st9,by simp [intOf];omega⟩
    ·have hjn2:j=n:=by omega
     have hlt3:¬ (j:Int)<(n:Int):=by omega
     have hsa:sumC rows r.1 j=cntM rows r.1:=sumC_all hp hs hne (by rw [← HN.out];omega)
     rw [hsa]
     have cC:=ho'.at9 hla
     have fC:=ho'.frz9 at9
     have ho9:=ho'.set9 at9 (cntM rows r.1:Int)
     have gr9:=grown_tr gr (grown_cell wr g at9 (.int .i64 (cntM rows r.1:Int)))
     have cD:=ho9.at9 hla
     have hct9:=hct'.put hr
     have e9:(cts'.set at9 (cntM rows r.1:Int)).getD at9 0=(cntM rows r.1:Int):=by simp [List.getD,hct'.1,hla]
     rw [e9] at cD
     have HG:Hid (RunsGot (.returned (.int .i64 (cntM rows r.1:Int))) w (wr.setCell ⟨g,at9,none⟩ (.int .i64 (cntM rows r.1:Int))) rows L Bc g c r.1):=⟨_,rfl,ho9,hct9,gr9⟩
     generalize cts'.getD at9 0=old at cC
     generalize cntM rows r.1=cn at *
     clear ho' ho9 gr9 hct9 e9 hsa hjn2 gr hct' hmr ih hcl hsh HPut HC hcb
     go_wp2
     go_ret
     exact HG.out
  ·have hcv:cts.getD at9 0=(cntM rows r.1:Int):=HC.out.resolve_left hcz
   rw [hcv] at cC hcz
   have HG:Hid (RunsGot (.returned (.int .i64 (cntM rows r.1:Int))) w w rows L Bc g c r.1):=⟨cts,rfl,ho,hct,World.grownBy.refl _ _⟩
   have hc1:((cntM rows r.1:Int) == 0)=false:=beq_false_of_ne hcz
   have hc2:decide ((cntM rows r.1:Int)=0)=false:=decide_eq_false hcz
   generalize cntM rows r.1=cn at *
   clear HC hcz hcv hct ih hcl hsh mvr
   go_enter Tryd.func49,Tryd.ntmps49
   go_wp2
   go_ret
   exact HG.out


theorem runs_all (rows:List (List I3)) (L:List (Rec6 V4 × Value)) (X nb vc B Bc g c:Nat) (va:Option Addr) (cs:Sl × Sl × Sl) (hp:progOk rows=true) (hsh:Shaped (L.map (·.1))) (hcl:∀ r ∈ L.map (·.1),∀ t ∈ nxM rows r.1,t.2 ∈ (L.map (·.1)).map (·.1)) (hl:L.length≤2000) :
  ∀ (n at9:Nat) (r:Rec6 V4) (mv:Value),L[at9]?=some (r,mv)→leftN rows r.1<n→RunsC rows L X nb vc B Bc g c va cs at9 r.1
 | 0,_,_,_,_,h=>by omega
 | n+1,at9,r,mv,hr,h=>runs_step rows L X nb vc B Bc g c va cs hp hsh hcl hl hr (fun at' r' mv' hr' h'=>runs_all rows L X nb vc B Bc g c va cs hp hsh hcl hl n at' r' mv' hr' (by omega))
def countV (rows:List (List I3)):Int:=if codeF rows=0 then (cntM rows zeroV:Int) else 0
theorem ctOk_zero (rows:List (List I3)) (L:List (Rec6 V4 × Value)):CtOk rows L (List.replicate L.length 0):=⟨by simp,fun i r mv h=>by
 left
 have hl:i<L.length:=(List.getElem?_eq_some_iff.1 h).1
 simp [List.getD,hl]⟩

theorem implCountRuns_not (a:Option Addr) (len cap:Nat) (rows:List (List I3)) (w:World) (hC:Codes w a len cap rows) (hV:VmShape w) (hc:codeF rows≠0) :
  Calls Tryd.prog 23 #[.agg #[.slice a len cap]] w fun e w'=>e=.returned (.tuple #[.int .i64 0,.int .i64 (codeF rows)])∧Below w.heap.size w w':=by
 have kS:=fun (W:World) (b:Below w.heap.size w W) (t:S4) (h:Vmem W t zeroV)=>spaceOf_not a len cap rows t W (hC.below b) h (hV.below b) hc
 generalize codeF rows=c at *
 have hcn:(c != 0)=true:=by simpa using hc
 have fz:=(shape_fits9 zero_shape).1
 have kN:=implNewVm_is
 have bw:Below w.heap.size w (w.alloc (.cells #[.slice a len cap] 31)):=by go_grown
 have pP:Blk (w.alloc (.cells #[.slice a len cap] 31)) w.heap.size 31 [.slice a len cap]:=blkAt _ _ _ rfl
 go_enter Tryd.func23,Tryd.ntmps23
 go_wp2_with fail
 generalize (w.alloc (.cells #[.slice a len cap] 31))=U at *
 go_cut [4,5] from 6 (fun s4 s5 W=>CutF w W c s4 s5)
 case first =>
  have hdr:Below U.heap.size U U.drew:=by go_grown
  refine wp_region_held_drew (S:=(fun w'=>w'.cell? ⟨w.heap.size,0,none⟩=some (.slice a len cap))) (by kernel_rfl) (by simpa using pP.cell 0) (fun hS0=>?_)
  refine tkm 0 7 (.agg #[.slice a len cap]) ?_
  have pP9:=pP.below hdr
  replace bw:=bel_trans bw hdr
  clear hdr
  generalize U.drew=V at *
  have bt:Below V.heap.size V V:=Below.refl _ _
  refine wpAnyH_ready (rs:=[1,6]) (by kernel_rfl) (by simp) ?_
  refine AllReadyH.cons (o:=⟨some 8,_,_,_,_,_⟩) rfl (fun K hK=>?_) (AllReadyH.cons (o:=⟨some 4,_,_,_,_,_⟩) rfl (fun K hK=>?_) AllReadyH.nil)
  ·go_simp
   refine (kN V).mono ?_
   rintro e V1 ⟨⟨⟨⟨t0a,t0n,t0c⟩,⟨t1a,t1n,t1c⟩,⟨t2a,t2n,t2c⟩,⟨t3a,t3n,t3c⟩⟩,rfl,hO⟩,hb1⟩
   have ut:S4.val ((t0a,t0n,t0c),(t1a,t1n,t1c),(t2a,t2n,t2c),(t3a,t3n,t3c))=.agg #[.slice t0a t0n t0c,.slice t1a t1n t1c,.slice t2a t2n t2c,.slice t3a t3n t3c]:=rfl
   rw [ut]
   have bt:=bel_trans bt hb1
   go_wp2_with fail
   refine hK.out _ _ (cells_kept bt _ _ hS0) (fun hS1=>?_)
   clear hK
   try simp only [Act.put,tka,tkb,tkc]
   refine wpAnyH_ready (rs:=[2,6]) (by kernel_rfl) (by simp) ?_
   refine AllReadyH.cons (o:=⟨some 9,_,_,_,_,_⟩) rfl (fun K hK=>?_) (AllReadyH.cons (o:=⟨some 4,_,_,_,_,_⟩) rfl (fun K hK=>?_) AllReadyH.nil)
   ·have kx:=kS V1 (bel_trans bw bt) ((t0a,t0n,t0c),(t1a,t1n,t1c),(t2a,t2n,t2c),(t3a,t3n,t3c)) (hO.mem fz)
    rw [ut] at kx
    go_simp
    refine kx.mono ?_
    rintro e V2 ⟨rfl,hb2⟩
    have bt:=bel_trans bt hb2
    go_wp2_with fail
    refine hK.out _ _ (cells_kept bt _ _ hS0) (fun hS2=>?_)
    clear hK kx
    try simp only [Act.put,tka,tkb,tkc]
    refine tkm 3 6 (.tuple #[.agg #[.slice none 0 0,.map none],.int .i64 c]) ?_
    refine tkm 4 10 (.agg #[.slice none 0 0,.map none]) ?_
    refine tkm 5 11 (.int .i64 c) ?_
    refine tkr 6 4 (fun K hK=>?_)
    have hb3:Below V2.heap.size V2 (V2.alloc (.cells #[.slice none 0 0,.map none] 61)):=by go_grown
    have pX:Blk (V2.alloc (.cells #[.slice none 0 0,.map none] 61)) V2.heap.size 61 [.slice none 0 0,.map none]:=blkAt _ _ _ rfl
    have hXB:w.heap.size≤V2.heap.size:=Nat.le_trans bw.size bt.size
    have bt:=bel_trans bt hb3
    go_simp
    refine hK.out _ _ (cells_kept bt _ _ hS0) (fun hS3=>?_)
    clear hK
    generalize (V2.alloc (.cells #[.slice none 0 0,.map none] 61))=V3 at *
    obtain ⟨X,hX⟩:∃ X,X=V2.heap.size:=⟨_,rfl⟩
    rw [← hX] at pX hXB ⊢
    clear hX
    try simp only [Act.put,tka,tkb,tkc]
    refine tkz 7 (fun K hK=>?_)
    refine step_store_blkD rfl 61 _ _ rfl X [.slice none 0 0,.map none] rfl rfl pX (by kernel_rfl) rfl rfl ?_
    intro V9 pX9 g9
    have bz:=(bel_trans bw bt).grown g9 (bel_trans bw bt).size (fun q e=>by cases e;exact hXB)
    have hXP:X≠w.heap.size:=blk_ne pX (pP9.below bt) (by decide)
    have c9:=cells_kept bt _ _ hS0
    refine hK.out _ _ (cell_grownB g9 c9 (by simp;omega)) (fun hS4=>?_)
    clear hK
    try simp only [Act.put,tka,tkb,tkc]
    refine tkm 8 5 (.int .i64 c) ?_
    refine wpAnyH_done (by kernel_rfl) ?_ _
    go_wp2_with fail
    go_meet
    case rel=>exact ⟨X,rfl,rfl,bz⟩
   ·have hb3:Below V1.heap.size V1 (V1.alloc (.cells #[.slice none 0 0,.map none] 61)):=by go_grown
    have pX:Blk (V1.alloc (.cells #[.slice none 0 0,.map none] 61)) V1.heap.size 61 [.slice none 0 0,.map none]:=blkAt _ _ _ rfl
    have hXB:w.heap.size≤V1.heap.size:=Nat.le_trans bw.size bt.size
    replace hO:=hO.below hb3
    have bt:=bel_trans bt hb3
    go_simp
    refine hK.out _ _ (cells_kept bt _ _ hS0) (fun hS3=>?_)
    clear hK
    generalize (V1.alloc (.cells #[.slice none 0 0,.map none] 61))=V2 at *
    obtain ⟨X,hX⟩:∃ X,X=V1.heap.size:=⟨_,rfl⟩
    rw [← hX] at pX hXB ⊢
    clear hX
    try simp only [Act.put,tka,tkb,tkc]
    refine tkr 2 9 (fun K hK=>?_)
    have kx:=kS V2 (bel_trans bw bt) ((t0a,t0n,t0c),(t1a,t1n,t1c),(t2a,t2n,t2c),(t3a,t3n,t3c)) (hO.mem fz)
    rw [ut] at kx
    go_simp
    refine kx.mono ?_
    rintro e V3 ⟨rfl,hb2⟩
    replace pX:=pX.below hb2
    have bt:=bel_trans bt hb2
    go_wp2_with fail
    refine hK.out _ _ (cells_kept bt _ _ hS0) (fun hS2=>?_)
    clear hK kx
    try simp only [Act.put,tka,tkb,tkc]
    refine tkm 3 6 (.tuple #[.agg #[.slice none 0 0,.map none],.int .i64 c]) ?_
    refine tkm 4 10 (.agg #[.slice none 0 0,.map none]) ?_
    refine tkm 5 11 (.int .i64 c) ?_
    refine tkz 7 (fun K hK=>?_)
    refine step_store_blkD rfl 61 _ _ rfl X [.slice none 0 0,.map none] rfl rfl pX (by kernel_rfl) rfl rfl ?_
    intro V9 pX9 g9
    have bz:=(bel_trans bw bt).grown g9 (bel_trans bw bt).size (fun q e=>by cases e;exact hXB)
    have hXP:X≠w.heap.size:=blk_ne pX (pP9.below bt) (by decide)
    have c9:=cells_kept bt _ _ hS0
    refine hK.out _ _ (cell_grownB g9 c9 (by simp;omega)) (fun hS4=>?_)
    clear hK
    try simp only [Act.put,tka,tkb,tkc]
    refine tkm 8 5 (.int .i64 c) ?_
    refine wpAnyH_done (by kernel_rfl) ?_ _
    go_wp2_with fail
    go_meet
    case rel=>exact ⟨X,rfl,rfl,bz⟩
  ·have hb3:Below V.heap.size V (V.alloc (.cells #[.slice none 0 0,.map none] 61)):=by go_grown
   have pX:Blk (V.alloc (.cells #[.slice none 0 0,.map none] 61)) V.heap.size 61 [.slice none 0 0,.map none]:=blkAt _ _ _ rfl
   have hXB:w.heap.size≤V.heap.size:=Nat.le_trans bw.size bt.size
   have bt:=bel_trans bt hb3
   go_simp
   refine hK.out _ _ (cells_kept bt _ _ hS0) (fun hS3=>?_)
   clear hK
   generalize (V.alloc (.cells #[.slice none 0 0,.map none] 61))=V1 at *
   obtain ⟨X,hX⟩:∃ X,X=V.heap.size:=⟨_,rfl⟩
   rw [← hX] at pX hXB ⊢
   clear hX
   try simp only [Act.put,tka,tkb,tkc]
   refine tkr 1 8 (fun K hK=>?_)
   go_simp
   refine (kN V1).mono ?_
   rintro e V2 ⟨⟨⟨⟨t0a,t0n,t0c⟩,⟨t1a,t1n,t1c⟩,⟨t2a,t2n,t2c⟩,⟨t3a,t3n,t3c⟩⟩,rfl,hO⟩,hb1⟩
   have ut:S4.val ((t0a,t0n,t0c),(t1a,t1n,t1c),(t2a,t2n,t2c),(t3a,t3n,t3c))=.agg #[.slice t0a t0n t0c,.slice t1a t1n t1c,.slice t2a t2n t2c,.slice t3a t3n t3c]:=rfl
   rw [ut]
   have bt:=bel_trans bt hb1
   go_wp2_with fail
   refine hK.out _ _ (cells_kept bt _ _ hS0) (fun hS1=>?_)
   clear hK
   try simp only [Act.put,tka,tkb,tkc]
   replace pX:=pX.below hb1
   refine tkr 2 9 (fun K hK=>?_)
   have kx:=kS V2 (bel_trans bw bt) ((t0a,t0n,t0c),(t1a,t1n,t1c),(t2a,t2n,t2c),(t3a,t3n,t3c)) (hO.mem fz)
   rw [ut] at kx
   go_simp
   refine kx.mono ?_
   rintro e V3 ⟨rfl,hb2⟩
   replace pX:=pX.below hb2
   have bt:=bel_trans bt hb2
   go_wp2_with fail
   refine hK.out _ _ (cells_kept bt _ _ hS0) (fun hS2=>?_)
   clear hK kx
   try simp only [Act.put,tka,tkb,tkc]
   refine tkm 3 6 (.tuple #[.agg #[.slice none 0 0,.map none],.int .i64 c]) ?_
   refine tkm 4 10 (.agg #[.slice none 0 0,.map none]) ?_
   refine tkm 5 11 (.int .i64 c) ?_
   refine tkz 7 (fun K hK=>?_)
   refine step_store_blkD rfl 61 _ _ rfl X [.slice none 0 0,.map none] rfl rfl pX (by kernel_rfl) rfl rfl ?_
   intro V9 pX9 g9
   have bz:=(bel_trans bw bt).grown g9 (bel_trans bw bt).size (fun q e=>by cases e;exact hXB)
   have hXP:X≠w.heap.size:=blk_ne pX (pP9.below bt) (by decide)
   have c9:=cells_kept bt _ _ hS0
   refine hK.out _ _ (cell_grownB g9 c9 (by simp;omega)) (fun hS4=>?_)
   clear hK
   try simp only [Act.put,tka,tkb,tkc]
   refine tkm 8 5 (.int .i64 c) ?_
   refine wpAnyH_done (by kernel_rfl) ?_ _
   go_wp2_with fail
   go_meet
   case rel=>exact ⟨X,rfl,rfl,bz⟩
 obtain ⟨X,rfl,rfl,bz⟩:=hcut
 clear kS kN bw pP fz
 go_wp2
 refine bodyPost_ret (by simp [results,Tryd.results23,go_sem];try rfl) rfl ?_
 exact ⟨rfl,bz⟩

theorem implCountRuns_ok (a:Option Addr) (len cap:Nat) (rows:List (List I3)) (w:World) (hC:Codes w a len cap rows) (hV:VmShape w) (hc:codeF rows=0) :
  Calls Tryd.prog 23 #[.agg #[.slice a len cap]] w fun e w'=>e=.returned (.tuple #[.int .i64 (cntM rows zeroV:Int),.int .i64 0])∧Below w.heap.size w w':=by
 obtain ⟨hp,hf⟩:=code_parts hc
 obtain ⟨i0,hi9,hz0,hz1,hz2⟩:=info_parts info_int
 obtain ⟨cs,hR⟩:=rows_of_codes6 hC hp
 have kS:=fun (W:World) (b:Below w.heap.size w W) (t:S4) (h:Vmem W t zeroV)=>spaceOf_yes a len cap rows t W (hC.below b) h (hV.below b) hp hf
 clear hc
 have fz:=(shape_fits9 zero_shape).1
 have kN:=implNewVm_is
 have bw:Below w.heap.size w (w.alloc (.cells #[.slice a len cap] 31)):=by go_grown
 have pP:Blk (w.alloc (.cells #[.slice a len cap] 31)) w.heap.size 31 [.slice a len cap]:=blkAt _ _ _ rfl
 go_enter Tryd.func23,Tryd.ntmps23
 go_wp2_with fail
 generalize (w.alloc (.cells #[.slice a len cap] 31))=U at *
 go_cut [4,5] from 6 (fun s4 s5 W=>CutK w W cs rows (fullS rows) s4 s5)
 case first =>
  have hdr:Below U.heap.size U U.drew:=by go_grown
  refine wp_region_held_drew (S:=(fun w'=>w'.cell? ⟨w.heap.size,0,none⟩=some (.slice a len cap))) (by kernel_rfl) (by simpa using pP.cell 0) (fun hS0=>?_)
  refine tkm 0 7 (.agg #[.slice a len cap]) ?_
  have pP9:=pP.below hdr
  replace bw:=bel_trans bw hdr
  clear hdr
  generalize U.drew=V at *
  have bt:Below V.heap.size V V:=Below.refl _ _
  refine wpAnyH_ready (rs:=[1,6]) (by kernel_rfl) (by simp) ?_
  refine AllReadyH.cons (o:=⟨some 8,_,_,_,_,_⟩) rfl (fun K hK=>?_) (AllReadyH.cons (o:=⟨some 4,_,_,_,_,_⟩) rfl (fun K hK=>?_) AllReadyH.nil)
  ·go_simp
   refine (kN V).mono ?_
   rintro e V1 ⟨⟨⟨⟨t0a,t0n,t0c⟩,⟨t1a,t1n,t1c⟩,⟨t2a,t2n,t2c⟩,⟨t3a,t3n,t3c⟩⟩,rfl,hO⟩,hb1⟩
   have ut:S4.val ((t0a,t0n,t0c),(t1a,t1n,t1c),(t2a,t2n,t2c),(t3a,t3n,t3c))=.agg #[.slice t0a t0n t0c,.slice t1a t1n t1c,.slice t2a t2n t2c,.slice t3a t3n t3c]:=rfl
   rw [ut]
   have bt:=bel_trans bt hb1
   go_wp2_with fail
   refine hK.out _ _ (cells_kept bt _ _ hS0) (fun hS1=>?_)
   clear hK
   try simp only [Act.put,tka,tkb,tkc]
   refine wpAnyH_ready (rs:=[2,6]) (by kernel_rfl) (by simp) ?_
   refine AllReadyH.cons (o:=⟨some 9,_,_,_,_,_⟩) rfl (fun K hK=>?_) (AllReadyH.cons (o:=⟨some 4,_,_,_,_,_⟩) rfl (fun K hK=>?_) AllReadyH.nil)
   ·have kx:=kS V1 (bel_trans bw bt) ((t0a,t0n,t0c),(t1a,t1n,t1c),(t2a,t2n,t2c),(t3a,t3n,t3c)) (hO.mem fz)
    rw [ut] at kx
    go_simp
    refine kx.mono ?_
    rintro e V2 ⟨va9,nb,cs',L,rfl,sp,hLF,hR',hb2⟩
    obtain rfl:=(hR.below (bel_trans bw bt)).uniq hR'
    have hBv:w.heap.size≤V1.heap.size:=Nat.le_trans bw.size bt.size
    obtain ⟨va8,vn8,vc8,hva⟩:=own_slice6 sp.row
    have bt:=bel_trans bt hb2
    go_wp2_with fail
    refine hK.out _ _ (cells_kept bt _ _ hS0) (fun hS2=>?_)
    clear hK kx
    try simp only [Act.put,tka,tkb,tkc]
    refine tkm 3 6 (.tuple #[.agg #[va9,.map (some nb)],.int .i64 0]) ?_
    refine tkm 4 10 (.agg #[va9,.map (some nb)]) ?_
    refine tkm 5 11 (.int .i64 0) ?_
    refine tkr 6 4 (fun K hK=>?_)
    have hb3:Below V2.heap.size V2 (V2.alloc (.cells #[.slice none 0 0,.map none] 61)):=by go_grown
    have pX:Blk (V2.alloc (.cells #[.slice none 0 0,.map none] 61)) V2.heap.size 61 [.slice none 0 0,.map none]:=blkAt _ _ _ rfl
    have hXB:w.heap.size≤V2.heap.size:=Nat.le_trans bw.size bt.size
    replace sp:=sp.below hb3
    have bt:=bel_trans bt hb3
    go_simp
    refine hK.out _ _ (cells_kept bt _ _ hS0) (fun hS3=>?_)
    clear hK
    generalize (V2.alloc (.cells #[.slice none 0 0,.map none] 61))=V3 at *
    obtain ⟨X,hX⟩:∃ X,X=V2.heap.size:=⟨_,rfl⟩
    rw [← hX] at pX hXB ⊢
    clear hX
    try simp only [Act.put,tka,tkb,tkc]
    subst hva
    refine tkz 7 (fun K hK=>?_)
    refine step_store_blkD rfl 61 _ _ rfl X [.slice va8 vn8 vc8,.map (some nb)] rfl rfl pX (by kernel_rfl) rfl rfl ?_
    intro V9 pX9 g9
    have bz:=(bel_trans bw bt).grown g9 (bel_trans bw bt).size (fun q e=>by cases e;exact hXB)
    replace sp:=sp.grown g9 pX (by decide) (by decide)
    have hXP:X≠w.heap.size:=blk_ne pX (pP9.below bt) (by decide)
    have c9:=cells_kept bt _ _ hS0
    refine hK.out _ _ (cell_grownB g9 c9 (by simp;omega)) (fun hS4=>?_)
    clear hK
    try simp only [Act.put,tka,tkb,tkc]
    refine tkm 8 5 (.int .i64 0) ?_
    refine wpAnyH_done (by kernel_rfl) ?_ _
    go_wp2_with fail
    go_meet
    case rel=>exact CutK.mk9 (va:=.slice none 0 0) rfl rfl pX9.out sp hLF hXB hBv bz
   ·have hb3:Below V1.heap.size V1 (V1.alloc (.cells #[.slice none 0 0,.map none] 61)):=by go_grown
    have pX:Blk (V1.alloc (.cells #[.slice none 0 0,.map none] 61)) V1.heap.size 61 [.slice none 0 0,.map none]:=blkAt _ _ _ rfl
    have hXB:w.heap.size≤V1.heap.size:=Nat.le_trans bw.size bt.size
    replace hO:=hO.below hb3
    have bt:=bel_trans bt hb3
    go_simp
    refine hK.out _ _ (cells_kept bt _ _ hS0) (fun hS3=>?_)
    clear hK
    generalize (V1.alloc (.cells #[.slice none 0 0,.map none] 61))=V2 at *
    obtain ⟨X,hX⟩:∃ X,X=V1.heap.size:=⟨_,rfl⟩
    rw [← hX] at pX hXB ⊢
    clear hX
    try simp only [Act.put,tka,tkb,tkc]
    refine tkr 2 9 (fun K hK=>?_)
    have kx:=kS V2 (bel_trans bw bt) ((t0a,t0n,t0c),(t1a,t1n,t1c),(t2a,t2n,t2c),(t3a,t3n,t3c)) (hO.mem fz)
    rw [ut] at kx
    go_simp
    refine kx.mono ?_
    rintro e V3 ⟨va9,nb,cs',L,rfl,sp,hLF,hR',hb2⟩
    obtain rfl:=(hR.below (bel_trans bw bt)).uniq hR'
    have hBv:w.heap.size≤V2.heap.size:=Nat.le_trans bw.size bt.size
    obtain ⟨va8,vn8,vc8,hva⟩:=own_slice6 sp.row
    replace pX:=pX.below hb2
    have bt:=bel_trans bt hb2
    go_wp2_with fail
    refine hK.out _ _ (cells_kept bt _ _ hS0) (fun hS2=>?_)
    clear hK kx
    try simp only [Act.put,tka,tkb,tkc]
    refine tkm 3 6 (.tuple #[.agg #[va9,.map (some nb)],.int .i64 0]) ?_
    refine tkm 4 10 (.agg #[va9,.map (some nb)]) ?_
    refine tkm 5 11 (.int .i64 0) ?_
    subst hva
    refine tkz 7 (fun K hK=>?_)
    refine step_store_blkD rfl 61 _ _ rfl X [.slice va8 vn8 vc8,.map (some nb)] rfl rfl pX (by kernel_rfl) rfl rfl ?_
    intro V9 pX9 g9
    have bz:=(bel_trans bw bt).grown g9 (bel_trans bw bt).size (fun q e=>by cases e;exact hXB)
    replace sp:=sp.grown g9 pX (by decide) (by decide)
    have hXP:X≠w.heap.size:=blk_ne pX (pP9.below bt) (by decide)
    have c9:=cells_kept bt _ _ hS0
    refine hK.out _ _ (cell_grownB g9 c9 (by simp;omega)) (fun hS4=>?_)
    clear hK
    try simp only [Act.put,tka,tkb,tkc]
    refine tkm 8 5 (.int .i64 0) ?_
    refine wpAnyH_done (by kernel_rfl) ?_ _
    go_wp2_with fail
    go_meet
    case rel=>exact CutK.mk9 (va:=.slice none 0 0) rfl rfl pX9.out sp hLF hXB hBv bz
  ·have hb3:Below V.heap.size V (V.alloc (.cells #[.slice none 0 0,.map none] 61)):=by go_grown
   have pX:Blk (V.alloc (.cells #[.slice none 0 0,.map none] 61)) V.heap.size 61 [.slice none 0 0,.map none]:=blkAt _ _ _ rfl
   have hXB:w.heap.size≤V.heap.size:=Nat.le_trans bw.size bt.size
   have bt:=bel_trans bt hb3
   go_simp
   refine hK.out _ _ (cells_kept bt _ _ hS0) (fun hS3=>?_)
   clear hK
   generalize (V.alloc (.cells #[.slice none 0 0,.map none] 61))=V1 at *
   obtain ⟨X,hX⟩:∃ X,X=V.heap.size:=⟨_,rfl⟩
   rw [← hX] at pX hXB ⊢
   clear hX
   try simp only [Act.put,tka,tkb,tkc]
   refine tkr 1 8 (fun K hK=>?_)
   go_simp
   refine (kN V1).mono ?_
   rintro e V2 ⟨⟨⟨⟨t0a,t0n,t0c⟩,⟨t1a,t1n,t1c⟩,⟨t2a,t2n,t2c⟩,⟨t3a,t3n,t3c⟩⟩,rfl,hO⟩,hb1⟩
   have ut:S4.val ((t0a,t0n,t0c),(t1a,t1n,t1c),(t2a,t2n,t2c),(t3a,t3n,t3c))=.agg #[.slice t0a t0n t0c,.slice t1a t1n t1c,.slice t2a t2n t2c,.slice t3a t3n t3c]:=rfl
   rw [ut]
   have bt:=bel_trans bt hb1
   go_wp2_with fail
   refine hK.out _ _ (cells_kept bt _ _ hS0) (fun hS1=>?_)
   clear hK
   try simp only [Act.put,tka,tkb,tkc]
   replace pX:=pX.below hb1
   refine tkr 2 9 (fun K hK=>?_)
   have kx:=kS V2 (bel_trans bw bt) ((t0a,t0n,t0c),(t1a,t1n,t1c),(t2a,t2n,t2c),(t3a,t3n,t3c)) (hO.mem fz)
   rw [ut] at kx
   go_simp
   refine kx.mono ?_
   rintro e V3 ⟨va9,nb,cs',L,rfl,sp,hLF,hR',hb2⟩
   obtain rfl:=(hR.below (bel_trans bw bt)).uniq hR'
   have hBv:w.heap.size≤V2.heap.size:=Nat.le_trans bw.size bt.size
   obtain ⟨va8,vn8,vc8,hva⟩:=own_slice6 sp.row
   replace pX:=pX.below hb2
   have bt:=bel_trans bt hb2
   go_wp2_with fail
   refine hK.out _ _ (cells_kept bt _ _ hS0) (fun hS2=>?_)
   clear hK kx
   try simp only [Act.put,tka,tkb,tkc]
   refine tkm 3 6 (.tuple #[.agg #[va9,.map (some nb)],.int .i64 0]) ?_
   refine tkm 4 10 (.agg #[va9,.map (some nb)]) ?_
   refine tkm 5 11 (.int .i64 0) ?_
   subst hva
   refine tkz 7 (fun K hK=>?_)
   refine step_store_blkD rfl 61 _ _ rfl X [.slice va8 vn8 vc8,.map (some nb)] rfl rfl pX (by kernel_rfl) rfl rfl ?_
   intro V9 pX9 g9
   have bz:=(bel_trans bw bt).grown g9 (bel_trans bw bt).size (fun q e=>by cases e;exact hXB)
   replace sp:=sp.grown g9 pX (by decide) (by decide)
   have hXP:X≠w.heap.size:=blk_ne pX (pP9.below bt) (by decide)
   have c9:=cells_kept bt _ _ hS0
   refine hK.out _ _ (cell_grownB g9 c9 (by simp;omega)) (fun hS4=>?_)
   clear hK
   try simp only [Act.put,tka,tkb,tkc]
   refine tkm 8 5 (.int .i64 0) ?_
   refine wpAnyH_done (by kernel_rfl) ?_ _
   go_wp2_with fail
   go_meet
   case rel=>exact CutK.mk9 (va:=.slice none 0 0) rfl rfl pX9.out sp hLF hXB hBv bz
 obtain ⟨X,va,vc,nb,L,rfl,rfl,pX,sp,hLF,hXB,bz⟩:=hcut
 clear kS kN bw pP fz
 have cX0:wc.cell? ⟨X,0,none⟩=some (.slice va L.length vc):=by simpa using pX.cell 0
 have hl2:L.length≤2000:=by
  have e:(L.map (·.1)).length=L.length:=by simp
  rw [hLF] at e
  omega
 obtain ⟨mv,hr⟩:∃ mv,L[0]?=some ((zeroV,0,0),mv):=by
  have e:=fullS_head rows
  rw [← hLF,List.getElem?_map] at e
  obtain ⟨y,hy,e2⟩:=Option.map_eq_some_iff.1 e
  exact ⟨y.2,by rw [hy,← e2]⟩
 have hbz:=bz.size
 have kR:=runs_all rows L X nb vc w.heap.size w.heap.size wc.heap.size L.length va cs hp (by rw [hLF];exact fullS_shaped hp) (by rw [hLF];exact fullS_closed hf) hl2 (leftN rows zeroV+1) 0 (zeroV,0,0) mv hr (Nat.lt_succ_self _)
 rw [← hLF] at sp
 have hc0:=ctOk_zero rows L
 clear hLF hr hXB
 go_wp2_with (at_make;refine wpList_make_full _ rfl _ _ 40 rfl w.heap.size 3 i0 (.int .i64 0) 1 Tryd.underlying40 hi9 hz0 hz1 _ _ _ _ L.length rfl rfl (by omega) (by omega) ?b2 ?b3 (by first | exact hbz | exact Nat.le_refl _) ?_)
 case b2=>first | omega | (rw [hz2];omega)
 case b3=>unfold maxLen;omega
 intro w5 hown hgrow
 rw [made_ints] at hown
 have b5:Below wc.heap.size wc w5:=⟨hgrow.os,hgrow.tape,hgrow.output,hgrow.size,fun k hk=>hgrow.block k hk (by simp)⟩
 have hO:OwnI w5 w.heap.size (some ⟨wc.heap.size,0,none⟩,L.length,L.length) (List.replicate L.length 0):=hown
 have kRx:=kR w5 _ (sp.below b5) (pX.below b5) hO hc0
 have b6:=bel_trans bz b5
 have hgB:w.heap.size≤wc.heap.size:=hbz
 clear kR hown hgrow hO hc0 sp pX cX0 bz b5
 generalize wc.heap.size=g at *
 go_wp2_with fail
 refine kRx.mono ?_
 rintro e w7 ⟨cts,rfl,ho7,hct7,g7⟩
 have b7:=b6.grown g7 b6.size (fun k e=>by cases e;exact hgB)
 clear kRx ho7 hct7 g7 b6
 have HCN:Hid (0=0):=rfl
 go_wp2
 refine bodyPost_ret (by simp [results,Tryd.results23,go_sem];try rfl) rfl ?_
 exact ⟨rfl,b7⟩
theorem implCountRuns_is (a:Option Addr) (len cap:Nat) (rows:List (List I3)) (w:World) (hC:Codes w a len cap rows) (hV:VmShape w) :
  Calls Tryd.prog 23 #[.agg #[.slice a len cap]] w fun e w'=>e=.returned (.tuple #[.int .i64 (countV rows),.int .i64 (codeF rows)])∧Below w.heap.size w w':=by
 unfold countV
 by_cases h:codeF rows=0
 ·rw [if_pos h,h]
  exact implCountRuns_ok a len cap rows w hC hV h
 ·rw [if_neg h]
  exact implCountRuns_not a len cap rows w hC hV h
end Go.Proofs.YtfpopbbmnbehiaaDoor
