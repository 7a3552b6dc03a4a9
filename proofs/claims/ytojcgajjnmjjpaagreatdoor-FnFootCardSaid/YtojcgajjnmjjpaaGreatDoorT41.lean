/-
  Joined: MgiI, FftP, LokA, FindS.
-/
import Derived.Test.YtojcgajjnmjjpaaGreatDoorT39
import Derived.Test.YtojcgajjnmjjpaaGreatDoorT40

namespace Go.Proofs.YtojcgajjnmjjpaaGreatDoor
set_option maxRecDepth 100000
set_option maxHeartbeats 16000000
open Go.RowKit
set_option linter.unusedVariables false
set_option linter.unusedSimpArgs false

def allIt (xs:List Int):Bool:=xs.all itOk
def wfs (xs:List Int):Prop:=∀ x ∈ xs,(Lit.int .i64 x).wf=true
theorem allIt_drop {xs:List Int} {k:Nat} (h:k<xs.length):allIt (xs.drop k)=(itOk (xs.getD k 0) && allIt (xs.drop (k+1))):=by
 unfold allIt
 rw [List.drop_eq_getElem_cons h,List.all_cons]
 simp [List.getD,List.getElem?_eq_getElem h]
theorem itOk_wf {x:Int} (h:itOk x=true):(Lit.int .i64 x).wf=true:=by
 simp only [itOk,decide_eq_true_eq] at h
 exact fits8 (by omega) (by omega)
theorem allIt_wf {xs:List Int} (h:allIt xs=true):wfs xs:=fun x hx=>itOk_wf (List.all_eq_true.1 h x hx)

theorem itemsOK_is (a:Option Addr) (n cap:Nat) (Z:List Int) (w:World) (h:Ints .i64 w a n cap Z) (hn:n≤1048576) (hw:wfs Z) :
  Calls Tryz.prog 59 #[.slice a n cap] w fun e w'=>e=.returned (.bool (allIt Z))∧w=w':=by
 have hl:=h.1
 obtain ⟨r,hr⟩:∃ r,r=allIt Z:=⟨_,rfl⟩
 rw [← hr]
 have HR:Hid (r=allIt (Z.drop 0)):=by rw [Hid];simpa using hr
 clear hr
 go_enter Tryz.func59,Tryz.ntmps59
 go_wp2_with fail
 go_loopw [7] (fun si wr=>∃ k:Nat,k≤n∧si=.int .i64 k∧Hid (r=allIt (Z.drop k))∧w=wr) (fun si _=>n - (Go.RowKit.intOf si).toNat)
 case atStart=>exact ⟨0,by omega,rfl,HR,rfl⟩
 case round =>
  clear HR
  obtain ⟨k,hk,rfl,HR,rfl⟩:=hrel
  by_cases hlt:k<n
  ·have hm:=allIt_drop (xs:=Z) (k:=k) (by omega)
   have hx:=hw (Z.getD k 0) (by simp [List.getD,List.getElem?_eq_getElem (show k<Z.length by omega)])
   obtain ⟨_,_,_,hcase⟩:=h
   rcases hcase with e0 | ⟨b,off,rfl,hb,hc⟩
   ·omega
   have d0:=hc k hlt
   clear hc hb
   generalize Z.getD k 0=x at d0 hm hx
   have kO:=isItem_is x (in_wf8 hx)
   clear hx
   have HM:Hid (allIt (Z.drop k)=(itOk x && allIt (Z.drop (k+1)))):=hm
   clear hm
   have hlt':(k:Int)<(n:Int):=by omega
   have hk0:(0:Int)≤(k:Int):=by omega
   cases hE:itOk x
   ·rw [hE] at kO
    have HF:Hid (r=false):=by rw [Hid,HR.out,HM.out,hE];rfl
    clear HM HR hE
    go_wp2_with fail
    refine (kO _).mono ?_
    rintro e w1 ⟨rfl,rfl⟩
    go_wp2
    go_ret
    exact ⟨by rw [HF.out];rfl,rfl⟩
   ·rw [hE] at kO
    have HF:Hid (r=allIt (Z.drop (k+1))):=by rw [Hid,HR.out,HM.out,hE];rfl
    clear HM HR hE
    go_wp2_with fail
    refine (kO _).mono ?_
    rintro e w1 ⟨rfl,rfl⟩
    go_wp2
    go_roundw
    case rel=>exact ⟨k+1,by omega,by go_num,HF,by first | rfl | trivial⟩
    case measure=>simp [Go.RowKit.intOf];omega
  ·obtain rfl:k=n:=by omega
   have HF:Hid (r=true):=by rw [Hid,HR.out,List.drop_of_length_le (by omega)];rfl
   clear HR
   go_wp2
   go_ret
   exact ⟨by rw [HF.out];rfl,rfl⟩

theorem fold_take {xs acc:List Int} {k:Nat} (h:k<xs.length):(xs.take (k+1)).foldl putI acc=putI ((xs.take k).foldl putI acc) (xs.getD k 0):=by
 rw [take_snoc8 h,List.foldl_append]
 rfl
theorem l08Merge_is (a:Option Addr) (n cap:Nat) (xs:List Int) (a':Option Addr) (n' cap':Nat) (ys:List Int) (w:World) (h:Ints .i64 w a n cap xs) (h':Ints .i64 w a' n' cap' ys) (hn:n≤100000) (hn':n'≤100000) :
  Calls Tryz.prog 99 #[.slice a n cap,.slice a' n' cap'] w fun e w'=>RowGot e w' w.heap.size (mrgI (xs++ys))∧Below w.heap.size w w':=by
 have hl:=h.1
 have hl':=h'.1
 have q0:=empty8 w 3 1 w.heap.size (Nat.le_refl _)
 have b0:Below w.heap.size w (w.alloc (.cells #[] 3)):=by go_grown
 obtain ⟨R,hR⟩:∃ R:World→Value→List Int→Prop,∀ W v zs,R W v zs↔(∃ g c,v=.slice (some ⟨g,0,none⟩) zs.length c∧W.ownsRow w.heap.size 3 1 v zs.length (zs.map (Value.int .i64)))∧Below w.heap.size w W:=⟨fun W v zs=>(∃ g c,v=.slice (some ⟨g,0,none⟩) zs.length c∧W.ownsRow w.heap.size 3 1 v zs.length (zs.map (Value.int .i64)))∧Below w.heap.size w W,fun _ _ _=>Iff.rfl⟩
 have hR0:R (w.alloc (.cells #[] 3)) (.slice (some ⟨w.heap.size,0,none⟩) 0 0) []:=(hR _ _ _).2 ⟨⟨_,_,rfl,q0⟩,b0⟩
 have hlx:∀ k,((xs.take k).foldl putI []).length≤100000:=fun k=>by
  have:=foldl_putI_len (xs.take k) []
  simp at this
  omega
 have hly:∀ k,((ys.take k).foldl putI (mrgI xs)).length≤200000:=fun k=>by
  have h1:=foldl_putI_len (ys.take k) (mrgI xs)
  have h2:=mrgI_len xs
  simp at h1
  omega
 clear q0 b0
 go_enter Tryz.func99,Tryz.ntmps99
 go_wp2_with fail
 go_loopw [5,6] (fun so si wr=>∃ k:Nat,k≤n∧si=.int .i64 k∧R wr so ((xs.take k).foldl putI [])) (fun _ si _=>n - (Go.RowKit.intOf si).toNat)
 case atStart=>exact ⟨0,by omega,rfl,hR0⟩
 case round =>
  obtain ⟨k,hk,rfl,hr⟩:=hrel
  obtain ⟨⟨g,c,hv,q⟩,hb⟩:=(hR _ _ _).1 hr
  subst hv
  by_cases hlt:k<n
  ·have hfo:=fold_take (xs:=xs) (acc:=[]) (k:=k) (by omega)
   obtain ⟨_,_,_,hcase⟩:=h.below hb
   rcases hcase with e0 | ⟨b,off,rfl,hb9,hc⟩
   ·omega
   have d0:=hc k hlt
   have hlz:=hlx k
   generalize xs.getD k 0=x at d0 hfo
   generalize hzs:(xs.take k).foldl putI []=zs at *
   have kP:=l08Put_is g 0 zs.length c zs x wr (ints8 q) (by omega)
   have HFo:Hid ((xs.take (k+1)).foldl putI []=putI zs x):=hfo
   clear hfo hc hb9 hzs
   have hlt':(k:Int)<(n:Int):=by omega
   have hk0:(0:Int)≤(k:Int):=by omega
   have hs9:=hb.size
   go_wp2_with fail
   refine kP.mono ?_
   rintro e w1 ⟨⟨v1,rfl,q1⟩,hb1⟩
   obtain ⟨g1,c1,rfl⟩:=some8 q1 (by
    have hm:=(putI_mem zs x x).2 (.inl rfl)
    exact List.length_pos_of_mem hm)
   have hr1:R w1 (.slice (some ⟨g1,0,none⟩) (putI zs x).length c1) ((xs.take (k+1)).foldl putI []):=by
    rw [HFo.out]
    exact (hR _ _ _).2 ⟨⟨_,_,rfl,lower8 q1 hs9⟩,bel8 hb hb1⟩
   clear q1 hb1 kP
   go_wp2
   go_roundw
   case rel=>exact ⟨k+1,by omega,by go_num,hr1⟩
   case measure=>simp [Go.RowKit.intOf];omega
  ·obtain rfl:k=n:=by omega
   have e9:(xs.take k).foldl putI []=mrgI xs:=by rw [List.take_of_length_le (by omega)];rfl
   rw [e9] at hr q
   clear e9 hlt hR0
   rw [show ((xs.take k).foldl putI []).length=(mrgI xs).length by rw [List.take_of_length_le (by omega)];rfl] at *
   go_wp2_with fail
   go_loopw [5,7] (fun so si wr=>∃ k:Nat,k≤n'∧si=.int .i64 k∧R wr so ((ys.take k).foldl putI (mrgI xs))) (fun _ si _=>n' - (Go.RowKit.intOf si).toNat)
   case atStart=>exact ⟨0,by omega,rfl,hr⟩
   case round =>
    clear hr q hb
    obtain ⟨j,hj,rfl,hr⟩:=hrel
    obtain ⟨⟨g2,c2,hv,q⟩,hb⟩:=(hR _ _ _).1 hr
    subst hv
    by_cases hlt:j<n'
    ·have hfo:=fold_take (xs:=ys) (acc:=mrgI xs) (k:=j) (by omega)
     obtain ⟨_,_,_,hcase⟩:=h'.below hb
     rcases hcase with e0 | ⟨b,off,rfl,hb9,hc⟩
     ·omega
     have d0:=hc j hlt
     have hlz:=hly j
     generalize ys.getD j 0=x at d0 hfo
     generalize hzs:(ys.take j).foldl putI (mrgI xs)=zs at *
     have kP:=l08Put_is g2 0 zs.length c2 zs x wr (ints8 q) (by omega)
     have HFo:Hid ((ys.take (j+1)).foldl putI (mrgI xs)=putI zs x):=hfo
     clear hfo hc hb9 hzs
     have hlt':(j:Int)<(n':Int):=by omega
     have hk0:(0:Int)≤(j:Int):=by omega
     have hs9:=hb.size
     go_wp2_with fail
     refine kP.mono ?_
     rintro e w1 ⟨⟨v1,rfl,q1⟩,hb1⟩
     obtain ⟨g1,c1,rfl⟩:=some8 q1 (by
      have hm:=(putI_mem zs x x).2 (.inl rfl)
      exact List.length_pos_of_mem hm)
     have hr1:R w1 (.slice (some ⟨g1,0,none⟩) (putI zs x).length c1) ((ys.take (j+1)).foldl putI (mrgI xs)):=by
      rw [HFo.out]
      exact (hR _ _ _).2 ⟨⟨_,_,rfl,lower8 q1 hs9⟩,bel8 hb hb1⟩
     clear q1 hb1 kP
     go_wp2
     go_roundw
     case rel=>exact ⟨j+1,by omega,by go_num,hr1⟩
     case measure=>simp [Go.RowKit.intOf];omega
    ·obtain rfl:j=n':=by omega
     have HE:Hid ((ys.take j).foldl putI (mrgI xs)=mrgI (xs++ys)):=by
      rw [Hid,List.take_of_length_le (by omega)]
      unfold mrgI
      rw [List.foldl_append]
     clear hr
     generalize (ys.take j).foldl putI (mrgI xs)=zs at *
     go_wp2
     go_ret
     exact ⟨⟨_,rfl,by rw [← HE.out];exact q⟩,hb⟩


theorem tree_head (rows:List (List I3)) (f:Nat) (m:V4):m ∈ treeM rows f m:=by cases f<;>simp [treeM]
theorem tree_closed {rows:List (List I3)} (hp:progOk rows=true):∀ (f:Nat) (m:V4),shapeOk m=true→leftN rows m≤f→∀ x ∈ treeM rows f m,∀ t ∈ nxM rows x,t.2 ∈ treeM rows f m
 | 0,m,hs,hl,x,hx,t,ht=>by
  have e:x=m:=by simpa [treeM] using hx
  subst e
  unfold nxM at ht
  rw [enab_none hp hs (by omega)] at ht
  simp at ht
 | f+1,m,hs,hl,x,hx,t,ht=>by
  have hx2:x=m∨x ∈ (nxM rows m).flatMap fun t=>treeM rows f t.2:=by simpa [treeM] using hx
  show t.2 ∈ m::(nxM rows m).flatMap fun t=>treeM rows f t.2
  rcases hx2 with rfl | hx2
  ·exact List.mem_cons_of_mem _ (List.mem_flatMap.2 ⟨t,ht,tree_head rows f t.2⟩)
  ·obtain ⟨u,hu,hxu⟩:=List.mem_flatMap.1 hx2
   obtain ⟨h1,h2⟩:=nxM_mem hu
   have hsu:=nxM_shape hp hs hu
   have hlu:=left_step hp hs h1
   rw [← h2] at hlu
   exact List.mem_cons_of_mem _ (List.mem_flatMap.2 ⟨u,hu,tree_closed hp f u.2 hsu (by omega) x hxu t ht⟩)
theorem small_roomM {rows:List (List I3)} (h:ProgS rows) {m:V4} (hs:shapeOk m=true):(fullM rows m).length≤1749:=by
 obtain ⟨hp,h0,h1,h2⟩:=h
 have hz:∀ k,remM rows m k≤(codeM rows k).length:=fun k=>by unfold remM;omega
 have hl:=treeM_len hp 8 m hs
 have hm:=treeN_mono 8 _ _ _ 3 3 2 (Nat.le_trans (hz 0) h0) (Nat.le_trans (hz 1) h1) (Nat.le_trans (hz 2) h2)
 rw [treeN_332] at hm
 have hn:=nodup_le ((fullM rows m).map (·.1)) (treeM rows 8 m) (fullM_nodup rows m) (fun x hx=>by
  obtain ⟨r,hr,rfl⟩:=List.mem_map.1 hx
  have a:=hz 0
  have b:=hz 1
  have c:=hz 2
  exact fullM_ind (fun x=>x ∈ treeM rows 8 m) (tree_head rows 8 m) (tree_closed hp 8 m hs (by unfold leftN;omega)) r hr)
 rw [List.length_map] at hn
 omega
theorem rise_len:∀ (xs:List Int) (a b:Int),xs.Pairwise (· < ·)→(∀ x ∈ xs,a≤x∧x≤b)→(xs.length:Int)≤max (b - a+1) 0
 | [],a,b,_,_=>by simp;omega
 | x::xs,a,b,h,hb=>by
  obtain ⟨h1,h2⟩:=List.pairwise_cons.1 h
  have hx:=hb x (by simp)
  have ih:=rise_len xs (x+1) b h2 (fun y hy=>⟨by have:=h1 y hy;omega,(hb y (by simp [hy])).2⟩)
  simp only [List.length_cons,Int.natCast_add,Int.natCast_one]
  omega
theorem foot_mem {rows:List (List I3)} {m:V4} (hp:progOk rows=true) (hs:shapeOk m=true) (hl:(fullM rows m).length<2000) (y:Int):y ∈ footA rows m↔∃ r ∈ fullM rows m,y ∈ lookM r.1:=by
 rw [footA_ok (by rw [hp,hs];rfl) hl,mrgI_mem,List.mem_flatMap]
theorem foot_items {rows:List (List I3)} {m:V4} (hp:progOk rows=true) (hs:shapeOk m=true) (hl:(fullM rows m).length<2000):(∀ y ∈ footA rows m,itOk y=true)∧(footA rows m).length≤23:=by
 have h1:∀ y ∈ footA rows m,itOk y=true:=fun y hy=>by
  obtain ⟨r,hr,h⟩:=(foot_mem hp hs hl y).1 hy
  exact look_ok (fullM_shaped hp hs r hr) y h
 refine ⟨h1,?_⟩
 have h2:(footA rows m).Pairwise (· < ·):=by
  rw [footA_ok (by rw [hp,hs];rfl) hl]
  exact mrgI_rises _
 have:=rise_len (footA rows m) 0 22 h2 (fun y hy=>by
  have:=h1 y hy
  simp only [itOk,decide_eq_true_eq] at this
  omega)
 omega
def feetI (rows:List (List I3)) (m:V4) (i:Nat):List Int:=lookM m++(((enabM rows m 3).take i).map fun k=>footA rows (goM rows m k).1).flatten
theorem feetI_succ {rows:List (List I3)} {m:V4} {i:Nat} {k:Int} (h:(enabM rows m 3)[i]?=some k):feetI rows m (i+1)=feetI rows m i++footA rows (goM rows m k).1:=by
 unfold feetI
 rw [List.take_add_one,h]
 simp
theorem feet_law {rows:List (List I3)} (h:ProgS rows) {m:V4} (hs:shapeOk m=true) {i:Nat} (hi:(enabM rows m 3).length≤i):mrgI (feetI rows m i)=footA rows m:=by
 have hp:=h.1
 have hroom:∀ x,shapeOk x=true→(fullM rows x).length<2000:=fun x hx=>by have:=small_roomM h hx;omega
 rw [footA_ok (by rw [hp,hs];rfl) (hroom m hs)]
 refine mrgI_eq (fun y=>?_)
 unfold feetI
 rw [List.take_of_length_le hi,List.mem_append,List.mem_flatten,List.mem_flatMap]
 have hsub:∀ k ∈ enabM rows m 3,∀ r ∈ fullM rows (goM rows m k).1,r.1 ∈ (fullM rows m).map (·.1):=fun k hk=>by
  have hm:m ∈ (fullM rows m).map (·.1):=List.mem_map.2 ⟨(m,0,0),List.mem_of_getElem? (fullM_head rows m),rfl⟩
  have hcl:∀ x,x ∈ (fullM rows m).map (·.1)→∀ t ∈ nxM rows x,t.2 ∈ (fullM rows m).map (·.1):=fun x hx t ht=>by
   obtain ⟨r,hr,rfl⟩:=List.mem_map.1 hx
   exact fullM_closed (by have:=hroom m hs;omega) r hr t ht
  exact fullM_ind (fun x=>x ∈ (fullM rows m).map (·.1)) (hcl m hm (k,(goM rows m k).1) (List.mem_map.2 ⟨k,hk,rfl⟩)) hcl
 constructor
 ·rintro (hy | ⟨l,hl,hy⟩)
  ·exact ⟨(m,0,0),List.mem_of_getElem? (fullM_head rows m),hy⟩
  ·obtain ⟨k,hk,rfl⟩:=List.mem_map.1 hl
   have hsx:=goM_shape hp hs (enab_halt hk)
   obtain ⟨r,hr,hy⟩:=(foot_mem hp hsx (hroom _ hsx) y).1 hy
   obtain ⟨q,hq,e⟩:=List.mem_map.1 (hsub k hk r hr)
   exact ⟨q,hq,by rw [e];exact hy⟩
 ·rintro ⟨r,hr,hy⟩
  have key:=fullM_ind (rows:=rows) (m:=m) (fun x=>x=m∨∃ k ∈ enabM rows m 3,x ∈ (fullM rows (goM rows m k).1).map (·.1)) (.inl rfl) (fun x hx t ht=>by
   rcases hx with rfl | ⟨k,hk,hx⟩
   ·obtain ⟨k,hk,rfl⟩:=List.mem_map.1 ht
    exact .inr ⟨k,hk,List.mem_map.2 ⟨(_,0,0),List.mem_of_getElem? (fullM_head rows _),rfl⟩⟩
   ·obtain ⟨q,hq,rfl⟩:=List.mem_map.1 hx
    exact .inr ⟨k,hk,fullM_closed (by have:=hroom _ (goM_shape hp hs (enab_halt hk));omega) q hq t ht⟩) r hr
  rcases key with e | ⟨k,hk,hx⟩
  ·exact .inl (by rw [← e];exact hy)
  ·obtain ⟨q,hq,e⟩:=List.mem_map.1 hx
   have hsx:=goM_shape hp hs (enab_halt hk)
   exact .inr ⟨_,List.mem_map.2 ⟨k,hk,rfl⟩,(foot_mem hp hsx (hroom _ hsx) y).2 ⟨q,hq,by rw [e];exact hy⟩⟩
theorem feetI_ok {rows:List (List I3)} (h:ProgS rows) {m:V4} (hs:shapeOk m=true):∀ i,i≤3→(∀ y ∈ feetI rows m i,itOk y=true)∧(feetI rows m i).length≤3+23*i
 | 0,_=>by
  have e:feetI rows m 0=lookM m:=by simp [feetI]
  rw [e]
  exact ⟨look_ok hs,by simp [lookM]⟩
 | i+1,hi=>by
  obtain ⟨h1,h2⟩:=feetI_ok h hs i (by omega)
  cases e:(enabM rows m 3)[i]? with
  | none =>
   have e2:feetI rows m (i+1)=feetI rows m i:=by unfold feetI;rw [List.take_add_one,e];simp
   rw [e2]
   exact ⟨h1,by omega⟩
  | some k =>
   have hsx:=goM_shape h.1 hs (enab_halt (List.mem_of_getElem? e))
   obtain ⟨k1,k2⟩:=foot_items h.1 hsx (by have:=small_roomM h hsx;omega)
   rw [feetI_succ e]
   refine ⟨fun y hy=>?_,by rw [List.length_append];omega⟩
   rcases List.mem_append.1 hy with hy | hy
   ·exact h1 y hy
   ·exact k1 y hy


theorem look_take (m:V4) {k:Nat} (hk:k<3):(lookM m).take (k+1)=(lookM m).take k++[8*(k:Int)+m.1.getD k 0]:=by
 match k,hk with
 | 0,_=>simp [lookM]
 | 1,_=>simp [lookM]
 | 2,_=>simp [lookM]
theorem l08Looks_is (s:S4) (m:V4) (w:World) (h:Vmem w s m) (hs:shapeOk m=true) :
  Calls Tryz.prog 100 #[s.val] w fun e w'=>RowGot e w' w.heap.size (lookM m)∧Below w.heap.size w w':=by
 obtain ⟨i0,hi,hz0,hz1,hz2⟩:=info_parts info_int
 obtain ⟨h1,_⟩:=h
 have hl3:=(shape_parts hs).1
 have hpc:=fun k hk=>pcs_ok hs (k:=k) hk
 obtain ⟨⟨a0,n0,c0⟩,⟨a1,n1,c1⟩,⟨a2,n2,c2⟩,⟨a3,n3,c3⟩⟩:=s
 have uA:S4.val ((a0,n0,c0),(a1,n1,c1),(a2,n2,c2),(a3,n3,c3))=.agg #[.slice a0 n0 c0,.slice a1 n1 c1,.slice a2 n2 c2,.slice a3 n3 c3]:=rfl
 simp only [uA] at *
 clear uA
 replace h1:Ints .i64 w a0 n0 c0 m.1:=h1.1
 have bw:Below w.heap.size w ((w.alloc (.cells #[.slice a0 n0 c0,.slice a1 n1 c1,.slice a2 n2 c2,.slice a3 n3 c3] 37)).alloc (.cells #[] 3)):=by go_grown
 have pS:Blk ((w.alloc (.cells #[.slice a0 n0 c0,.slice a1 n1 c1,.slice a2 n2 c2,.slice a3 n3 c3] 37)).alloc (.cells #[] 3)) w.heap.size 37 [.slice a0 n0 c0,.slice a1 n1 c1,.slice a2 n2 c2,.slice a3 n3 c3]:=blkOld _ (blkAt _ _ _ rfl)
 have q0:=empty8 (w.alloc (.cells #[.slice a0 n0 c0,.slice a1 n1 c1,.slice a2 n2 c2,.slice a3 n3 c3] 37)) 3 1 (w.heap.size+1) (by simp)
 go_enter Tryz.func100,Tryz.ntmps100
 go_wp2_with fail
 generalize (w.alloc (.cells #[.slice a0 n0 c0,.slice a1 n1 c1,.slice a2 n2 c2,.slice a3 n3 c3] 37)).alloc (.cells #[] 3)=W0 at *
 simp only [World.size_alloc] at q0
 go_loopw [3,4] (fun so si wr=>∃ (k:Nat) (v:Value),v=so∧k≤3∧si=.int .i64 k∧wr.ownsRow (w.heap.size+1) 3 1 v k (((lookM m).take k).map (Value.int .i64))∧Blk wr w.heap.size 37 [.slice a0 n0 c0,.slice a1 n1 c1,.slice a2 n2 c2,.slice a3 n3 c3]∧Below w.heap.size w wr) (fun _ si _=>3 - (Go.RowKit.intOf si).toNat)
 case atStart=>exact ⟨0,_,rfl,by omega,rfl,q0,pS,bw⟩
 case round =>
  clear q0 pS bw
  obtain ⟨k,so,rfl,hk,rfl,q,pS,bw⟩:=hrel
  by_cases hlt:k<3
  ·have hk3:(k:Int)<3:=by omega
   have hk0:(0:Int)≤(k:Int):=by omega
   have hln:=h1.1
   have hkn:(k:Int)<(n0:Int):=by omega
   have HT:Hid ((lookM m).take (k+1)=(lookM m).take k++[8*(k:Int)+m.1.getD k 0]):=look_take m hlt
   have kI:=l08Item_is (k:Int) (m.1.getD k 0) wr (inB8_true.2 (by omega)) (hpc k hlt)
   obtain ⟨_,_,_,hcase⟩:=h1.below bw
   rcases hcase with e0 | ⟨b,off,rfl,hb9,hc⟩
   ·omega
   have d0:=hc k (by omega)
   have gS0:wr.cell? ⟨w.heap.size,0,none⟩=some (.slice (some ⟨b,off,none⟩) n0 c0):=by simpa using pS.cell 0
   generalize m.1.getD k 0=p at d0 HT kI
   have hsz:=bw.size
   have hsl:=pS.lt
   clear hc hb9 hln
   go_wp2_with fail
   refine kI.mono ?_
   rintro e w3 ⟨rfl,rfl⟩
   clear kI
   generalize 8*(k:Int)+p=zz at *
   go_wp2_with (at_builtin;refine wpList_append_own _ rfl _ _ 35 rfl (w.heap.size+1) 3 i0 (.int .i64 0) 1 8 Tryz.underlying35 hi hz0 hz1 hz2 rfl (by decide) _ _ _ rfl (q.alloc _) ⟨wr.heap.size,0,none⟩ 1 1 [.int .i64 zz] rfl rfl (cell_one_new _ _ _) (by simp [Value.oneCell']) ?c3 ?c4 ?c5 ?_)
   case c3=>unfold maxLen;omega
   case c4=>omega
   case c5=>simp;omega
   intro v' wn hown' hgrow _
   have R:wn.ownsRow (w.heap.size+1) 3 1 v' (k+1) (((lookM m).take (k+1)).map (Value.int .i64)):=by
    rw [HT.out,List.map_append]
    simpa [List.map_take] using hown'
   have bn:Below w.heap.size w wn:=(bw.alloc hsz _).grown hgrow (by simp;omega) (fun k hk=>by have:=(q.lt k hk).1;omega)
   have pn:Blk wn w.heap.size 37 [.slice (some ⟨b,off,none⟩) n0 c0,.slice a1 n1 c1,.slice a2 n2 c2,.slice a3 n3 c3]:=(pS.below (by go_grown:Below wr.heap.size wr (wr.alloc (.cells #[.int .i64 zz] 3)))).kept hgrow (fun e=>by have:=(q.lt _ e).1;omega)
   clear hown' hgrow q bw pS HT gS0 d0
   go_wp2
   go_roundw
   case rel=>exact ⟨k+1,_,rfl,by omega,by go_num,R,pn,bn⟩
   case measure=>simp [Go.RowKit.intOf];omega
  ·obtain rfl:k=3:=by omega
   obtain ⟨ga,gc,rfl⟩:=some8 q (by omega)
   go_wp2
   go_ret
   exact ⟨⟨_,rfl,lower8 q (by omega)⟩,bw⟩
theorem implLooksAt_bad (a:Option Addr) (len cap:Nat) (rows:List (List I3)) (s:S4) (m:V4)  (w:World) (hC:Codes w a len cap rows) (h:Vmem w s m) (hV:VmShape w) (hok:(progOk rows && shapeOk m)=false) :
  Calls Tryz.prog 13 #[.agg #[.slice a len cap],s.val] w fun e w'=>e=.returned (.tuple #[.slice none 0 0,.int .i64 1])∧Below w.heap.size w w':=by
 have hM:=fun (W:World) (hb:Below w.heap.size w W)=>h.below hb
 have kM:=fun w hC h hV=>machineOf_bad a len cap rows s m w hC h hV hok
 obtain ⟨⟨a0,n0,c0⟩,⟨a1,n1,c1⟩,⟨a2,n2,c2⟩,⟨a3,n3,c3⟩⟩:=s
 have uA:S4.val ((a0,n0,c0),(a1,n1,c1),(a2,n2,c2),(a3,n3,c3))=.agg #[.slice a0 n0 c0,.slice a1 n1 c1,.slice a2 n2 c2,.slice a3 n3 c3]:=rfl
 rw [uA] at kM ⊢
 clear uA h
 have bw:Below w.heap.size w ((w.alloc (.cells #[.slice a len cap] 25)).alloc (.cells #[.slice a0 n0 c0,.slice a1 n1 c1,.slice a2 n2 c2,.slice a3 n3 c3] 37)):=by go_grown
 go_enter Tryz.func13,Tryz.ntmps13
 go_wp2_with fail
 refine (kM _ (hC.below bw) (hM _ bw) (hV.below bw)).mono ?_
 rintro e w1 ⟨rfl,hb⟩
 replace bw:=bel_trans bw hb
 skip
 skip
 have hg1:w.heap.size<w1.heap.size:=Nat.lt_of_lt_of_le (by simp;omega) hb.size
 clear hb kM hM hV hC
 have pN:=Blk.new w1 70 [.slice none 0 0,.int .i64 0,.int .i64 0,.int .i64 0,.slice none 0 0,.int .i64 0,.int .i64 0,.int .i64 0,.slice none 0 0,.int .i64 0,.int .i64 0,.int .i64 0,.int .i64 0,.int .i64 0,.int .i64 0,.int .i64 0,.int .i64 0,.int .i64 0]
 have bN:Below w1.heap.size w1 (w1.alloc (.cells #[.slice none 0 0,.int .i64 0,.int .i64 0,.int .i64 0,.slice none 0 0,.int .i64 0,.int .i64 0,.int .i64 0,.slice none 0 0,.int .i64 0,.int .i64 0,.int .i64 0,.int .i64 0,.int .i64 0,.int .i64 0,.int .i64 0,.int .i64 0,.int .i64 0] 70)):=by go_grown
 go_wp2_with (refine wpList_store_blk rfl 70 _ _ rfl w1.heap.size [.slice none 0 0,.int .i64 0,.int .i64 0,.int .i64 0,.slice none 0 0,.int .i64 0,.int .i64 0,.int .i64 0,.slice none 0 0,.int .i64 0,.int .i64 0,.int .i64 0,.int .i64 0,.int .i64 0,.int .i64 0,.int .i64 0,.int .i64 0,.int .i64 0] rfl rfl pN (by kernel_rfl) rfl rfl ?_)
 intro w2 pM g2
 skip
 replace bw:=(bel_trans bw bN).grown g2 (by simp;omega) (fun x hx=>by cases hx;omega)
 clear g2 bN pN
 generalize w1.heap.size=gM at *
 go_wp2
 go_ret2
 exact ⟨rfl,bw⟩

theorem implLooksAt_ok (a:Option Addr) (len cap:Nat) (rows:List (List I3)) (s:S4) (m:V4)  (w:World) (hC:Codes w a len cap rows) (h:Vmem w s m) (hV:VmShape w) (hp:progOk rows=true) (hs:shapeOk m=true) :
  Calls Tryz.prog 13 #[.agg #[.slice a len cap],s.val] w fun e w'=>(∃ s9:Sl,e=.returned (.tuple #[.slice s9.1 s9.2.1 s9.2.2,.int .i64 0])∧OwnI w' w.heap.size s9 (lookM m))∧Below w.heap.size w w':=by
 obtain ⟨-,cs,hR⟩:=hC.rowsAt hp
 have hM:=fun (W:World) (hb:Below w.heap.size w W)=>h.below hb
 have kM:=fun w hC h hV=>machineOf_ok a len cap rows s m w hC h hV hp hs
 obtain ⟨⟨a0,n0,c0⟩,⟨a1,n1,c1⟩,⟨a2,n2,c2⟩,⟨a3,n3,c3⟩⟩:=s
 have uA:S4.val ((a0,n0,c0),(a1,n1,c1),(a2,n2,c2),(a3,n3,c3))=.agg #[.slice a0 n0 c0,.slice a1 n1 c1,.slice a2 n2 c2,.slice a3 n3 c3]:=rfl
 rw [uA] at kM ⊢
 clear uA h
 have bw:Below w.heap.size w ((w.alloc (.cells #[.slice a len cap] 25)).alloc (.cells #[.slice a0 n0 c0,.slice a1 n1 c1,.slice a2 n2 c2,.slice a3 n3 c3] 37)):=by go_grown
 go_enter Tryz.func13,Tryz.ntmps13
 go_wp2_with fail
 refine (kM _ (hC.below bw) (hM _ bw) (hV.below bw)).mono ?_
 rintro e w1 ⟨⟨cs9,rfl,HI⟩,hb⟩
 obtain rfl:=(hR.below bw).uniq HI
 replace bw:=bel_trans bw hb
 skip
 skip
 have hg1:w.heap.size<w1.heap.size:=Nat.lt_of_lt_of_le (by simp;omega) hb.size
 clear hb kM hM hV hC
 have pN:=Blk.new w1 70 [.slice none 0 0,.int .i64 0,.int .i64 0,.int .i64 0,.slice none 0 0,.int .i64 0,.int .i64 0,.int .i64 0,.slice none 0 0,.int .i64 0,.int .i64 0,.int .i64 0,.int .i64 0,.int .i64 0,.int .i64 0,.int .i64 0,.int .i64 0,.int .i64 0]
 have bN:Below w1.heap.size w1 (w1.alloc (.cells #[.slice none 0 0,.int .i64 0,.int .i64 0,.int .i64 0,.slice none 0 0,.int .i64 0,.int .i64 0,.int .i64 0,.slice none 0 0,.int .i64 0,.int .i64 0,.int .i64 0,.int .i64 0,.int .i64 0,.int .i64 0,.int .i64 0,.int .i64 0,.int .i64 0] 70)):=by go_grown
 go_wp2_with (refine wpList_store_blk rfl 70 _ _ rfl w1.heap.size (machCells cs.1.val cs.2.1.val cs.2.2.val m) rfl rfl pN (by kernel_rfl) rfl rfl ?_)
 intro w2 pM g2
 skip
 replace bw:=(bel_trans bw bN).grown g2 (by simp;omega) (fun x hx=>by cases hx;omega)
 clear g2 bN pN
 generalize w1.heap.size=gM at *
 have kE:=looks_is gM 0 cs m w2 (fun j v hj=>by rw [Nat.zero_add,pM.out.cell];exact hj) hs
 go_wp2_with fail
 refine kE.mono ?_
 rintro e w3 ⟨⟨v,rfl,hO⟩,hb⟩
 obtain ⟨sa,sc,rfl⟩:=slice8 hO
 have hO2:OwnI w3 w.heap.size (sa,(lookM m).length,sc) (lookM m):=lower8 hO bw.size
 replace bw:=bel_trans bw hb
 simp only
 go_wp2
 go_ret2
 exact ⟨⟨(sa,(lookM m).length,sc),rfl,hO2⟩,bw⟩

def lookA (rows:List (List I3)) (m:V4):List Int:=if progOk rows && shapeOk m then lookM m else []
theorem implLooksAt_is (a:Option Addr) (len cap:Nat) (rows:List (List I3)) (s:S4) (m:V4) (w:World) (hC:Codes w a len cap rows) (h:Vmem w s m) (hV:VmShape w) :
  Calls Tryz.prog 13 #[.agg #[.slice a len cap],s.val] w fun e w'=>(∃ t:Sl,e=.returned (.tuple #[.slice t.1 t.2.1 t.2.2,.int .i64 (stuckC rows m)])∧OwnI w' w.heap.size t (lookA rows m))∧Below w.heap.size w w':=by
 unfold stuckC lookA
 cases hok:(progOk rows && shapeOk m)
 ·refine (implLooksAt_bad a len cap rows s m w hC h hV hok).mono ?_
  rintro e w' ⟨rfl,hb⟩
  exact ⟨⟨(none,0,0),rfl,World.ownsRow_nil _ _ _ _⟩,hb⟩
 ·obtain ⟨hp,hs⟩:=both_ok hok
  exact implLooksAt_ok a len cap rows s m w hC h hV hp hs


theorem beq_tf {x t:ByteArray} (h:¬ x=t):(x.toList == t.toList)=false:=by
 rw [beq_eq_false_iff_ne]
 intro e
 rw [ByteArray.toList_eq,ByteArray.toList_eq] at e
 exact h (ByteArray.ext (Array.ext' e))
def findT (ts:List ByteArray) (t:ByteArray):Nat→Int
 | 0=>-1
 | n+1=>if ts.getD n ByteArray.empty=t then (n:Int) else findT ts t n
theorem findT_iff {ts:List ByteArray} {t:ByteArray}:∀ n,n≤ts.length→(0≤findT ts t n↔t ∈ ts.take n)
 | 0,_=>by simp [findT]
 | n+1,h=>by
  have ih:=findT_iff (ts:=ts) (t:=t) n (by omega)
  have e:ts.take (n+1)=ts.take n++[ts.getD n ByteArray.empty]:=by
   rw [List.take_add_one,List.getElem?_eq_getElem (show n<ts.length by omega)]
   simp [List.getD,show n<ts.length by omega]
  rw [e,List.mem_append,List.mem_singleton]
  unfold findT
  by_cases h1:ts.getD n ByteArray.empty=t
  ·rw [if_pos h1]
   exact ⟨fun _=>.inr h1.symm,fun _=>by omega⟩
  ·rw [if_neg h1,ih]
   exact ⟨.inl,fun h2=>h2.elim id (fun h3=>absurd h3.symm h1)⟩

theorem l06Find_is (a:Option Addr) (n c:Nat) (ts:List ByteArray) (t:ByteArray) (w:World) (h:Strs w a n c ts) (hn:n≤1000000) :
  Calls Tryz.prog 82 #[.slice a n c,.string t] w fun e w'=>e=.returned (.int .i64 (findT ts t n))∧w=w':=by
 obtain ⟨hl,hlc,hcm,hcase⟩:=h
 obtain ⟨f,hf⟩:∃ f,f=findT ts t n:=⟨_,rfl⟩
 have HF:Hid (f=findT ts t n):=hf
 rw [← hf]
 clear hf hl hcm
 go_enter Tryz.func82,Tryz.ntmps82
 go_wp2_with fail
 go_loopw [5] (fun si wr=>∃ ii:Nat,ii≤n∧si=.int .i64 ((ii:Int) - 1)∧Hid (f=findT ts t ii)∧w=wr) (fun si _=>(intOf si+1).toNat)
 case atStart=>exact ⟨n,Nat.le_refl _,rfl,HF,rfl⟩
 case round =>
  obtain ⟨ii,hii,rfl,HG,rfl⟩:=hrel
  rcases Nat.eq_zero_or_pos ii with rfl | hpos
  ·have HE:Hid (f=-1):=HG.out
   go_wp2
   go_ret
   exact ⟨by rw [HE.out];rfl,rfl⟩
  ·obtain ⟨i,rfl⟩:∃ i,ii=i+1:=⟨ii - 1,by omega⟩
   have hi0:((i+1:Nat):Int) - 1=(i:Int):=by omega
   rw [hi0]
   have hi9:(0:Int)≤(i:Int):=by omega
   have hin:(i:Int)<(n:Int):=by omega
   rcases hcase with h0 | ⟨b,off,rfl,hb,hcell⟩
   ·omega
   have hc:=hcell i (by omega)
   have HG2:Hid (f=if ts.getD i ByteArray.empty=t then (i:Int) else findT ts t i):=HG.out
   clear hcell HG
   generalize ts.getD i ByteArray.empty=x at *
   by_cases hx:x=t
   ·have hxx:(x.toList == t.toList)=true:=by rw [hx];simp
    have HE:Hid (f=i):=by rw [Hid,HG2.out,if_pos hx]
    clear HG2 hx
    go_wp2
    go_ret
    exact ⟨by rw [HE.out];rfl,rfl⟩
   ·have hxx:(x.toList == t.toList)=false:=beq_tf hx
    have HE:Hid (f=findT ts t i):=by rw [Hid,HG2.out,if_neg hx]
    clear HG2 hx
    go_wp2
    go_roundw
    case rel=>exact ⟨i,by omega,by go_num,HE,by first | rfl | trivial⟩
    case measure=>simp [intOf]<;>omega
end Go.Proofs.YtojcgajjnmjjpaaGreatDoor
