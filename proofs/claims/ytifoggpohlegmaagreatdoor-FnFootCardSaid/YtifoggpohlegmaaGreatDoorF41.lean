/-
  Joined: MgiI, FftP.
-/
import Derived.Test.YtifoggpohlegmaaGreatDoorF38
import Derived.Test.YtifoggpohlegmaaGreatDoorF40

namespace Go.Proofs.YtifoggpohlegmaaGreatDoor
set_option maxRecDepth 100000
set_option maxHeartbeats 16000000
open Go.RowKit
set_option linter.unusedVariables false
set_option linter.unusedSimpArgs false

def allIt (xs:List Int):Bool:=xs.all itOk
def wfs (xs:List Int):Prop:=∀ x ∈ xs,(Lit.int .i64 x).wf=true
theorem allIt_drop {xs:List Int} {k:Nat} (h:k<xs.length):allIt (xs.drop k)=(itOk (xs.getD k 0) && allIt (xs.drop (k+1))):=by
 unfold allIt
 rw [List.drop_eq_getElem_cons h,List.all_cons]
 simp [List.getD,List.getElem?_eq_getElem h]
theorem itOk_wf {x:Int} (h:itOk x=true):(Lit.int .i64 x).wf=true:=by
 simp only [itOk,decide_eq_true_eq] at h
 exact fits8 (by omega) (by omega)
theorem allIt_wf {xs:List Int} (h:allIt xs=true):wfs xs:=fun x hx=>itOk_wf (List.all_eq_true.1 h x hx)

theorem itemsOK_is (a:Option Addr) (n cap:Nat) (Z:List Int) (w:World) (h:Ints .i64 w a n cap Z) (hn:n≤1048576) (hw:wfs Z) :
  Calls Tryz.prog 112 #[.slice a n cap] w fun e w'=>e=.returned (.bool (allIt Z))∧w=w':=by
 have hl:=h.1
 obtain ⟨r,hr⟩:∃ r,r=allIt Z:=⟨_,rfl⟩
 rw [← hr]
 have HR:Hid (r=allIt (Z.drop 0)):=by rw [Hid];simpa using hr
 clear hr
 go_enter Tryz.func112,Tryz.ntmps112
 go_wp2_with fail
 go_loopw [7] (fun si wr=>∃ k:Nat,k≤n∧si=.int .i64 k∧Hid (r=allIt (Z.drop k))∧w=wr) (fun si _=>n - (Go.RowKit.intOf si).toNat)
 case atStart=>exact ⟨0,by omega,rfl,HR,rfl⟩
 case round =>
  clear HR
  obtain ⟨k,hk,rfl,HR,rfl⟩:=hrel
  by_cases hlt:k<n
  ·have hm:=allIt_drop (xs:=Z) (k:=k) (by omega)
   have hx:=hw (Z.getD k 0) (by simp [List.getD,List.getElem?_eq_getElem (show k<Z.length by omega)])
   obtain ⟨_,_,_,hcase⟩:=h
   rcases hcase with e0 | ⟨b,off,rfl,hb,hc⟩
   ·omega
   have d0:=hc k hlt
   clear hc hb
   generalize Z.getD k 0=x at d0 hm hx
   have kO:=isItem_is x (in_wf8 hx)
   clear hx
   have HM:Hid (allIt (Z.drop k)=(itOk x && allIt (Z.drop (k+1)))):=hm
   clear hm
   have hlt':(k:Int)<(n:Int):=by omega
   have hk0:(0:Int)≤(k:Int):=by omega
   cases hE:itOk x
   ·rw [hE] at kO
    have HF:Hid (r=false):=by rw [Hid,HR.out,HM.out,hE];rfl
    clear HM HR hE
    go_wp2_with fail
    refine (kO _).mono ?_
    rintro e w1 ⟨rfl,rfl⟩
    go_wp2
    go_ret
    exact ⟨by rw [HF.out];rfl,rfl⟩
   ·rw [hE] at kO
    have HF:Hid (r=allIt (Z.drop (k+1))):=by rw [Hid,HR.out,HM.out,hE];rfl
    clear HM HR hE
    go_wp2_with fail
    refine (kO _).mono ?_
    rintro e w1 ⟨rfl,rfl⟩
    go_wp2
    go_roundw
    case rel=>exact ⟨k+1,by omega,by go_num,HF,by first | rfl | trivial⟩
    case measure=>simp [Go.RowKit.intOf];omega
  ·obtain rfl:k=n:=by omega
   have HF:Hid (r=true):=by rw [Hid,HR.out,List.drop_of_length_le (by omega)];rfl
   clear HR
   go_wp2
   go_ret
   exact ⟨by rw [HF.out];rfl,rfl⟩

theorem fold_take {xs acc:List Int} {k:Nat} (h:k<xs.length):(xs.take (k+1)).foldl putI acc=putI ((xs.take k).foldl putI acc) (xs.getD k 0):=by
 rw [take_snoc8 h,List.foldl_append]
 rfl
theorem l08Merge_is (a:Option Addr) (n cap:Nat) (xs:List Int) (a':Option Addr) (n' cap':Nat) (ys:List Int) (w:World) (h:Ints .i64 w a n cap xs) (h':Ints .i64 w a' n' cap' ys) (hn:n≤100000) (hn':n'≤100000) :
  Calls Tryz.prog 159 #[.slice a n cap,.slice a' n' cap'] w fun e w'=>RowGot e w' w.heap.size (mrgI (xs++ys))∧Below w.heap.size w w':=by
 have hl:=h.1
 have hl':=h'.1
 have q0:=empty8 w 3 1 w.heap.size (Nat.le_refl _)
 have b0:Below w.heap.size w (w.alloc (.cells #[] 3)):=by go_grown
 obtain ⟨R,hR⟩:∃ R:World→Value→List Int→Prop,∀ W v zs,R W v zs↔(∃ g c,v=.slice (some ⟨g,0,none⟩) zs.length c∧W.ownsRow w.heap.size 3 1 v zs.length (zs.map (Value.int .i64)))∧Below w.heap.size w W:=⟨fun W v zs=>(∃ g c,v=.slice (some ⟨g,0,none⟩) zs.length c∧W.ownsRow w.heap.size 3 1 v zs.length (zs.map (Value.int .i64)))∧Below w.heap.size w W,fun _ _ _=>Iff.rfl⟩
 have hR0:R (w.alloc (.cells #[] 3)) (.slice (some ⟨w.heap.size,0,none⟩) 0 0) []:=(hR _ _ _).2 ⟨⟨_,_,rfl,q0⟩,b0⟩
 have hlx:∀ k,((xs.take k).foldl putI []).length≤100000:=fun k=>by
  have:=foldl_putI_len (xs.take k) []
  simp at this
  omega
 have hly:∀ k,((ys.take k).foldl putI (mrgI xs)).length≤200000:=fun k=>by
  have h1:=foldl_putI_len (ys.take k) (mrgI xs)
  have h2:=mrgI_len xs
  simp at h1
  omega
 clear q0 b0
 go_enter Tryz.func159,Tryz.ntmps159
 go_wp2_with fail
 go_loopw [5,6] (fun so si wr=>∃ k:Nat,k≤n∧si=.int .i64 k∧R wr so ((xs.take k).foldl putI [])) (fun _ si _=>n - (Go.RowKit.intOf si).toNat)
 case atStart=>exact ⟨0,by omega,rfl,hR0⟩
 case round =>
  obtain ⟨k,hk,rfl,hr⟩:=hrel
  obtain ⟨⟨g,c,hv,q⟩,hb⟩:=(hR _ _ _).1 hr
  subst hv
  by_cases hlt:k<n
  ·have hfo:=fold_take (xs:=xs) (acc:=[]) (k:=k) (by omega)
   obtain ⟨_,_,_,hcase⟩:=h.below hb
   rcases hcase with e0 | ⟨b,off,rfl,hb9,hc⟩
   ·omega
   have d0:=hc k hlt
   have hlz:=hlx k
   generalize xs.getD k 0=x at d0 hfo
   generalize hzs:(xs.take k).foldl putI []=zs at *
   have kP:=l08Put_is g 0 zs.length c zs x wr (ints8 q) (by omega)
   have HFo:Hid ((xs.take (k+1)).foldl putI []=putI zs x):=hfo
   clear hfo hc hb9 hzs
   have hlt':(k:Int)<(n:Int):=by omega
   have hk0:(0:Int)≤(k:Int):=by omega
   have hs9:=hb.size
   go_wp2_with fail
   refine kP.mono ?_
   rintro e w1 ⟨⟨v1,rfl,q1⟩,hb1⟩
   obtain ⟨g1,c1,rfl⟩:=some8 q1 (by
    have hm:=(putI_mem zs x x).2 (.inl rfl)
    exact List.length_pos_of_mem hm)
   have hr1:R w1 (.slice (some ⟨g1,0,none⟩) (putI zs x).length c1) ((xs.take (k+1)).foldl putI []):=by
    rw [HFo.out]
    exact (hR _ _ _).2 ⟨⟨_,_,rfl,lower8 q1 hs9⟩,bel8 hb hb1⟩
   clear q1 hb1 kP
   go_wp2
   go_roundw
   case rel=>exact ⟨k+1,by omega,by go_num,hr1⟩
   case measure=>simp [Go.RowKit.intOf];omega
  ·obtain rfl:k=n:=by omega
   have e9:(xs.take k).foldl putI []=mrgI xs:=by rw [List.take_of_length_le (by omega)];rfl
   rw [e9] at hr q
   clear e9 hlt hR0
   rw [show ((xs.take k).foldl putI []).length=(mrgI xs).length by rw [List.take_of_length_le (by omega)];rfl] at *
   go_wp2_with fail
   go_loopw [5,7] (fun so si wr=>∃ k:Nat,k≤n'∧si=.int .i64 k∧R wr so ((ys.take k).foldl putI (mrgI xs))) (fun _ si _=>n' - (Go.RowKit.intOf si).toNat)
   case atStart=>exact ⟨0,by omega,rfl,hr⟩
   case round =>
    clear hr q hb
    obtain ⟨j,hj,rfl,hr⟩:=hrel
    obtain ⟨⟨g2,c2,hv,q⟩,hb⟩:=(hR _ _ _).1 hr
    subst hv
    by_cases hlt:j<n'
    ·have hfo:=fold_take (xs:=ys) (acc:=mrgI xs) (k:=j) (by omega)
     obtain ⟨_,_,_,hcase⟩:=h'.below hb
     rcases hcase with e0 | ⟨b,off,rfl,hb9,hc⟩
     ·omega
     have d0:=hc j hlt
     have hlz:=hly j
     generalize ys.getD j 0=x at d0 hfo
     generalize hzs:(ys.take j).foldl putI (mrgI xs)=zs at *
     have kP:=l08Put_is g2 0 zs.length c2 zs x wr (ints8 q) (by omega)
     have HFo:Hid ((ys.take (j+1)).foldl putI (mrgI xs)=putI zs x):=hfo
     clear hfo hc hb9 hzs
     have hlt':(j:Int)<(n':Int):=by omega
     have hk0:(0:Int)≤(j:Int):=by omega
     have hs9:=hb.size
     go_wp2_with fail
     refine kP.mono ?_
     rintro e w1 ⟨⟨v1,rfl,q1⟩,hb1⟩
     obtain ⟨g1,c1,rfl⟩:=some8 q1 (by
      have hm:=(putI_mem zs x x).2 (.inl rfl)
      exact List.length_pos_of_mem hm)
     have hr1:R w1 (.slice (some ⟨g1,0,none⟩) (putI zs x).length c1) ((ys.take (j+1)).foldl putI (mrgI xs)):=by
      rw [HFo.out]
      exact (hR _ _ _).2 ⟨⟨_,_,rfl,lower8 q1 hs9⟩,bel8 hb hb1⟩
     clear q1 hb1 kP
     go_wp2
     go_roundw
     case rel=>exact ⟨j+1,by omega,by go_num,hr1⟩
     case measure=>simp [Go.RowKit.intOf];omega
    ·obtain rfl:j=n':=by omega
     have HE:Hid ((ys.take j).foldl putI (mrgI xs)=mrgI (xs++ys)):=by
      rw [Hid,List.take_of_length_le (by omega)]
      unfold mrgI
      rw [List.foldl_append]
     clear hr
     generalize (ys.take j).foldl putI (mrgI xs)=zs at *
     go_wp2
     go_ret
     exact ⟨⟨_,rfl,by rw [← HE.out];exact q⟩,hb⟩


theorem tree_head (rows:List (List I3)) (f:Nat) (m:V4):m ∈ treeM rows f m:=by cases f<;>simp [treeM]
theorem tree_closed {rows:List (List I3)} (hp:progOk rows=true):∀ (f:Nat) (m:V4),shapeOk m=true→leftN rows m≤f→∀ x ∈ treeM rows f m,∀ t ∈ nxM rows x,t.2 ∈ treeM rows f m
 | 0,m,hs,hl,x,hx,t,ht=>by
  have e:x=m:=by simpa [treeM] using hx
  subst e
  unfold nxM at ht
  rw [enab_none hp hs (by omega)] at ht
  simp at ht
 | f+1,m,hs,hl,x,hx,t,ht=>by
  have hx2:x=m∨x ∈ (nxM rows m).flatMap fun t=>treeM rows f t.2:=by simpa [treeM] using hx
  show t.2 ∈ m::(nxM rows m).flatMap fun t=>treeM rows f t.2
  rcases hx2 with rfl | hx2
  ·exact List.mem_cons_of_mem _ (List.mem_flatMap.2 ⟨t,ht,tree_head rows f t.2⟩)
  ·obtain ⟨u,hu,hxu⟩:=List.mem_flatMap.1 hx2
   obtain ⟨h1,h2⟩:=nxM_mem hu
   have hsu:=nxM_shape hp hs hu
   have hlu:=left_step hp hs h1
   rw [← h2] at hlu
   exact List.mem_cons_of_mem _ (List.mem_flatMap.2 ⟨u,hu,tree_closed hp f u.2 hsu (by omega) x hxu t ht⟩)
theorem small_roomM {rows:List (List I3)} (h:ProgS rows) {m:V4} (hs:shapeOk m=true):(fullM rows m).length≤1749:=by
 obtain ⟨hp,h0,h1,h2⟩:=h
 have hz:∀ k,remM rows m k≤(codeM rows k).length:=fun k=>by unfold remM;omega
 have hl:=treeM_len hp 8 m hs
 have hm:=treeN_mono 8 _ _ _ 3 3 2 (Nat.le_trans (hz 0) h0) (Nat.le_trans (hz 1) h1) (Nat.le_trans (hz 2) h2)
 rw [treeN_332] at hm
 have hn:=nodup_le ((fullM rows m).map (·.1)) (treeM rows 8 m) (fullM_nodup rows m) (fun x hx=>by
  obtain ⟨r,hr,rfl⟩:=List.mem_map.1 hx
  have a:=hz 0
  have b:=hz 1
  have c:=hz 2
  exact fullM_ind (fun x=>x ∈ treeM rows 8 m) (tree_head rows 8 m) (tree_closed hp 8 m hs (by unfold leftN;omega)) r hr)
 rw [List.length_map] at hn
 omega
theorem rise_len:∀ (xs:List Int) (a b:Int),xs.Pairwise (· < ·)→(∀ x ∈ xs,a≤x∧x≤b)→(xs.length:Int)≤max (b - a+1) 0
 | [],a,b,_,_=>by simp;omega
 | x::xs,a,b,h,hb=>by
  obtain ⟨h1,h2⟩:=List.pairwise_cons.1 h
  have hx:=hb x (by simp)
  have ih:=rise_len xs (x+1) b h2 (fun y hy=>⟨by have:=h1 y hy;omega,(hb y (by simp [hy])).2⟩)
  simp only [List.length_cons,Int.natCast_add,Int.natCast_one]
  omega
theorem foot_mem {rows:List (List I3)} {m:V4} (hp:progOk rows=true) (hs:shapeOk m=true) (hl:(fullM rows m).length<2000) (y:Int):y ∈ footA rows m↔∃ r ∈ fullM rows m,y ∈ lookM r.1:=by
 rw [footA_ok (by rw [hp,hs];rfl) hl,mrgI_mem,List.mem_flatMap]
theorem foot_items {rows:List (List I3)} {m:V4} (hp:progOk rows=true) (hs:shapeOk m=true) (hl:(fullM rows m).length<2000):(∀ y ∈ footA rows m,itOk y=true)∧(footA rows m).length≤23:=by
 have h1:∀ y ∈ footA rows m,itOk y=true:=fun y hy=>by
  obtain ⟨r,hr,h⟩:=(foot_mem hp hs hl y).1 hy
  exact look_ok (fullM_shaped hp hs r hr) y h
 refine ⟨h1,?_⟩
 have h2:(footA rows m).Pairwise (· < ·):=by
  rw [footA_ok (by rw [hp,hs];rfl) hl]
  exact mrgI_rises _
 have:=rise_len (footA rows m) 0 22 h2 (fun y hy=>by
  have:=h1 y hy
  simp only [itOk,decide_eq_true_eq] at this
  omega)
 omega
def feetI (rows:List (List I3)) (m:V4) (i:Nat):List Int:=lookM m++(((enabM rows m 3).take i).map fun k=>footA rows (goM rows m k).1).flatten
theorem feetI_succ {rows:List (List I3)} {m:V4} {i:Nat} {k:Int} (h:(enabM rows m 3)[i]?=some k):feetI rows m (i+1)=feetI rows m i++footA rows (goM rows m k).1:=by
 unfold feetI
 rw [List.take_add_one,h]
 simp
theorem feet_law {rows:List (List I3)} (h:ProgS rows) {m:V4} (hs:shapeOk m=true) {i:Nat} (hi:(enabM rows m 3).length≤i):mrgI (feetI rows m i)=footA rows m:=by
 have hp:=h.1
 have hroom:∀ x,shapeOk x=true→(fullM rows x).length<2000:=fun x hx=>by have:=small_roomM h hx;omega
 rw [footA_ok (by rw [hp,hs];rfl) (hroom m hs)]
 refine mrgI_eq (fun y=>?_)
 unfold feetI
 rw [List.take_of_length_le hi,List.mem_append,List.mem_flatten,List.mem_flatMap]
 have hsub:∀ k ∈ enabM rows m 3,∀ r ∈ fullM rows (goM rows m k).1,r.1 ∈ (fullM rows m).map (·.1):=fun k hk=>by
  have hm:m ∈ (fullM rows m).map (·.1):=List.mem_map.2 ⟨(m,0,0),List.mem_of_getElem? (fullM_head rows m),rfl⟩
  have hcl:∀ x,x ∈ (fullM rows m).map (·.1)→∀ t ∈ nxM rows x,t.2 ∈ (fullM rows m).map (·.1):=fun x hx t ht=>by
   obtain ⟨r,hr,rfl⟩:=List.mem_map.1 hx
   exact fullM_closed (by have:=hroom m hs;omega) r hr t ht
  exact fullM_ind (fun x=>x ∈ (fullM rows m).map (·.1)) (hcl m hm (k,(goM rows m k).1) (List.mem_map.2 ⟨k,hk,rfl⟩)) hcl
 constructor
 ·rintro (hy | ⟨l,hl,hy⟩)
  ·exact ⟨(m,0,0),List.mem_of_getElem? (fullM_head rows m),hy⟩
  ·obtain ⟨k,hk,rfl⟩:=List.mem_map.1 hl
   have hsx:=goM_shape hp hs (enab_halt hk)
   obtain ⟨r,hr,hy⟩:=(foot_mem hp hsx (hroom _ hsx) y).1 hy
   obtain ⟨q,hq,e⟩:=List.mem_map.1 (hsub k hk r hr)
   exact ⟨q,hq,by rw [e];exact hy⟩
 ·rintro ⟨r,hr,hy⟩
  have key:=fullM_ind (rows:=rows) (m:=m) (fun x=>x=m∨∃ k ∈ enabM rows m 3,x ∈ (fullM rows (goM rows m k).1).map (·.1)) (.inl rfl) (fun x hx t ht=>by
   rcases hx with rfl | ⟨k,hk,hx⟩
   ·obtain ⟨k,hk,rfl⟩:=List.mem_map.1 ht
    exact .inr ⟨k,hk,List.mem_map.2 ⟨(_,0,0),List.mem_of_getElem? (fullM_head rows _),rfl⟩⟩
   ·obtain ⟨q,hq,rfl⟩:=List.mem_map.1 hx
    exact .inr ⟨k,hk,fullM_closed (by have:=hroom _ (goM_shape hp hs (enab_halt hk));omega) q hq t ht⟩) r hr
  rcases key with e | ⟨k,hk,hx⟩
  ·exact .inl (by rw [← e];exact hy)
  ·obtain ⟨q,hq,e⟩:=List.mem_map.1 hx
   have hsx:=goM_shape hp hs (enab_halt hk)
   exact .inr ⟨_,List.mem_map.2 ⟨k,hk,rfl⟩,(foot_mem hp hsx (hroom _ hsx) y).2 ⟨q,hq,by rw [e];exact hy⟩⟩
theorem feetI_ok {rows:List (List I3)} (h:ProgS rows) {m:V4} (hs:shapeOk m=true):∀ i,i≤3→(∀ y ∈ feetI rows m i,itOk y=true)∧(feetI rows m i).length≤3+23*i
 | 0,_=>by
  have e:feetI rows m 0=lookM m:=by simp [feetI]
  rw [e]
  exact ⟨look_ok hs,by simp [lookM]⟩
 | i+1,hi=>by
  obtain ⟨h1,h2⟩:=feetI_ok h hs i (by omega)
  cases e:(enabM rows m 3)[i]? with
  | none =>
   have e2:feetI rows m (i+1)=feetI rows m i:=by unfold feetI;rw [List.take_add_one,e];simp
   rw [e2]
   exact ⟨h1,by omega⟩
  | some k =>
   have hsx:=goM_shape h.1 hs (enab_halt (List.mem_of_getElem? e))
   obtain ⟨k1,k2⟩:=foot_items h.1 hsx (by have:=small_roomM h hsx;omega)
   rw [feetI_succ e]
   refine ⟨fun y hy=>?_,by rw [List.length_append];omega⟩
   rcases List.mem_append.1 hy with hy | hy
   ·exact h1 y hy
   ·exact k1 y hy
end Go.Proofs.YtifoggpohlegmaaGreatDoor
