/-
  Joined: FotE, MgiJ.
-/
import Derived.Test.YtifoggpohlegmaaGreatDoorF43
import Derived.Test.YtifoggpohlegmaaGreatDoorF44
import Derived.Test.YtifoggpohlegmaaGreatDoorF45

namespace Go.Proofs.YtifoggpohlegmaaGreatDoor
set_option maxRecDepth 100000
set_option maxHeartbeats 16000000
open Go.RowKit
set_option linter.unusedVariables false
set_option linter.unusedSimpArgs false

theorem foot_same {rows:List (List I3)} (hp:progOk rows=true) {m:V4} (hs:shapeOk m=true) :
  ((fullM rows m).length<2000→(ftF rows 19 m ([],[])).1.length<2000∧(ftF rows 19 m ([],[])).2=mrgI ((fullM rows m).flatMap fun r=>lookM r.1))∧(¬ (fullM rows m).length<2000→¬ (ftF rows 19 m ([],[])).1.length<2000):=by
 have hm:∀ x y,y ∈ nxV rows x→∃ t ∈ nxM rows x,t.2=y:=fun x y hy=>by
  obtain ⟨k,hk,rfl⟩:=List.mem_map.1 hy
  exact ⟨(k,(goM rows x k).1),List.mem_map.2 ⟨k,hk,rfl⟩,rfl⟩
 have hm2:∀ x (t:Int × V4),t ∈ nxM rows x→t.2 ∈ nxV rows x:=fun x t ht=>by
  obtain ⟨k,hk,rfl⟩:=List.mem_map.1 ht
  exact List.mem_map.2 ⟨k,hk,rfl⟩
 have h:=dfs_all (nxV rows) lookM 19 m ((fullM rows m).map (·.1)) (leftN rows) (fun x=>shapeOk x=true) hs
  (fun x hx y hy=>by
   obtain ⟨k,hk,rfl⟩:=List.mem_map.1 hy
   have:=left_step hp hx (enab_halt hk)
   exact ⟨goM_shape hp hx (enab_halt hk),by omega⟩)
  (by have:=left_18 hp m;omega)
  (List.mem_map.2 ⟨(m,0,0),List.mem_of_getElem? (fullM_head rows m),rfl⟩) (fullM_nodup rows m)
  (fun hl x hx y hy=>by
   obtain ⟨r,hr,rfl⟩:=List.mem_map.1 hx
   obtain ⟨t,ht,rfl⟩:=hm _ _ hy
   exact fullM_closed (by simp at hl;omega) r hr t ht)
  (fun C h0 hC x hx=>by
   obtain ⟨r,hr,rfl⟩:=List.mem_map.1 hx
   exact fullM_ind C h0 (fun x hx t ht=>hC x hx _ (hm2 x t ht)) r hr)
 have e:((fullM rows m).map (·.1)).flatMap lookM=(fullM rows m).flatMap fun r=>lookM r.1:=by rw [List.flatMap_map]
 rw [List.length_map,e] at h
 exact h

theorem specFootOf_is (a:Option Addr) (len cap:Nat) (rows:List (List I3)) (s:S4) (m:V4) (w:World) (hC:Codes w a len cap rows) (h:Vmem w s m) :
  Calls Tryz.prog 48 #[.agg #[.slice a len cap],s.val] w fun e w'=>(∃ t:Sl,e=.returned (.tuple #[.slice t.1 t.2.1 t.2.2,.int .i64 (footC rows m)])∧Ints .i64 w' t.1 t.2.1 t.2.2 (footA rows m))∧Below w.heap.size w w':=by
 have kV:=fun (W:World) (hb:Below w.heap.size w W)=>specVmOK_is a len cap rows s m W (hC.below hb) (h.below hb)
 have hM:=fun (W:World) (hb:Below w.heap.size w W)=>h.below hb
 obtain ⟨⟨a0,n0,c0⟩,⟨a1,n1,c1⟩,⟨a2,n2,c2⟩,⟨a3,n3,c3⟩⟩:=s
 have uA:S4.val ((a0,n0,c0),(a1,n1,c1),(a2,n2,c2),(a3,n3,c3))=.agg #[.slice a0 n0 c0,.slice a1 n1 c1,.slice a2 n2 c2,.slice a3 n3 c3]:=rfl
 rw [uA] at kV ⊢
 clear h
 obtain ⟨cd,hcd⟩:∃ cd,cd=footC rows m:=⟨_,rfl⟩
 obtain ⟨zs,hzs⟩:∃ zs,zs=footA rows m:=⟨_,rfl⟩
 rw [← hcd,← hzs]
 have bw:Below w.heap.size w ((w.alloc (.cells #[.slice a len cap] 25)).alloc (.cells #[.slice a0 n0 c0,.slice a1 n1 c1,.slice a2 n2 c2,.slice a3 n3 c3] 33)):=by go_grown
 have pP:Blk ((w.alloc (.cells #[.slice a len cap] 25)).alloc (.cells #[.slice a0 n0 c0,.slice a1 n1 c1,.slice a2 n2 c2,.slice a3 n3 c3] 33)) w.heap.size 25 [.slice a len cap]:=blkOld _ (blkAt _ _ _ rfl)
 have pS:Blk ((w.alloc (.cells #[.slice a len cap] 25)).alloc (.cells #[.slice a0 n0 c0,.slice a1 n1 c1,.slice a2 n2 c2,.slice a3 n3 c3] 33)) (w.heap.size+1) 33 [.slice a0 n0 c0,.slice a1 n1 c1,.slice a2 n2 c2,.slice a3 n3 c3]:=blkAt _ _ _ (by simp)
 go_enter Tryz.func48,Tryz.ntmps48
 go_wp2_with fail
 generalize ((w.alloc (.cells #[.slice a len cap] 25)).alloc (.cells #[.slice a0 n0 c0,.slice a1 n1 c1,.slice a2 n2 c2,.slice a3 n3 c3] 33))=U at *
 have kVx:=kV U bw
 clear kV
 go_wp2_with (first | refine wpList_load_blk rfl 25 _ rfl w.heap.size rfl pP _ Tryz.underlying25 rfl (by kernel_rfl) ?_ | refine wpList_load_blk rfl 33 _ rfl (w.heap.size+1) rfl pS _ Tryz.underlying33 rfl (by kernel_rfl) ?_)
 refine kVx.mono ?_
 rintro e w1 ⟨rfl,hb⟩
 replace bw:=bel8 bw hb
 replace pP:=pP.below hb
 replace pS:=pS.below hb
 clear hb kVx
 cases hok:(progOk rows && shapeOk m)
 ·have HZ:Hid (zs=[]∧cd=1):=⟨by rw [hzs];exact footA_bad hok,by rw [hcd];exact footC_bad hok⟩
  have bz:Below w.heap.size w (w1.alloc (.cells #[] 3)):=bel8 bw (by go_grown)
  clear hcd hzs hok uA
  go_wp2
  go_ret2
  exact ⟨by rw [HZ.out.1,HZ.out.2];first | exact ⟨(_,0,0),rfl,rfl,Nat.le_refl _,Nat.zero_le _,.inl rfl⟩ | exact ⟨_,0,0,rfl,rfl,Nat.le_refl _,Nat.zero_le _,.inl rfl⟩,bz⟩
 ·obtain ⟨hp,hs⟩:=both_ok hok
  obtain ⟨hl3,cs,hR⟩:=hC.rowsAt hp
  subst hl3
  have hb2:Below w1.heap.size w1 ((w1.alloc (.cells #[] 9)).alloc (.cells #[] 3)):=by go_grown
  have hSx:Strs ((w1.alloc (.cells #[] 9)).alloc (.cells #[] 3)) (some ⟨w1.heap.size,0,none⟩) 0 0 (([]:List V4).map keyT):=⟨rfl,Nat.le_refl _,Nat.zero_le _,.inl rfl⟩
  have hFx:Ints .i64 ((w1.alloc (.cells #[] 9)).alloc (.cells #[] 3)) (some ⟨w1.heap.size+1,0,none⟩) 0 0 ([]:List Int):=⟨rfl,Nat.le_refl _,Nat.zero_le _,.inl rfl⟩
  have bw2:=bel8 bw hb2
  have kF:=foot_all (cap:=cap) hp 19 m ([],[]) hs (by have:=left_18 hp m;omega) ⟨fun x hx=>by simp at hx,by simp,by simp⟩ (by simp) _ a cs _ _ _ _ _ _ (hR.below bw2) (hM _ bw2) hSx hFx
  rw [uA] at kF
  obtain ⟨hY,hN⟩:=foot_same hp hs
  simp only [List.length_nil] at kF
  have hfo:=(ftF_ok hp 19 hs (st:=([],[])) ⟨fun x hx=>by simp at hx,by simp,by simp⟩ (by simp)).2.1
  generalize ftF rows 19 m ([],[])=st at *
  clear hSx hFx uA
  go_wp2_with (first | refine wpList_load_blk rfl 25 _ rfl w.heap.size rfl pP _ Tryz.underlying25 rfl (by kernel_rfl) ?_ | refine wpList_load_blk rfl 33 _ rfl (w.heap.size+1) rfl pS _ Tryz.underlying33 rfl (by kernel_rfl) ?_)
  refine kF.mono ?_
  rintro e w3 ⟨⟨sb,so,sc,fa,fc,rfl,hS3,hF3⟩,hb⟩
  have bz:=bel8 bw2 hb
  clear hb kF pP pS bw bw2 hb2
  by_cases hl:st.1.length<2000
  ·have hl9:(st.1.length:Int)<2000:=by omega
   have hfl:(fullM rows m).length<2000:=by
    rcases Nat.lt_or_ge (fullM rows m).length 2000 with h9 | h9
    ·exact h9
    ·exact absurd hl (hN (by omega))
   have HZ:Hid (zs=st.2∧cd=0):=⟨by rw [hzs,(hY hfl).2];exact footA_ok hok hfl,by rw [hcd];exact footC_ok hok hfl⟩
   clear hcd hzs hok hY hN hfl hS3
   go_wp2
   go_ret2
   exact ⟨by rw [HZ.out.1,HZ.out.2];first | exact ⟨(_,_,_),rfl,hF3⟩ | exact ⟨_,_,_,rfl,hF3⟩,bz⟩
  ·have hl9:¬ (st.1.length:Int)<2000:=by omega
   have hl8:(2000:Int)≤(st.1.length:Int):=by omega
   have hfl:¬ (fullM rows m).length<2000:=fun h9=>hl (hY h9).1
   have HZ:Hid (zs=[]∧cd=15):=⟨by rw [hzs];exact footA_much hok hfl,by rw [hcd];exact footC_much hok hfl⟩
   have bq:Below w.heap.size w (w3.alloc (.cells #[] 3)):=bel8 bz (by go_grown)
   clear hcd hzs hok hY hN hfl hS3 hF3
   go_wp2
   go_ret2
   exact ⟨by rw [HZ.out.1,HZ.out.2];first | exact ⟨(_,0,0),rfl,rfl,Nat.le_refl _,Nat.zero_le _,.inl rfl⟩ | exact ⟨_,0,0,rfl,rfl,Nat.le_refl _,Nat.zero_le _,.inl rfl⟩,bq⟩


def PGot (e:Ending) (w':World) (B:Nat) (xs:List Int) (cd:Int):Prop:=∃ v,e=.returned (.tuple #[v,.int .i64 cd])∧w'.ownsRow B 3 1 v xs.length (xs.map (Value.int .i64))
def mgC (xs ys:List Int):Int:=if xs.length≤4096∧ys.length≤4096 then (if (allIt xs && allIt ys)=true then 0 else 4) else 2
def mgZ (xs ys:List Int):List Int:=if xs.length≤4096∧ys.length≤4096∧(allIt xs && allIt ys)=true then mrgI (xs++ys) else []
theorem mgC_long {xs ys:List Int} (h:¬ (xs.length≤4096∧ys.length≤4096)):mgC xs ys=2:=if_neg h
theorem mgZ_long {xs ys:List Int} (h:¬ (xs.length≤4096∧ys.length≤4096)):mgZ xs ys=[]:=if_neg (fun e=>h ⟨e.1,e.2.1⟩)
theorem mgC_bad {xs ys:List Int} (h:xs.length≤4096) (h':ys.length≤4096) (k:(allIt xs && allIt ys)=false):mgC xs ys=4:=by unfold mgC;rw [if_pos ⟨h,h'⟩,k];rfl
theorem mgZ_bad {xs ys:List Int} (h:xs.length≤4096) (h':ys.length≤4096) (k:(allIt xs && allIt ys)=false):mgZ xs ys=[]:=if_neg (fun e=>by rw [k] at e;exact absurd e.2.2 (by simp))
theorem mgC_ok {xs ys:List Int} (h:xs.length≤4096) (h':ys.length≤4096) (k:(allIt xs && allIt ys)=true):mgC xs ys=0:=by unfold mgC;rw [if_pos ⟨h,h'⟩,k];rfl
theorem mgZ_ok {xs ys:List Int} (h:xs.length≤4096) (h':ys.length≤4096) (k:(allIt xs && allIt ys)=true):mgZ xs ys=mrgI (xs++ys):=if_pos ⟨h,h',k⟩
theorem nil8 (w:World) (B:Nat):w.ownsRow B 3 1 (.slice none 0 0) ([]:List Int).length (([]:List Int).map (Value.int .i64)):=⟨rfl,.inl ⟨rfl,rfl⟩⟩
theorem rows_two (w:World) {a a':Option Addr} {n c n' c':Nat} {xs ys:List Int} (h:Ints .i64 w a n c xs) (h':Ints .i64 w a' n' c' ys):RowsI (w.alloc (.cells #[.slice a n c,.slice a' n' c'] 27)) (some ⟨w.heap.size,0,none⟩) 2 2 [xs,ys]:=by
 have b1:Below w.heap.size w (w.alloc (.cells #[.slice a n c,.slice a' n' c'] 27)):=by go_grown
 refine ⟨rfl,Nat.le_refl _,by unfold maxLen;omega,[.slice a n c,.slice a' n' c'],((AllL.nil _).snoc ⟨_,_,_,rfl,h.below b1⟩).snoc ⟨_,_,_,rfl,h'.below b1⟩,.inr ⟨_,_,rfl,by simp,fun t ht=>?_⟩⟩
 match t,ht with
 | 0,_=>simp [go_sem]
 | 1,_=>simp [go_sem]
theorem implMergeItems_is (a:Option Addr) (n c:Nat) (xs:List Int) (a':Option Addr) (n' c':Nat) (ys:List Int) (w:World) (h:Ints .i64 w a n c xs) (h':Ints .i64 w a' n' c' ys) (hn:n≤1048576) (hn':n'≤1048576) (hw:wfs xs) (hw':wfs ys) :
  Calls Tryz.prog 50 #[.slice a n c,.slice a' n' c'] w fun e w'=>PGot e w' w.heap.size (mgZ xs ys) (mgC xs ys)∧Below w.heap.size w w':=by
 have hl:=h.1
 have hl':=h'.1
 have kA:=fun W (hb:Below w.heap.size w W)=>itemsOK_is a n c xs W (h.below hb) hn hw
 have kB:=fun W (hb:Below w.heap.size w W)=>itemsOK_is a' n' c' ys W (h'.below hb) hn' hw'
 by_cases hb:4096<n∨4096<n'
 ·rw [mgC_long (by omega),mgZ_long (by omega)]
  by_cases h1:4096<n
  ·clear hb kA kB
   go_enter Tryz.func50,Tryz.ntmps50
   go_wp2
   go_ret2
   exact ⟨⟨_,rfl,nil8 w w.heap.size⟩,Below.refl _ _⟩
  ·have h2:4096<n':=by omega
   clear hb kA kB
   go_enter Tryz.func50,Tryz.ntmps50
   go_wp2
   go_ret2
   exact ⟨⟨_,rfl,nil8 w w.heap.size⟩,Below.refl _ _⟩
 have h1:n≤4096:=by omega
 have h2:n'≤4096:=by omega
 clear hb
 have bw:=Below.refl w.heap.size w
 cases hA:allIt xs
 ·rw [mgC_bad (by omega) (by omega) (by rw [hA];rfl),mgZ_bad (by omega) (by omega) (by rw [hA];rfl)]
  rw [hA] at kA
  clear hA
  go_enter Tryz.func50,Tryz.ntmps50
  go_wp2_with fail
  refine (kA _ bw).mono ?_
  rintro e w1 ⟨rfl,rfl⟩
  go_wp2
  go_ret2
  exact ⟨⟨_,rfl,nil8 w w.heap.size⟩,Below.refl _ _⟩
 cases hB:allIt ys
 ·rw [mgC_bad (by omega) (by omega) (by rw [hB,Bool.and_false]),mgZ_bad (by omega) (by omega) (by rw [hB,Bool.and_false])]
  rw [hA] at kA
  rw [hB] at kB
  clear hA hB
  go_enter Tryz.func50,Tryz.ntmps50
  go_wp2_with fail
  refine (kA _ bw).mono ?_
  rintro e w1 ⟨rfl,rfl⟩
  go_wp2_with fail
  refine (kB _ bw).mono ?_
  rintro e w1 ⟨rfl,rfl⟩
  go_wp2
  go_ret2
  exact ⟨⟨_,rfl,nil8 w w.heap.size⟩,Below.refl _ _⟩
 rw [mgC_ok (by omega) (by omega) (by rw [hA,hB];rfl),mgZ_ok (by omega) (by omega) (by rw [hA,hB];rfl)]
 rw [hA] at kA
 rw [hB] at kB
 have b1:Below w.heap.size w (w.alloc (.cells #[.slice a n c,.slice a' n' c'] 27)):=by go_grown
 have hRow:RowsI (w.alloc (.cells #[.slice a n c,.slice a' n' c'] 27)) (some ⟨w.heap.size,0,none⟩) 2 2 [xs,ys]:=rows_two w h h'
 have kM:=merged_is (some ⟨w.heap.size,0,none⟩) 2 2 [xs,ys] _ hRow (by omega) (by simp;omega) (fun x hx=>by
  rcases List.mem_append.1 (by simpa using hx:x ∈ xs++ys) with h9 | h9
  ·exact hw x h9
  ·exact hw' x h9)
 have e9:[xs,ys].flatten=xs++ys:=by simp
 rw [e9] at kM
 clear hA hB hRow e9
 go_enter Tryz.func50,Tryz.ntmps50
 go_wp2_with fail
 refine (kA _ bw).mono ?_
 rintro e w1 ⟨rfl,rfl⟩
 go_wp2_with fail
 refine (kB _ bw).mono ?_
 rintro e w1 ⟨rfl,rfl⟩
 go_wp2_with fail
 refine kM.mono ?_
 rintro e w1 ⟨⟨v,rfl,q⟩,hb⟩
 go_wp2
 go_ret2
 exact ⟨⟨v,rfl,lower8 q (by simp)⟩,bel8 b1 hb⟩
end Go.Proofs.YtifoggpohlegmaaGreatDoor
