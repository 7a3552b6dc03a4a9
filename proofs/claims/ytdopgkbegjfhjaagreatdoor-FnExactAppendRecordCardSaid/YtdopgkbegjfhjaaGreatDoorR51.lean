/-
  Joined: RecA.
-/
import Derived.Deep.CutRange
import Derived.Test.YtdopgkbegjfhjaaGreatDoorR46

namespace Go.Proofs.YtdopgkbegjfhjaaGreatDoor
set_option maxRecDepth 100000
set_option maxHeartbeats 16000000
open Go.RowKit
set_option linter.unusedVariables false
set_option linter.unusedSimpArgs false

theorem readyA {P:Program} {ops:Array Oper} {Q:Exit→Act→World→Prop} {md:Region.Mode} {S:World→Prop} (rs:List Nat) {fuel:Nat} {listed:Array Bool} {a:Act} {w:World} (hr:Region.ready md ops listed=rs) (h:AllReadyH P md ops Q S fuel listed a w rs) (hn:rs≠[]:=by simp):wpAnyH P md ops Q S (fuel+1) listed a w:=wpAnyH_ready hr hn h
def CutA (w0:World) (u x:ByteArray) (c:Int) (sA sB:Value) (W:World):Prop:=∃ X,sA=.pointer (some ⟨X,0,none⟩)∧sB=.int .i64 c∧Blk W X 27 [.string u,.string x]∧Below w0.heap.size w0 W∧w0.heap.size≤X

theorem fnExactAppendRecord_of (G:World→Prop) (hG:∀ a b:World,G a→Below a.heap.size a b→G b) (y0:D2) (y1:R2) (w:World) (h0:y0.fits) (h1:y1.fits) (g0:G w)
  (kI:∀ w:World,G w→y0.1.size+y0.2.size≤1048576→y1.2.size≤1048576→Calls Tryz.prog 11 #[y0.val,y1.val] w fun e w'=>e=ResD (apR y0 y1)∧Below w.heap.size w w') :
  Calls Tryz.prog 7 #[y0.val,y1.val] w fun e w'=>e=.returned (.bool true)∧Below w.heap.size w w':=by
 obtain ⟨s,q⟩:=y0
 obtain ⟨k,t⟩:=y1
 have kS:=fun W hd hz=>specAppendRecord_is (s,q) (k,t) W hd hz
 generalize apR (s,q) (k,t)=R at kI kS
 obtain ⟨⟨u,x⟩,c⟩:=R
 unfold ResD D2.val R2.val at kI kS
 unfold D2.val R2.val
 simp only at kI kS
 have pD:=(Blk.new w 46 [.string s,.string q]).below (bel_new _ (.cells #[.int .i64 k,.string t] 42))
 have pR:=Blk.new (w.alloc (.cells #[.string s,.string q] 46)) 42 [.int .i64 k,.string t]
 rw [size_al] at pR
 have bw:=belD (bel_new w (.cells #[.string s,.string q] 46)) (bel_new _ (.cells #[.int .i64 k,.string t] 42))
 go_enter Tryz.func7,Tryz.ntmps7
 go_wp2_with fail
 simp only [List.toArray] at pD pR bw
 generalize (w.alloc (.cells #[.string s,.string q] 46)).alloc (.cells #[.int .i64 k,.string t] 42)=W0 at *
 refine (szDisk_left (s,q) _ h0).mono ?_
 rintro e w1 ⟨⟨r,rfl,hz⟩,b1⟩
 replace pD:=pD.below b1
 replace pR:=pR.below b1
 replace bw:=belD bw b1
 clear b1
 rcases hz with rfl | ⟨hr,hr2,hd⟩
 ·go_wp2
  go_ret
  exact ⟨rfl,bw⟩
 have hn:¬ r<0:=by omega
 have c2:=pR.cell 0
 have c3:=pR.cell 1
 simp only [List.getElem?_cons_zero,List.getElem?_cons_succ] at c2 c3
 go_wp2_with fail
 clear c2 c3
 refine (szRecord_any (k,t) r _ h1.2 (by omega) (by omega)).mono ?_
 rintro e w2 ⟨⟨r2,rfl,hz⟩,b1⟩
 replace pD:=pD.below b1
 replace pR:=pR.below b1
 replace bw:=belD bw b1
 clear b1
 rcases hz with rfl | ⟨hr3,hr4,hd2⟩
 ·go_wp2
  go_ret
  exact ⟨rfl,bw⟩
 have hn2:¬ r2<0:=by omega
 replace kS:=fun W=>kS W hd hd2
 replace kI:=fun W g=>kI W g hd hd2
 clear hr hr2 hr3 hr4
 have e0:=pD.cell 0
 have e1:=pD.cell 1
 have e2:=pR.cell 0
 have e3:=pR.cell 1
 simp only [List.getElem?_cons_zero,List.getElem?_cons_succ] at e0 e1 e2 e3
 go_wp2_with fail
 go_cut [6,7] from 20 (fun sA sB W=>CutA w2 u x c sA sB W)
 case first =>
  as_aux_lemma =>
   refine wp_region_held_drew (S:=(fun w'=>w'.cell? ⟨w.heap.size,0,none⟩=some (.string s)∧w'.cell? ⟨w.heap.size,1,none⟩=some (.string q)∧w'.cell? ⟨w.heap.size+1,0,none⟩=some (.int .i64 k)∧w'.cell? ⟨w.heap.size+1,1,none⟩=some (.string t))) (by kernel_rfl) ⟨e0,e1,e2,e3⟩ (fun hS0=>?_)
   have bq:Below w2.heap.size w2 w2.drew:=by go_grown
   generalize w2.drew=V at *
   refine tkm 0 21 (.agg #[.string s,.string q]) ?_
   refine tkm 2 23 (.agg #[.int .i64 k,.string t]) ?_
   iterate 4
    all_goals first
     | refine readyA [1] (by decide +kernel) ?_
     | refine readyA [3] (by decide +kernel) ?_
     | refine readyA [4] (by decide +kernel) ?_
     | refine readyA [8] (by decide +kernel) ?_
     | refine readyA [1,8] (by decide +kernel) ?_
     | refine readyA [3,8] (by decide +kernel) ?_
     | refine readyA [4,8] (by decide +kernel) ?_
     | refine readyA [1,3] (by decide +kernel) ?_
     | refine readyA [1,3,8] (by decide +kernel) ?_
    all_goals repeat' first
     | exact AllReadyH.nil
     | refine AllReadyH.cons (o:=⟨some 22,_,_,_,_,_⟩) rfl (fun K hK=>?_) ?_
     | refine AllReadyH.cons (o:=⟨some 24,_,_,_,_,_⟩) rfl (fun K hK=>?_) ?_
     | refine AllReadyH.cons (o:=⟨some 25,_,_,_,_,_⟩) rfl (fun K hK=>?_) ?_
     | refine AllReadyH.cons (o:=⟨some 6,_,_,_,_,_⟩) rfl (fun K hK=>?_) ?_
    all_goals first
     | (
       go_simp
       refine (toDisk_same (s,q) _).mono ?_
       rintro e V ⟨rfl,hq⟩
       (try replace pX:=pX.below hq)
       replace bq:=belD bq hq
       unfold D2.val
       go_wp2_with fail
       refine hK.out _ _ ⟨cellsD2 hq _ _ hS0.1,cellsD2 hq _ _ hS0.2.1,cellsD2 hq _ _ hS0.2.2.1,cellsD2 hq _ _ hS0.2.2.2⟩ (fun hS0=>?_)
       clear hK hq)
     | (
       go_simp
       refine (toRecord_same (k,t) _).mono ?_
       rintro e V ⟨rfl,hq⟩
       (try replace pX:=pX.below hq)
       replace bq:=belD bq hq
       unfold R2.val
       go_wp2_with fail
       refine hK.out _ _ ⟨cellsD2 hq _ _ hS0.1,cellsD2 hq _ _ hS0.2.1,cellsD2 hq _ _ hS0.2.2.1,cellsD2 hq _ _ hS0.2.2.2⟩ (fun hS0=>?_)
       clear hK hq)
     | (
       go_simp
       refine (kS _).mono ?_
       rintro e V ⟨rfl,hq⟩
       (try replace pX:=pX.below hq)
       replace bq:=belD bq hq
       go_wp2_with fail
       refine hK.out _ _ ⟨cellsD2 hq _ _ hS0.1,cellsD2 hq _ _ hS0.2.1,cellsD2 hq _ _ hS0.2.2.1,cellsD2 hq _ _ hS0.2.2.2⟩ (fun hS0=>?_)
       clear hK hq
       refine tkm 5 20 (.tuple #[.agg #[.string u,.string x],.int .i64 c]) ?_
       refine tkm 6 26 (.agg #[.string u,.string x]) ?_
       refine tky 7 27 (.int .i64 c) ?_
       simp only [Act.put,tka,tkb,tkc])
     | (
       go_simp
       have hq:Below V.heap.size V (V.alloc (.cells #[.string ⟨#[]⟩,.string ⟨#[]⟩] 27)):=by go_grown
       have pX:=Blk.new V 27 [.string ⟨#[]⟩,.string ⟨#[]⟩]
       obtain ⟨X,hX⟩:∃ X,X=V.heap.size:=⟨_,rfl⟩
       have lX:w2.heap.size≤X:=by rw [hX];exact bq.size
       rw [← hX] at pX
       replace bq:=belD bq hq
       refine hK.out _ (V.alloc (.cells #[.string ⟨#[]⟩,.string ⟨#[]⟩] 27)) ⟨cellsD2 hq _ _ hS0.1,cellsD2 hq _ _ hS0.2.1,cellsD2 hq _ _ hS0.2.2.1,cellsD2 hq _ _ hS0.2.2.2⟩ (fun hS0=>?_)
       rw [← hX]
       clear hK hq hX
       try simp only [Act.put,tka,tkb,tkc]
       generalize (V.alloc (.cells #[.string ⟨#[]⟩,.string ⟨#[]⟩] 27))=V at *)
   all_goals
    refine tkz 9 (fun K hK=>?_)
    refine step_store_boxR rfl 27 _ _ rfl X [.string u,.string x] rfl rfl pX (by kernel_rfl) rfl rfl ?_
    intro V8 p8 g8
    have hw:w.heap.size+1<X:=by have:=pR.lt;omega
    refine hK.out _ _ ⟨grown8 g8 hS0.1 (fun e=>by injection e with e9;dsimp only at e9;omega),grown8 g8 hS0.2.1 (fun e=>by injection e with e9;dsimp only at e9;omega),grown8 g8 hS0.2.2.1 (fun e=>by injection e with e9;dsimp only at e9;omega),grown8 g8 hS0.2.2.2 (fun e=>by injection e with e9;dsimp only at e9;omega)⟩ (fun hS0=>?_)
    clear hK
    try simp only [Act.put,tka,tkb,tkc]
    replace bq:=bq.grown g8 bq.size (fun k hk=>by cases hk;exact lX)
    replace pX:=p8.out
    clear p8 g8
    refine tkm 10 7 (.int .i64 c) ?_
    refine wpAnyH_done (by kernel_rfl) ?_ _
    go_wp2_with fail
    go_meet
    case rel=>exact ⟨X,rfl,rfl,pX,bq,lX⟩
 obtain ⟨XS,rfl,rfl,pS,bS,lS⟩:=hcut
 rename World=>wS
 clear kS e0 e1 e2 e3
 replace pD:=pD.below bS
 replace pR:=pR.below bS
 replace bw:=belD bw bS
 have gS:=hG _ _ g0 bw
 clear bS
 have e0:=pD.cell 0
 have e1:=pD.cell 1
 have e2:=pR.cell 0
 have e3:=pR.cell 1
 simp only [List.getElem?_cons_zero,List.getElem?_cons_succ] at e0 e1 e2 e3
 go_wp2_with fail
 go_cut [8,9] from 28 (fun sA sB W=>CutA wS u x c sA sB W)
 case first =>
  as_aux_lemma =>
   refine wp_region_held_drew (S:=(fun w'=>w'.cell? ⟨w.heap.size,0,none⟩=some (.string s)∧w'.cell? ⟨w.heap.size,1,none⟩=some (.string q)∧w'.cell? ⟨w.heap.size+1,0,none⟩=some (.int .i64 k)∧w'.cell? ⟨w.heap.size+1,1,none⟩=some (.string t))) (by kernel_rfl) ⟨e0,e1,e2,e3⟩ (fun hS0=>?_)
   have bq:Below wS.heap.size wS wS.drew:=by go_grown
   generalize wS.drew=V at *
   refine tkm 0 29 (.agg #[.string s,.string q]) ?_
   refine tkm 2 31 (.agg #[.int .i64 k,.string t]) ?_
   iterate 4
    all_goals first
     | refine readyA [1] (by decide +kernel) ?_
     | refine readyA [3] (by decide +kernel) ?_
     | refine readyA [4] (by decide +kernel) ?_
     | refine readyA [8] (by decide +kernel) ?_
     | refine readyA [1,8] (by decide +kernel) ?_
     | refine readyA [3,8] (by decide +kernel) ?_
     | refine readyA [4,8] (by decide +kernel) ?_
     | refine readyA [1,3] (by decide +kernel) ?_
     | refine readyA [1,3,8] (by decide +kernel) ?_
    all_goals repeat' first
     | exact AllReadyH.nil
     | refine AllReadyH.cons (o:=⟨some 30,_,_,_,_,_⟩) rfl (fun K hK=>?_) ?_
     | refine AllReadyH.cons (o:=⟨some 32,_,_,_,_,_⟩) rfl (fun K hK=>?_) ?_
     | refine AllReadyH.cons (o:=⟨some 33,_,_,_,_,_⟩) rfl (fun K hK=>?_) ?_
     | refine AllReadyH.cons (o:=⟨some 8,_,_,_,_,_⟩) rfl (fun K hK=>?_) ?_
    all_goals first
     | (
       go_simp
       refine (toDisk_same (s,q) _).mono ?_
       rintro e V ⟨rfl,hq⟩
       (try replace pX:=pX.below hq)
       replace bq:=belD bq hq
       unfold D2.val
       go_wp2_with fail
       refine hK.out _ _ ⟨cellsD2 hq _ _ hS0.1,cellsD2 hq _ _ hS0.2.1,cellsD2 hq _ _ hS0.2.2.1,cellsD2 hq _ _ hS0.2.2.2⟩ (fun hS0=>?_)
       clear hK hq)
     | (
       go_simp
       refine (toRecord_same (k,t) _).mono ?_
       rintro e V ⟨rfl,hq⟩
       (try replace pX:=pX.below hq)
       replace bq:=belD bq hq
       unfold R2.val
       go_wp2_with fail
       refine hK.out _ _ ⟨cellsD2 hq _ _ hS0.1,cellsD2 hq _ _ hS0.2.1,cellsD2 hq _ _ hS0.2.2.1,cellsD2 hq _ _ hS0.2.2.2⟩ (fun hS0=>?_)
       clear hK hq)
     | (
       go_simp
       refine (kI _ (hG _ _ gS bq)).mono ?_
       rintro e V ⟨rfl,hq⟩
       (try replace pX:=pX.below hq)
       replace bq:=belD bq hq
       go_wp2_with fail
       refine hK.out _ _ ⟨cellsD2 hq _ _ hS0.1,cellsD2 hq _ _ hS0.2.1,cellsD2 hq _ _ hS0.2.2.1,cellsD2 hq _ _ hS0.2.2.2⟩ (fun hS0=>?_)
       clear hK hq
       refine tkm 5 28 (.tuple #[.agg #[.string u,.string x],.int .i64 c]) ?_
       refine tkm 6 34 (.agg #[.string u,.string x]) ?_
       refine tky 7 35 (.int .i64 c) ?_
       simp only [Act.put,tka,tkb,tkc])
     | (
       go_simp
       have hq:Below V.heap.size V (V.alloc (.cells #[.string ⟨#[]⟩,.string ⟨#[]⟩] 27)):=by go_grown
       have pX:=Blk.new V 27 [.string ⟨#[]⟩,.string ⟨#[]⟩]
       obtain ⟨X,hX⟩:∃ X,X=V.heap.size:=⟨_,rfl⟩
       have lX:wS.heap.size≤X:=by rw [hX];exact bq.size
       rw [← hX] at pX
       replace bq:=belD bq hq
       refine hK.out _ (V.alloc (.cells #[.string ⟨#[]⟩,.string ⟨#[]⟩] 27)) ⟨cellsD2 hq _ _ hS0.1,cellsD2 hq _ _ hS0.2.1,cellsD2 hq _ _ hS0.2.2.1,cellsD2 hq _ _ hS0.2.2.2⟩ (fun hS0=>?_)
       rw [← hX]
       clear hK hq hX
       try simp only [Act.put,tka,tkb,tkc]
       generalize (V.alloc (.cells #[.string ⟨#[]⟩,.string ⟨#[]⟩] 27))=V at *)
   all_goals
    refine tkz 9 (fun K hK=>?_)
    refine step_store_boxR rfl 27 _ _ rfl X [.string u,.string x] rfl rfl pX (by kernel_rfl) rfl rfl ?_
    intro V8 p8 g8
    have hw:w.heap.size+1<X:=by have:=pR.lt;omega
    refine hK.out _ _ ⟨grown8 g8 hS0.1 (fun e=>by injection e with e9;dsimp only at e9;omega),grown8 g8 hS0.2.1 (fun e=>by injection e with e9;dsimp only at e9;omega),grown8 g8 hS0.2.2.1 (fun e=>by injection e with e9;dsimp only at e9;omega),grown8 g8 hS0.2.2.2 (fun e=>by injection e with e9;dsimp only at e9;omega)⟩ (fun hS0=>?_)
    clear hK
    try simp only [Act.put,tka,tkb,tkc]
    replace bq:=bq.grown g8 bq.size (fun k hk=>by cases hk;exact lX)
    replace pX:=p8.out
    clear p8 g8
    refine tkm 10 9 (.int .i64 c) ?_
    refine wpAnyH_done (by kernel_rfl) ?_ _
    go_wp2_with fail
    go_meet
    case rel=>exact ⟨X,rfl,rfl,pX,bq,lX⟩
 obtain ⟨XI,rfl,rfl,pI,bI,lI⟩:=hcut
 rename World=>wI
 clear kI e0 e1 e2 e3
 replace pS:=pS.below bI
 replace bw:=belD bw bI
 clear bI pD pR
 have c0:=pS.cell 0
 have c1:=pS.cell 1
 have c2:=pI.cell 0
 have c3:=pI.cell 1
 simp only [List.getElem?_cons_zero,List.getElem?_cons_succ] at c0 c1 c2 c3
 go_wp2_with fail
 clear c0 c1 c2 c3
 refine (eqDisk_same (u,x) _).mono ?_
 rintro e w7 ⟨rfl,b7⟩
 replace bw:=belD bw b7
 go_wp2
 go_ret
 exact ⟨rfl,bw⟩
end Go.Proofs.YtdopgkbegjfhjaaGreatDoor
