/-
  Joined: RecW.
-/
import Derived.Test.YtdopgkbegjfhjaaGreatDoorR47
import Derived.Test.YtdopgkbegjfhjaaGreatDoorR48

namespace Go.Proofs.YtdopgkbegjfhjaaGreatDoor
set_option maxRecDepth 100000
set_option maxHeartbeats 16000000
open Go.RowKit
set_option linter.unusedVariables false
set_option linter.unusedSimpArgs false

theorem fnExactRecordText_of (G:World→Prop) (hG:∀ a b:World,G a→Below a.heap.size a b→G b) (y0:R2) (w:World) (h0:y0.fits) (g0:G w)
  (kI:∀ w:World,G w→y0.2.size≤1048576→Calls Tryz.prog 13 #[y0.val] w fun e w'=>e=ResT (recC y0)∧Below w.heap.size w w') :
  Calls Tryz.prog 6 #[y0.val] w fun e w'=>e=.returned (.bool true)∧Below w.heap.size w w':=by
 obtain ⟨s,q⟩:=y0
 have pb:=Blk.new w 42 [.int .i64 s,.string q]
 have bw:=bel_new w (.cells #[.int .i64 s,.string q] 42)
 have kS:=fun W hz=>specRecordText_is (s,q) W hz
 unfold R2.val at kI kS ⊢
 simp only at kI kS
 generalize recC (s,q)=R at kI kS
 obtain ⟨t,c⟩:=R
 unfold ResT at kI kS
 simp only at kI kS
 have hxx:(t.toList != t.toList)=false:=by simp
 go_enter Tryz.func6,Tryz.ntmps6
 go_wp2_with fail
 generalize w.alloc (.cells #[.int .i64 s,.string q] 42)=W0 at *
 refine (szRecord_any (s,q) 1048576 _ h0.2 (by omega) (by omega)).mono ?_
 rintro e w1 ⟨⟨r,rfl,hz⟩,b1⟩
 replace pb:=pb.below b1
 replace bw:=belD bw b1
 clear b1
 rcases hz with rfl | ⟨hr,hr2,hd⟩
 ·go_wp2
  go_ret
  exact ⟨rfl,bw⟩
 have hn:¬ r<0:=by omega
 clear hr2
 obtain ⟨c0,c1⟩:_∧_:=⟨pb.cell 0,pb.cell 1⟩
 simp only [List.getElem?_cons_zero,List.getElem?_cons_succ] at c0 c1
 go_wp2_with fail
 clear c0 c1
 refine (toRecord_same (s,q) _).mono ?_
 rintro e w2 ⟨rfl,b2⟩
 replace pb:=pb.below b2
 replace bw:=belD bw b2
 clear b2
 unfold R2.val
 go_wp2_with fail
 refine (kS _ hd).mono ?_
 rintro e w3 ⟨rfl,b3⟩
 replace pb:=pb.below b3
 replace bw:=belD bw b3
 clear b3 kS
 obtain ⟨c0,c1⟩:_∧_:=⟨pb.cell 0,pb.cell 1⟩
 simp only [List.getElem?_cons_zero,List.getElem?_cons_succ] at c0 c1
 go_wp2_with fail
 clear c0 c1
 refine (toRecord_same (s,q) _).mono ?_
 rintro e w4 ⟨rfl,b2⟩
 replace pb:=pb.below b2
 replace bw:=belD bw b2
 clear b2
 unfold R2.val
 go_wp2_with fail
 refine (kI _ (hG _ _ g0 bw) hd).mono ?_
 rintro e w5 ⟨rfl,b5⟩
 replace bw:=belD bw b5
 clear b5 kI pb
 go_wp2
 go_ret
 exact ⟨rfl,bw⟩

theorem fnExactRecordOK_of (G:World→Prop) (hG:∀ a b:World,G a→Below a.heap.size a b→G b) (y0:R2) (w:World) (h0:y0.fits) (g0:G w)
  (kI:∀ w:World,G w→y0.2.size≤1048576→Calls Tryz.prog 18 #[y0.val] w fun e w'=>e=.returned (.bool (recB y0))∧Below w.heap.size w w') :
  Calls Tryz.prog 5 #[y0.val] w fun e w'=>e=.returned (.bool true)∧Below w.heap.size w w':=by
 obtain ⟨s,q⟩:=y0
 have pb:=Blk.new w 42 [.int .i64 s,.string q]
 have bw:=bel_new w (.cells #[.int .i64 s,.string q] 42)
 have kS:=fun W hz=>specRecordOK_is (s,q) W hz
 unfold R2.val at kI kS ⊢
 simp only at kI kS
 generalize recB (s,q)=R at kI kS
 go_enter Tryz.func5,Tryz.ntmps5
 go_wp2_with fail
 generalize w.alloc (.cells #[.int .i64 s,.string q] 42)=W0 at *
 refine (szRecord_any (s,q) 1048576 _ h0.2 (by omega) (by omega)).mono ?_
 rintro e w1 ⟨⟨r,rfl,hz⟩,b1⟩
 replace pb:=pb.below b1
 replace bw:=belD bw b1
 clear b1
 rcases hz with rfl | ⟨hr,hr2,hd⟩
 ·go_wp2
  go_ret
  exact ⟨rfl,bw⟩
 have hn:¬ r<0:=by omega
 clear hr2
 obtain ⟨c0,c1⟩:_∧_:=⟨pb.cell 0,pb.cell 1⟩
 simp only [List.getElem?_cons_zero,List.getElem?_cons_succ] at c0 c1
 go_wp2_with fail
 clear c0 c1
 refine (toRecord_same (s,q) _).mono ?_
 rintro e w2 ⟨rfl,b2⟩
 replace pb:=pb.below b2
 replace bw:=belD bw b2
 clear b2
 unfold R2.val
 go_wp2_with fail
 refine (kS _ hd).mono ?_
 rintro e w3 ⟨rfl,b3⟩
 replace pb:=pb.below b3
 replace bw:=belD bw b3
 clear b3 kS
 obtain ⟨c0,c1⟩:_∧_:=⟨pb.cell 0,pb.cell 1⟩
 simp only [List.getElem?_cons_zero,List.getElem?_cons_succ] at c0 c1
 go_wp2_with fail
 clear c0 c1
 refine (toRecord_same (s,q) _).mono ?_
 rintro e w4 ⟨rfl,b2⟩
 replace pb:=pb.below b2
 replace bw:=belD bw b2
 clear b2
 unfold R2.val
 go_wp2_with fail
 refine (kI _ (hG _ _ g0 bw) hd).mono ?_
 rintro e w5 ⟨rfl,b5⟩
 replace bw:=belD bw b5
 clear b5 kI pb
 go_wp2
 go_ret
 exact ⟨rfl,bw⟩

theorem fnExactRecoverLog_of (G:World→Prop) (hG:∀ a b:World,G a→Below a.heap.size a b→G b) (y0:D2) (w:World) (h0:y0.fits) (g0:G w)
  (kI:∀ w:World,G w→y0.1.size+y0.2.size≤1048576→Calls Tryz.prog 17 #[y0.val] w fun e w'=>RecovGot y0 e∧Below w.heap.size w w') :
  Calls Tryz.prog 9 #[y0.val] w fun e w'=>e=.returned (.bool true)∧Below w.heap.size w w':=by
 obtain ⟨s,q⟩:=y0
 have pb:=Blk.new w 46 [.string s,.string q]
 have bw:=bel_new w (.cells #[.string s,.string q] 46)
 have kS:=fun W hz=>specRecoverLog_is (s,q) W hz
 unfold D2.val at kI kS ⊢
 simp only at kI kS
 go_enter Tryz.func9,Tryz.ntmps9
 go_wp2_with fail
 generalize w.alloc (.cells #[.string s,.string q] 46)=W0 at *
 refine (szDisk_left (s,q) _ h0).mono ?_
 rintro e w1 ⟨⟨r,rfl,hz⟩,b1⟩
 replace pb:=pb.below b1
 replace bw:=belD bw b1
 clear b1
 rcases hz with rfl | ⟨hr,hr2,hd⟩
 ·go_wp2
  go_ret
  exact ⟨rfl,bw⟩
 have hn:¬ r<0:=by omega
 clear hr2
 obtain ⟨c0,c1⟩:_∧_:=⟨pb.cell 0,pb.cell 1⟩
 simp only [List.getElem?_cons_zero,List.getElem?_cons_succ] at c0 c1
 go_wp2_with fail
 clear c0 c1
 refine (toDisk_same (s,q) _).mono ?_
 rintro e w2 ⟨rfl,b2⟩
 replace pb:=pb.below b2
 replace bw:=belD bw b2
 clear b2
 unfold D2.val
 go_wp2_with fail
 refine (kS _ hd).mono ?_
 rintro e w3 ⟨⟨R,HR,rfl⟩,b3⟩
 have HRR:Hid (RecovIs (s,q) R):=HR
 replace pb:=pb.below b3
 replace bw:=belD bw b3
 clear b3 kS HR
 obtain ⟨⟨u,x⟩,c⟩:=R
 unfold ResD D2.val
 simp only
 have pS:=Blk.new w3 27 [.string u,.string x]
 have b4:=bel_new w3 (.cells #[.string u,.string x] 27)
 replace pb:=pb.below b4
 replace bw:=belD bw b4
 clear b4
 obtain ⟨c0,c1⟩:_∧_:=⟨pb.cell 0,pb.cell 1⟩
 simp only [List.getElem?_cons_zero,List.getElem?_cons_succ] at c0 c1
 go_wp2_with fail
 clear c0 c1
 generalize w3.heap.size=gS at *
 generalize w3.alloc (.cells #[.string u,.string x] 27)=W4 at *
 refine (toDisk_same (s,q) _).mono ?_
 rintro e w5 ⟨rfl,b5⟩
 replace pS:=pS.below b5
 replace bw:=belD bw b5
 clear b5 pb
 unfold D2.val
 go_wp2_with fail
 refine (kI _ (hG _ _ g0 bw) hd).mono ?_
 rintro e w6 ⟨⟨R2,HR2,rfl⟩,b6⟩
 obtain rfl:=HRR.out.only HR2
 replace pS:=pS.below b6
 replace bw:=belD bw b6
 clear b6 kI HRR HR2
 unfold ResD D2.val
 simp only
 have pI:=Blk.new w6 27 [.string u,.string x]
 have b4:=bel_new w6 (.cells #[.string u,.string x] 27)
 replace pS:=pS.below b4
 replace bw:=belD bw b4
 clear b4
 obtain ⟨c0,c1⟩:_∧_:=⟨pS.cell 0,pS.cell 1⟩
 obtain ⟨c2,c3⟩:_∧_:=⟨pI.cell 0,pI.cell 1⟩
 simp only [List.getElem?_cons_zero,List.getElem?_cons_succ] at c0 c1 c2 c3
 go_wp2_with fail
 clear c0 c1 c2 c3
 refine (eqDisk_same (u,x) _).mono ?_
 rintro e w7 ⟨rfl,b7⟩
 replace bw:=belD bw b7
 go_wp2
 go_ret
 exact ⟨rfl,bw⟩

theorem fnExactReadLog_of (G:World→Prop) (hG:∀ a b:World,G a→Below a.heap.size a b→G b) (y0:D2) (w:World) (h0:y0.fits) (g0:G w)
  (kI:∀ w:World,G w→y0.1.size+y0.2.size≤1048576→Calls Tryz.prog 16 #[y0.val] w fun e w'=>ReadGot y0 e w' w.heap.size∧Below w.heap.size w w') :
  Calls Tryz.prog 8 #[y0.val] w fun e w'=>e=.returned (.bool true)∧Below w.heap.size w w':=by
 obtain ⟨s,q⟩:=y0
 have pb:=Blk.new w 46 [.string s,.string q]
 have bw:=bel_new w (.cells #[.string s,.string q] 46)
 have kS:=fun W hz=>specReadLog_is (s,q) W hz
 unfold D2.val at kI kS ⊢
 simp only at kI kS
 go_enter Tryz.func8,Tryz.ntmps8
 go_wp2_with fail
 generalize w.alloc (.cells #[.string s,.string q] 46)=W0 at *
 refine (szDisk_left (s,q) _ h0).mono ?_
 rintro e w1 ⟨⟨r,rfl,hz⟩,b1⟩
 replace pb:=pb.below b1
 replace bw:=belD bw b1
 clear b1
 rcases hz with rfl | ⟨hr,hr2,hd⟩
 ·go_wp2
  go_ret
  exact ⟨rfl,bw⟩
 have hn:¬ r<0:=by omega
 clear hr2
 obtain ⟨c0,c1⟩:_∧_:=⟨pb.cell 0,pb.cell 1⟩
 simp only [List.getElem?_cons_zero,List.getElem?_cons_succ] at c0 c1
 go_wp2_with fail
 clear c0 c1
 refine (toDisk_same (s,q) _).mono ?_
 rintro e w2 ⟨rfl,b2⟩
 replace pb:=pb.below b2
 replace bw:=belD bw b2
 clear b2
 unfold D2.val
 go_wp2_with fail
 refine (kS _ hd).mono ?_
 rintro e w3 ⟨⟨vS,rs,n,c,HR,rfl,oS⟩,b3⟩
 have HRR:Hid (ReadIs (s,q) rs n c):=HR
 have hrs:=HR.count
 have hlow2:=bw.size
 replace pb:=pb.below b3
 replace bw:=belD bw b3
 clear b3 kS HR
 have nn:((n:Int) != (n:Int))=false:=by simp
 have nc:(c != c)=false:=by simp
 obtain ⟨c0,c1⟩:_∧_:=⟨pb.cell 0,pb.cell 1⟩
 simp only [List.getElem?_cons_zero,List.getElem?_cons_succ] at c0 c1
 go_wp2_with fail
 clear c0 c1
 refine (toDisk_same (s,q) _).mono ?_
 rintro e w4 ⟨rfl,b2⟩
 replace pb:=pb.below b2
 replace bw:=belD bw b2
 replace oS:=owns_below oS b2
 clear b2
 unfold D2.val
 go_wp2_with fail
 have hlow:=bw.size
 have hpl:=pb.lt
 refine (kI _ (hG _ _ g0 bw) hd).mono ?_
 rintro e w5 ⟨⟨vI,rs2,n2,c2,HR2,rfl,oI⟩,b5⟩
 obtain ⟨rfl,rfl,rfl⟩:=HRR.out.only HR2
 have bc:=b5
 clear b5 HR2
 have nm:(((1+rs.length*2:Nat):Int) != ((1+rs.length*2:Nat):Int))=false:=by simp
 have kM:=fun W ho=>markRecordS_any w4.heap.size vI 1 rs W (by omega) (by omega) (by omega) ho
 have kH:=fun B W ho=>heldRecordS_any B vI 1 rs W (by omega) (by omega) (by omega) ho
 rw [show ((1:Nat):Int)=1 from rfl] at kM kH
 have hge:¬ ((1+rs.length*2:Nat):Int)<0:=by omega
 generalize 1+rs.length*2=m9 at kM kH nm hge
 go_wp2_with fail
 refine (eqRecordS_same _ _ _ _ rs _ (by omega) oI (owns_below oS bc)).mono ?_
 rintro e w6 ⟨rfl,b6⟩
 replace oI:=owns_below oI b6
 replace bc:=belD bc b6
 clear b6
 go_wp2_with fail
 refine (kM _ oI).mono ?_
 rintro e w7 ⟨rfl,oM,b7⟩
 replace bc:=bc.trans b7
 clear b7 oI kM
 go_wp2_with fail
 refine (kH _ _ oM).mono ?_
 rintro e w8 ⟨rfl,b8⟩
 replace oM:=owns_below oM b8
 replace bc:=belD bc b8
 clear b8
 have pb8:=pb.below bc
 obtain ⟨c0,c1⟩:_∧_:=⟨pb8.cell 0,pb8.cell 1⟩
 simp only [List.getElem?_cons_zero,List.getElem?_cons_succ] at c0 c1
 go_wp2_with fail
 clear c0 c1 pb8
 refine (toDisk_same (s,q) _).mono ?_
 rintro e w9 ⟨rfl,b9⟩
 replace oM:=owns_below oM b9
 replace bc:=belD bc b9
 clear b9
 unfold D2.val
 go_wp2_with fail
 refine (kI _ (hG _ _ g0 (belD bw bc)) hd).mono ?_
 rintro e w10 ⟨⟨vJ,rs3,n3,c3,HR3,rfl,oJ⟩,b10⟩
 obtain ⟨rfl,rfl,rfl⟩:=HRR.out.only HR3
 replace oM:=owns_below oM b10
 replace bc:=belD bc b10
 clear b10 HR3 kI
 go_wp2_with fail
 refine (eqRecordS_same _ _ _ _ rs _ (by omega) oJ (owns_below oS bc)).mono ?_
 rintro e w11 ⟨rfl,b11⟩
 replace oM:=owns_below oM b11
 replace bc:=belD bc b11
 clear b11 oJ
 go_wp2_with fail
 refine (kH _ _ oM).mono ?_
 rintro e w12 ⟨rfl,b12⟩
 replace bc:=belD bc b12
 clear b12 oM kH
 have bf:=belD bw bc
 go_wp2
 go_ret
 exact ⟨rfl,bf⟩

end Go.Proofs.YtdopgkbegjfhjaaGreatDoor
