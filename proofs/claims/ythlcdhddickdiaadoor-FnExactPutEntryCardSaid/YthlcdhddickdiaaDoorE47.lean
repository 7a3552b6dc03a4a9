/-
  Joined: PtiI.
-/
import Derived.Test.YthlcdhddickdiaaDoorE36
import Derived.Test.YthlcdhddickdiaaDoorE45
import Derived.Test.YthlcdhddickdiaaDoorE46

namespace Go.Proofs.YthlcdhddickdiaaDoor
set_option maxRecDepth 100000
set_option maxHeartbeats 16000000
open Go.RowKit
set_option linter.unusedVariables false
set_option linter.unusedSimpArgs false

def PutR (x:Ending) (w':World) (X B:Nat) (r:Bool) (R:List E3):Prop:=∃ va n c,x=.returned (.bool r)∧Blk w' X 67 [.slice va n c]∧OwnM w' B (.slice va n c) R
theorem PutR.mk9 {w':World} {X B:Nat} {r:Bool} {R:List E3} {va:Option Addr} {n c:Nat} (h1:Blk w' X 67 [.slice va n c]) (h2:OwnM w' B (.slice va n c) R):PutR (.returned (.bool r)) w' X B r R:=⟨va,n,c,rfl,h1,h2⟩
theorem set3_eq {cs:List Value} {p:Nat} {a b c:Value} (h:p*3+2<cs.length):((cs.set (p*3) a).set (p*3+1) b).set (p*3+2) c=cs.take (p*3)++([a,b,c]++cs.drop ((p+1)*3)):=by
 obtain ⟨g1,g2,g3,g4⟩:=getD_set3 (a:=a) (b:=b) (c:=c) h
 apply List.ext_getElem?
 intro j
 by_cases h1:j<p*3
 ·rw [g1 j (.inl h1),List.getElem?_append_left (by rw [List.length_take];omega),List.getElem?_take,if_pos h1]
 ·rw [List.getElem?_append_right (by rw [List.length_take];omega),List.length_take,Nat.min_eq_left (by omega)]
  by_cases h2:j<p*3+3
  ·rw [List.getElem?_append_left (by simp;omega)]
   have:j=p*3∨j=p*3+1∨j=p*3+2:=by omega
   rcases this with rfl | rfl | rfl
   ·rw [g2,Nat.sub_self];rfl
   ·rw [g3,Nat.add_sub_cancel_left];rfl
   ·rw [g4,Nat.add_sub_cancel_left];rfl
  ·rw [g1 j (.inr (by omega)),List.getElem?_append_right (by simp;omega),List.getElem?_drop]
   congr 1
   simp
   omega
theorem entL_takeE (L:List EQ) (p:Nat):(entL L).take (p*3)=entL (L.take p):=by
 conv=>lhs;rw [← List.take_append_drop p L,entL_append]
 by_cases h:p≤L.length
 ·have:(entL (L.take p)).length=p*3:=by rw [entL_length,List.length_take,Nat.min_eq_left h]
  rw [← this,List.take_left]
 ·rw [List.take_of_length_le (by rw [List.length_append,entL_length,entL_length,List.length_take,List.length_drop];omega),List.drop_of_length_le (by omega)]
  simp [entL]
theorem entL_dropE (L:List EQ) (p:Nat):(entL L).drop (p*3)=entL (L.drop p):=by
 conv=>lhs;rw [← List.take_append_drop p L,entL_append]
 by_cases h:p≤L.length
 ·have:(entL (L.take p)).length=p*3:=by rw [entL_length,List.length_take,Nat.min_eq_left h]
  rw [← this,List.drop_left]
 ·rw [List.drop_of_length_le (by rw [List.length_append,entL_length,entL_length,List.length_take,List.length_drop];omega),List.drop_of_length_le (show L.length≤p by omega)]
  simp [entL]
theorem putQ_in {L:List EQ} {e:E3} {s:Sl2} (h:isE (L.map (·.1)) e.1=false):entL (putQ L e s)=insX (entL L) (plcE (L.map (·.1)) e.1) (entC e.1 s):=by
 unfold putQ insX
 rw [h,entL_append,entL_snoc,entL_takeE,entL_dropE,List.append_assoc]
 rfl
theorem putQ_over {L:List EQ} {e:E3} {s:Sl2} (h:isE (L.map (·.1)) e.1=true):entL (putQ L e s)=(entL L).take (plcE (L.map (·.1)) e.1*3)++(entC e.1 s++(entL L).drop ((plcE (L.map (·.1)) e.1+1)*3)):=by
 unfold putQ
 rw [h,entL_append,entL_snoc,entL_takeE,entL_dropE,List.append_assoc]
 rfl
theorem putQ_len (L:List EQ) (e:E3) (s:Sl2):(putQ L e s).length=if isE (L.map (·.1)) e.1 then L.length else L.length+1:=by
 have h:=putE_len (es:=L.map (·.1)) (e:=e)
 rw [← putQ_map L e s,List.length_map,List.length_map] at h
 exact h

theorem put_is (X B:Nat) (va:Option Addr) (ln vc:Nat) (L:List EQ) (e:E3) (s:Sl2) (w0 w:World) (pX:Blk w X 67 [.slice va ln vc]) (q:w.ownsRow B 39 3 (.slice va ln vc) L.length (entL L)) (hln:ln=L.length) (hQ:OwnQ w B L) (h0:OwnQ w0 B L)
  (hn:OwnE w w0.heap.size (.slice s.1.1 s.1.2.1 s.1.2.2) (.slice s.2.1 s.2.2.1 s.2.2.2) e) (hLf:∀ x ∈ L,x.1.fits) (hok:memOk (L.map (·.1))=true) (hB0:B≤w0.heap.size) (hBX:B≤X) :
  Calls Tryd.prog 40 #[.pointer (some ⟨X,0,none⟩),entV e.1 s,.int .i64 2000] w fun x w'=>PutR x w' X B (isE (L.map (·.1)) e.1 || decide (L.length<2000)) (if (isE (L.map (·.1)) e.1 || decide (L.length<2000))=true then putE (L.map (·.1)) e else L.map (·.1))∧Below B w w':=by
 have hXw:=pX.lt
 have hl2:L.length≤2000:=by have:=memOk_len hok;rw [List.length_map] at this;exact this
 have hle1:ln≤L.length:=by omega
 have hle2:L.length≤ln:=by omega
 have hpl:plcE (L.map (·.1)) e.1≤L.length:=by have:=plcE_le (L.map (·.1)) e.1;rw [List.length_map] at this;exact this
 have hpi:isE (L.map (·.1)) e.1=true→plcE (L.map (·.1)) e.1<L.length:=fun h9=>by
  simp only [isE,Bool.and_eq_true,decide_eq_true_eq,List.length_map] at h9
  exact h9.1
 have kK:=fun W=>entryKey_is e.1 s W
 have mK:=fun v W=>methKey v W
 have eK:∀ args w,(callFunc 137 args).run Tryd.prog w=.ok (.enter 137 args) w:=Go.Proofs.enters_of Tryd.func137 (by kernel_rfl) rfl
 have q9:w.ownsRow B 39 3 (.slice va ln vc) ln (entL L):=by rw [hln];rw [hln] at q;exact q
 have hEn:=(EntQ.of_owns q9 (fun x hx=>OwnE.mem (s:=x.2) (hQ.1 x hx) (hLf x hx))).ents
 have kF:=fun W (hb:Below w.heap.size w W)=>tableFind_is va ln vc (L.map (·.1)) e.1 W (hEn.below hb) hok
 have hone:=entL_one L
 have HOV:Hid (isE (L.map (·.1)) e.1=true→entL (putQ L e s)=(entL L).take (plcE (L.map (·.1)) e.1*3)++(entC e.1 s++(entL L).drop ((plcE (L.map (·.1)) e.1+1)*3))):=putQ_over
 have HIN:Hid (isE (L.map (·.1)) e.1=false→entL (putQ L e s)=insX (entL L) (plcE (L.map (·.1)) e.1) (entC e.1 s)):=putQ_in
 have HLN:=putQ_len L e s
 have HMP:Hid ((putQ L e s).map (·.1)=putE (L.map (·.1)) e):=putQ_map L e s
 have HOQ:Hid (∀ W,OwnQ W B L→OwnE W w0.heap.size (.slice s.1.1 s.1.2.1 s.1.2.2) (.slice s.2.1 s.2.2.1 s.2.2.2) e→OwnQ W B (putQ L e s)):=fun W h1 h2=>h1.put h0 h2 hB0
 have hLl:=entL_length L
 have HOO:Hid (∀ W v,OwnQ W B L→W.ownsRow B 39 3 v L.length (entL L)→OwnM W B v (L.map (·.1))):=fun W v h1 h2=>h1.own h2
 clear hEn q9 hLf h0 hln
 generalize putQ L e s=PL at *
 generalize putE (L.map (·.1)) e=pes at *
 generalize hes:L.map (·.1)=es at *
 generalize plcE es e.1=p at *
 generalize entL L=cs at *
 generalize L.length=n9 at *
 obtain ⟨ek,eb,ez⟩:=e
 obtain ⟨⟨e1,m1,d1⟩,⟨e2,m2,d2⟩⟩:=s
 unfold entV at kK ⊢
 simp only at *
 have bw:Below w.heap.size w (w.alloc (.cells #[.string ek,.slice e1 m1 d1,.slice e2 m2 d2] 39)):=by go_grown
 have pE:Blk (w.alloc (.cells #[.string ek,.slice e1 m1 d1,.slice e2 m2 d2] 39)) w.heap.size 39 [.string ek,.slice e1 m1 d1,.slice e2 m2 d2]:=blkAt _ _ _ rfl
 have bU:=bw
 have hqlt:∀ g,(Value.slice va ln vc).ownBlock=some g→g<w.heap.size:=fun g hg=>(q.lt g hg).2
 have hqB:∀ g,(Value.slice va ln vc).ownBlock=some g→B≤g:=fun g hg=>(q.lt g hg).1
 have hBw:B≤w.heap.size:=by omega
 replace pX:=pX.below bU
 replace q:=owns8 q bU
 replace hQ:=hQ.below bU
 replace hn:=hn.below bU
 have hXne:X≠w.heap.size:=by omega
 cases hI:isE es ek
 ·rw [hI] at kF HLN
  simp only [Bool.false_or,Bool.false_eq_true,if_false] at HLN ⊢
  have hin:=HIN.out hI
  clear HIN HOV hpi hI
  by_cases hrm:n9<2000
  ·rw [decide_eq_true hrm]
   simp only [if_true]
   go_enter Tryd.func40,Tryd.ntmps40
   go_wp2_with fail
   generalize (w.alloc (.cells #[.string ek,.slice e1 m1 d1,.slice e2 m2 d2] 39))=U at *
   have bd:Below w.heap.size w U.drew:=bel8 bw (by go_grown)
   clear bU
   refine wp_region_held_drew (S:=(fun w'=>w'.cell? ⟨X,0,none⟩=some (.slice va ln vc)∧w'.cell? ⟨w.heap.size,0,none⟩=some (.string ek)∧w'.cell? ⟨w.heap.size,1,none⟩=some (.slice e1 m1 d1)∧w'.cell? ⟨w.heap.size,2,none⟩=some (.slice e2 m2 d2))) (by kernel_rfl) ⟨pX.cell 0,pE.cell 0,pE.cell 1,pE.cell 2⟩ (fun hS0=>?_)
   refine tkx 0 10 (.pointer (some ⟨X,0,none⟩)) ?_ ?_
   ·(intro w' hSw;(try dsimp only at hSw);go_simp;first | done | rfl | omega | (intro h9;omega) | (rw [IntKind.wrap_i64];omega))
   simp only [Act.put,tka,tkb,tkc]
   refine tkx 1 11 (.pointer (some ⟨X,0,none⟩)) ?_ ?_
   ·(intro w' hSw;(try dsimp only at hSw);go_simp;first | done | rfl | omega | (intro h9;omega) | (rw [IntKind.wrap_i64];omega))
   simp only [Act.put,tka,tkb,tkc]
   refine tkx 2 12 (.agg #[.slice va ln vc]) ?_ ?_
   ·(intro w' hSw;(try dsimp only at hSw);go_simp;first | done | rfl | omega | (intro h9;omega) | (rw [IntKind.wrap_i64];omega))
   simp only [Act.put,tka,tkb,tkc]
   refine tkx 3 13 (.agg #[.string ek,.slice e1 m1 d1,.slice e2 m2 d2]) ?_ ?_
   ·(intro w' hSw;(try dsimp only at hSw);go_simp;first | done | rfl | omega | (intro h9;omega) | (rw [IntKind.wrap_i64];omega))
   simp only [Act.put,tka,tkb,tkc]
   refine tkx 4 14 (.iface 39 (.agg #[.string ek,.slice e1 m1 d1,.slice e2 m2 d2])) ?_ ?_
   ·(intro w' hSw;(try dsimp only at hSw);go_simp;first | done | rfl | omega | (intro h9;omega) | (rw [IntKind.wrap_i64];omega))
   simp only [Act.put,tka,tkb,tkc]
   refine tkr 5 15 (fun K hK=>?_)
   go_simp
   refine (kK _).mono ?_
   rintro e w5 ⟨rfl,hb5⟩
   go_wp2_with fail
   refine hK.out _ _ ?_ (fun hS5=>?_)
   ·exact ⟨cells_kept hb5 _ _ hS0.1,cells_kept hb5 _ _ hS0.2.1,cells_kept hb5 _ _ hS0.2.2.1,cells_kept hb5 _ _ hS0.2.2.2⟩
   clear hK
   refine tkr 6 16 (fun K hK=>?_)
   go_simp
   refine (kF _ (bel8 bd hb5)).mono ?_
   rintro e w6 ⟨rfl,hb6⟩
   go_wp2_with fail
   refine hK.out _ _ ?_ (fun hS6=>?_)
   ·exact ⟨cells_kept hb6 _ _ hS5.1,cells_kept hb6 _ _ hS5.2.1,cells_kept hb6 _ _ hS5.2.2.1,cells_kept hb6 _ _ hS5.2.2.2⟩
   clear hK
   refine tkx 7 9 (.tuple #[.int .i64 (p:Int),.bool false]) ?_ ?_
   ·(intro w' hSw;(try dsimp only at hSw);go_simp;first | done | rfl | omega | (intro h9;omega) | (rw [IntKind.wrap_i64];omega))
   simp only [Act.put,tka,tkb,tkc]
   refine tkx 8 17 (.int .i64 (p:Int)) ?_ ?_
   ·(intro w' hSw;(try dsimp only at hSw);go_simp;first | done | rfl | omega | (intro h9;omega) | (rw [IntKind.wrap_i64];omega))
   simp only [Act.put,tka,tkb,tkc]
   refine tkx 9 18 (.bool false) ?_ ?_
   ·(intro w' hSw;(try dsimp only at hSw);go_simp;first | done | rfl | omega | (intro h9;omega) | (rw [IntKind.wrap_i64];omega))
   simp only [Act.put,tka,tkb,tkc]
   refine tkx 10 7 (.int .i64 (p:Int)) ?_ ?_
   ·(intro w' hSw;(try dsimp only at hSw);go_simp;first | done | rfl | omega | (intro h9;omega) | (rw [IntKind.wrap_i64];omega))
   simp only [Act.put,tka,tkb,tkc]
   refine tkx 11 8 (.bool false) ?_ ?_
   ·(intro w' hSw;(try dsimp only at hSw);go_simp;first | done | rfl | omega | (intro h9;omega) | (rw [IntKind.wrap_i64];omega))
   simp only [Act.put,tka,tkb,tkc]
   refine wpAnyH_done (by kernel_rfl) ?_ _
   have b6:Below U.heap.size U w6:=bel8 (bel8 (show Below U.heap.size U U.drew by go_grown) hb5) hb6
   replace bw:=bel8 bw b6
   replace pX:=pX.below b6
   replace pE:=pE.below b6
   replace q:=owns8 q b6
   replace hQ:=hQ.below b6
   replace hn:=hn.below b6
   have hs6:w.heap.size<w6.heap.size:=pE.lt
   clear hS0 hS5 hS6 hb5 hb6 b6 bd kF kK
   have hfl:(ln:Int)<2000:=by omega
   have x0:=pX.cell 0
   have y0:=pE.cell 0
   have y1:=pE.cell 1
   have y2:=pE.cell 2
   simp only [List.getElem?_cons_zero,List.getElem?_cons_succ] at x0 y0 y1 y2
   go_wp2_with fail
   refine wp_region_held_drew (S:=(fun w'=>w'.cell? ⟨w.heap.size,0,none⟩=some (.string ek)∧w'.cell? ⟨w.heap.size,1,none⟩=some (.slice e1 m1 d1)∧w'.cell? ⟨w.heap.size,2,none⟩=some (.slice e2 m2 d2))) (by kernel_rfl) ⟨y0,y1,y2⟩ (fun hS0=>?_)
   refine tkx 0 36 (.pointer (some ⟨X,0,none⟩)) ?_ ?_
   ·(intro w' hSw;(try dsimp only at hSw);go_simp;first | done | rfl | omega | (intro h9;omega) | (rw [IntKind.wrap_i64];omega))
   simp only [Act.put,tka,tkb,tkc]
   refine tkx 1 37 (.pointer (some ⟨X,0,none⟩)) ?_ ?_
   ·(intro w' hSw;(try dsimp only at hSw);go_simp;first | done | rfl | omega | (intro h9;omega) | (rw [IntKind.wrap_i64];omega))
   simp only [Act.put,tka,tkb,tkc]
   refine tkx 2 38 (.pointer (some ⟨X,0,none⟩)) ?_ ?_
   ·(intro w' hSw;(try dsimp only at hSw);go_simp;first | done | rfl | omega | (intro h9;omega) | (rw [IntKind.wrap_i64];omega))
   simp only [Act.put,tka,tkb,tkc]
   refine tkx 3 39 (.pointer (some ⟨X,0,none⟩)) ?_ ?_
   ·(intro w' hSw;(try dsimp only at hSw);go_simp;first | done | rfl | omega | (intro h9;omega) | (rw [IntKind.wrap_i64];omega))
   simp only [Act.put,tka,tkb,tkc]
   refine tkx 5 41 (.int .i64 (p:Int)) ?_ ?_
   ·(intro w' hSw;(try dsimp only at hSw);go_simp;first | done | rfl | omega | (intro h9;omega) | (rw [IntKind.wrap_i64];omega))
   simp only [Act.put,tka,tkb,tkc]
   refine tkx 6 42 (.agg #[.string ek,.slice e1 m1 d1,.slice e2 m2 d2]) ?_ ?_
   ·(intro w' hSw;(try dsimp only at hSw);go_simp;first | done | rfl | omega | (intro h9;omega) | (rw [IntKind.wrap_i64];omega))
   simp only [Act.put,tka,tkb,tkc]
   have b7:Below w6.heap.size w6 w6.drew:=by go_grown
   replace bw:=bel8 bw b7
   replace pX:=pX.below b7
   replace pE:=pE.below b7
   replace q:=owns8 q b7
   replace hQ:=hQ.below b7
   replace hn:=hn.below b7
   replace hs6:=Nat.lt_of_lt_of_le hs6 b7.size
   clear b7 x0 y0 y1 y2
   generalize w6.drew=V at *
   refine wpAnyH_ready (rs:=[4,7]) (by kernel_rfl) (by simp) ?_
   refine AllReadyH.cons (o:=⟨some 40,_,_,_,_,_⟩) rfl (fun K hK=>?_) (AllReadyH.cons (o:=⟨some 43,_,_,_,_,_⟩) rfl (fun K hK=>?_) AllReadyH.nil)
   ·skip
    have x0:=pX.cell 0
    simp only [List.getElem?_cons_zero] at x0
    go_simp
    refine hK.out _ _ ⟨pE.cell 0,pE.cell 1,pE.cell 2⟩ (fun hSl=>?_)
    clear hK x0 hSl
    try simp only [Act.put,tka,tkb,tkc]
    refine tkr 7 43 (fun K hK=>?_)
    have hbb:Below V.heap.size V (V.alloc (.cells #[.string ek,.slice e1 m1 d1,.slice e2 m2 d2] 39)):=by go_grown
    have p7:Blk (V.alloc (.cells #[.string ek,.slice e1 m1 d1,.slice e2 m2 d2] 39)) V.heap.size 39 [.string ek,.slice e1 m1 d1,.slice e2 m2 d2]:=blkAt _ _ _ rfl
    have hg7:w.heap.size≤V.heap.size:=by omega
    replace bw:=bel8 bw hbb
    replace pX:=pX.below hbb
    replace pE:=pE.below hbb
    replace q:=owns8 q hbb
    replace hQ:=hQ.below hbb
    replace hn:=hn.below hbb
    replace hs6:=Nat.lt_of_lt_of_le hs6 hbb.size
    go_simp
    refine hK.out _ _ ⟨pE.cell 0,pE.cell 1,pE.cell 2⟩ (fun hSa=>?_)
    clear hK hSa hbb
    try simp only [Act.put,tka,tkb,tkc]
    obtain ⟨g7,hgg7⟩:∃ g7,g7=V.heap.size:=⟨_,rfl⟩
    rw [← hgg7]
    rw [← hgg7] at p7 hg7
    clear hgg7
    generalize V.alloc (.cells #[.string ek,.slice e1 m1 d1,.slice e2 m2 d2] 39)=V2 at *
    have kIns:=insert_is (.slice va ln vc) n9 cs B p g7 ek ((e1,m1,d1),(e2,m2,d2)) V2 q p7 (fun e9=>by have:=hqlt _ e9;omega) hpl hl2 (by omega) hone
    refine tkr 8 44 (fun K hK=>?_)
    go_simp
    refine kIns.mono ?_
    rintro x9 W9 ⟨⟨v9,rfl,qi⟩,hgrow⟩
    obtain ⟨ia,ic,rfl⟩:=slice8 qi
    replace bw:=(bw.mono hBw).grown hgrow (by omega) hqB
    have hXo:=row_ne_blkQ q pX (by decide)
    replace pX:=pX.kept hgrow hXo
    replace pE:=pE.kept hgrow (fun e9=>by have:=hqlt _ e9;omega)
    replace hQ:=hQ.kept9 hgrow q
    replace hn:=hn.kept9 hgrow q
    go_wp2_with fail
    refine hK.out _ _ ⟨pE.cell 0,pE.cell 1,pE.cell 2⟩ (fun hS8=>?_)
    clear hK hgrow q p7 kIns
    try simp only [Act.put,tka,tkb,tkc]
    refine tkx 9 45 (.pointer (some ⟨X,0,none⟩)) ?_ ?_
    ·(intro w' hSw;(try dsimp only at hSw);go_simp;first | done | rfl | omega | (intro h9;omega) | (rw [IntKind.wrap_i64];omega))
    simp only [Act.put,tka,tkb,tkc]
    refine tkx 10 46 (.pointer (some ⟨X,0,none⟩)) ?_ ?_
    ·(intro w' hSw;(try dsimp only at hSw);go_simp;first | done | rfl | omega | (intro h9;omega) | (rw [IntKind.wrap_i64];omega))
    simp only [Act.put,tka,tkb,tkc]
    have r0:=pX.cell 0
    have fr0:=pX.frozen 0
    have pZ:=pX.set 0 (.slice ia (n9+1) ic)
    simp only [List.set_cons_zero] at pZ
    have z0:=pZ.cell 0
    simp only [List.getElem?_cons_zero] at z0 r0
    have bz:=bw.setCell (p:=⟨X,0,none⟩) hBX (.slice ia (n9+1) ic)
    have pE3:=pE.off ⟨X,0,none⟩ (.slice ia (n9+1) ic) (by simp;omega)
    have hQ3:=hQ.setP pX (by decide) (by decide) 0 (.slice ia (n9+1) ic)
    have hn3:=hn.setP (j:=0) (row_ne_blkQ hn.1 pX (by decide)) (row_ne_blkQ hn.2 pX (by decide)) (.slice ia (n9+1) ic)
    have hrow:(W9.setCell ⟨X,0,none⟩ (.slice ia (n9+1) ic)).ownsRow B 39 3 (.slice ia (n9+1) ic) PL.length (entL PL):=by rw [hin,HLN];exact ownsRow_setCell_other qi (row_ne_blkQ qi pX (by decide)) _
    have hM:=(HOQ.out _ hQ3 hn3).own hrow
    rw [HMP.out] at hM
    clear hQ3 hn3 hrow hQ hn qi
    refine tkz 11 (fun K hK=>?_)
    go_simp
    refine hK.out _ _ ?_ (fun hS11=>?_)
    ·exact ⟨pE3.cell 0,pE3.cell 1,pE3.cell 2⟩
    clear hK
    try simp only [Act.put,tka,tkb,tkc]
    refine wpAnyH_done (by kernel_rfl) ?_ _
    clear hS0 hS8 hS11 pX pE pE3 bw
    go_wp2
    go_ret
    exact ⟨PutR.mk9 pZ hM,bz⟩
   ·skip
    have hbb:Below V.heap.size V (V.alloc (.cells #[.string ek,.slice e1 m1 d1,.slice e2 m2 d2] 39)):=by go_grown
    have p7:Blk (V.alloc (.cells #[.string ek,.slice e1 m1 d1,.slice e2 m2 d2] 39)) V.heap.size 39 [.string ek,.slice e1 m1 d1,.slice e2 m2 d2]:=blkAt _ _ _ rfl
    have hg7:w.heap.size≤V.heap.size:=by omega
    replace bw:=bel8 bw hbb
    replace pX:=pX.below hbb
    replace pE:=pE.below hbb
    replace q:=owns8 q hbb
    replace hQ:=hQ.below hbb
    replace hn:=hn.below hbb
    replace hs6:=Nat.lt_of_lt_of_le hs6 hbb.size
    go_simp
    refine hK.out _ _ ⟨pE.cell 0,pE.cell 1,pE.cell 2⟩ (fun hSa=>?_)
    clear hK hSa hbb
    try simp only [Act.put,tka,tkb,tkc]
    obtain ⟨g7,hgg7⟩:∃ g7,g7=V.heap.size:=⟨_,rfl⟩
    rw [← hgg7]
    rw [← hgg7] at p7 hg7
    clear hgg7
    generalize V.alloc (.cells #[.string ek,.slice e1 m1 d1,.slice e2 m2 d2] 39)=V2 at *
    refine tkr 4 40 (fun K hK=>?_)
    have x0:=pX.cell 0
    simp only [List.getElem?_cons_zero] at x0
    go_simp
    refine hK.out _ _ ⟨pE.cell 0,pE.cell 1,pE.cell 2⟩ (fun hSl=>?_)
    clear hK x0 hSl
    try simp only [Act.put,tka,tkb,tkc]
    have kIns:=insert_is (.slice va ln vc) n9 cs B p g7 ek ((e1,m1,d1),(e2,m2,d2)) V2 q p7 (fun e9=>by have:=hqlt _ e9;omega) hpl hl2 (by omega) hone
    refine tkr 8 44 (fun K hK=>?_)
    go_simp
    refine kIns.mono ?_
    rintro x9 W9 ⟨⟨v9,rfl,qi⟩,hgrow⟩
    obtain ⟨ia,ic,rfl⟩:=slice8 qi
    replace bw:=(bw.mono hBw).grown hgrow (by omega) hqB
    have hXo:=row_ne_blkQ q pX (by decide)
    replace pX:=pX.kept hgrow hXo
    replace pE:=pE.kept hgrow (fun e9=>by have:=hqlt _ e9;omega)
    replace hQ:=hQ.kept9 hgrow q
    replace hn:=hn.kept9 hgrow q
    go_wp2_with fail
    refine hK.out _ _ ⟨pE.cell 0,pE.cell 1,pE.cell 2⟩ (fun hS8=>?_)
    clear hK hgrow q p7 kIns
    try simp only [Act.put,tka,tkb,tkc]
    refine tkx 9 45 (.pointer (some ⟨X,0,none⟩)) ?_ ?_
    ·(intro w' hSw;(try dsimp only at hSw);go_simp;first | done | rfl | omega | (intro h9;omega) | (rw [IntKind.wrap_i64];omega))
    simp only [Act.put,tka,tkb,tkc]
    refine tkx 10 46 (.pointer (some ⟨X,0,none⟩)) ?_ ?_
    ·(intro w' hSw;(try dsimp only at hSw);go_simp;first | done | rfl | omega | (intro h9;omega) | (rw [IntKind.wrap_i64];omega))
    simp only [Act.put,tka,tkb,tkc]
    have r0:=pX.cell 0
    have fr0:=pX.frozen 0
    have pZ:=pX.set 0 (.slice ia (n9+1) ic)
    simp only [List.set_cons_zero] at pZ
    have z0:=pZ.cell 0
    simp only [List.getElem?_cons_zero] at z0 r0
    have bz:=bw.setCell (p:=⟨X,0,none⟩) hBX (.slice ia (n9+1) ic)
    have pE3:=pE.off ⟨X,0,none⟩ (.slice ia (n9+1) ic) (by simp;omega)
    have hQ3:=hQ.setP pX (by decide) (by decide) 0 (.slice ia (n9+1) ic)
    have hn3:=hn.setP (j:=0) (row_ne_blkQ hn.1 pX (by decide)) (row_ne_blkQ hn.2 pX (by decide)) (.slice ia (n9+1) ic)
    have hrow:(W9.setCell ⟨X,0,none⟩ (.slice ia (n9+1) ic)).ownsRow B 39 3 (.slice ia (n9+1) ic) PL.length (entL PL):=by rw [hin,HLN];exact ownsRow_setCell_other qi (row_ne_blkQ qi pX (by decide)) _
    have hM:=(HOQ.out _ hQ3 hn3).own hrow
    rw [HMP.out] at hM
    clear hQ3 hn3 hrow hQ hn qi
    refine tkz 11 (fun K hK=>?_)
    go_simp
    refine hK.out _ _ ?_ (fun hS11=>?_)
    ·exact ⟨pE3.cell 0,pE3.cell 1,pE3.cell 2⟩
    clear hK
    try simp only [Act.put,tka,tkb,tkc]
    refine wpAnyH_done (by kernel_rfl) ?_ _
    clear hS0 hS8 hS11 pX pE pE3 bw
    go_wp2
    go_ret
    exact ⟨PutR.mk9 pZ hM,bz⟩
  ·rw [decide_eq_false hrm]
   simp only [Bool.false_eq_true,if_false]
   go_enter Tryd.func40,Tryd.ntmps40
   go_wp2_with fail
   generalize (w.alloc (.cells #[.string ek,.slice e1 m1 d1,.slice e2 m2 d2] 39))=U at *
   have bd:Below w.heap.size w U.drew:=bel8 bw (by go_grown)
   clear bU
   refine wp_region_held_drew (S:=(fun w'=>w'.cell? ⟨X,0,none⟩=some (.slice va ln vc)∧w'.cell? ⟨w.heap.size,0,none⟩=some (.string ek)∧w'.cell? ⟨w.heap.size,1,none⟩=some (.slice e1 m1 d1)∧w'.cell? ⟨w.heap.size,2,none⟩=some (.slice e2 m2 d2))) (by kernel_rfl) ⟨pX.cell 0,pE.cell 0,pE.cell 1,pE.cell 2⟩ (fun hS0=>?_)
   refine tkx 0 10 (.pointer (some ⟨X,0,none⟩)) ?_ ?_
   ·(intro w' hSw;(try dsimp only at hSw);go_simp;first | done | rfl | omega | (intro h9;omega) | (rw [IntKind.wrap_i64];omega))
   simp only [Act.put,tka,tkb,tkc]
   refine tkx 1 11 (.pointer (some ⟨X,0,none⟩)) ?_ ?_
   ·(intro w' hSw;(try dsimp only at hSw);go_simp;first | done | rfl | omega | (intro h9;omega) | (rw [IntKind.wrap_i64];omega))
   simp only [Act.put,tka,tkb,tkc]
   refine tkx 2 12 (.agg #[.slice va ln vc]) ?_ ?_
   ·(intro w' hSw;(try dsimp only at hSw);go_simp;first | done | rfl | omega | (intro h9;omega) | (rw [IntKind.wrap_i64];omega))
   simp only [Act.put,tka,tkb,tkc]
   refine tkx 3 13 (.agg #[.string ek,.slice e1 m1 d1,.slice e2 m2 d2]) ?_ ?_
   ·(intro w' hSw;(try dsimp only at hSw);go_simp;first | done | rfl | omega | (intro h9;omega) | (rw [IntKind.wrap_i64];omega))
   simp only [Act.put,tka,tkb,tkc]
   refine tkx 4 14 (.iface 39 (.agg #[.string ek,.slice e1 m1 d1,.slice e2 m2 d2])) ?_ ?_
   ·(intro w' hSw;(try dsimp only at hSw);go_simp;first | done | rfl | omega | (intro h9;omega) | (rw [IntKind.wrap_i64];omega))
   simp only [Act.put,tka,tkb,tkc]
   refine tkr 5 15 (fun K hK=>?_)
   go_simp
   refine (kK _).mono ?_
   rintro e w5 ⟨rfl,hb5⟩
   go_wp2_with fail
   refine hK.out _ _ ?_ (fun hS5=>?_)
   ·exact ⟨cells_kept hb5 _ _ hS0.1,cells_kept hb5 _ _ hS0.2.1,cells_kept hb5 _ _ hS0.2.2.1,cells_kept hb5 _ _ hS0.2.2.2⟩
   clear hK
   refine tkr 6 16 (fun K hK=>?_)
   go_simp
   refine (kF _ (bel8 bd hb5)).mono ?_
   rintro e w6 ⟨rfl,hb6⟩
   go_wp2_with fail
   refine hK.out _ _ ?_ (fun hS6=>?_)
   ·exact ⟨cells_kept hb6 _ _ hS5.1,cells_kept hb6 _ _ hS5.2.1,cells_kept hb6 _ _ hS5.2.2.1,cells_kept hb6 _ _ hS5.2.2.2⟩
   clear hK
   refine tkx 7 9 (.tuple #[.int .i64 (p:Int),.bool false]) ?_ ?_
   ·(intro w' hSw;(try dsimp only at hSw);go_simp;first | done | rfl | omega | (intro h9;omega) | (rw [IntKind.wrap_i64];omega))
   simp only [Act.put,tka,tkb,tkc]
   refine tkx 8 17 (.int .i64 (p:Int)) ?_ ?_
   ·(intro w' hSw;(try dsimp only at hSw);go_simp;first | done | rfl | omega | (intro h9;omega) | (rw [IntKind.wrap_i64];omega))
   simp only [Act.put,tka,tkb,tkc]
   refine tkx 9 18 (.bool false) ?_ ?_
   ·(intro w' hSw;(try dsimp only at hSw);go_simp;first | done | rfl | omega | (intro h9;omega) | (rw [IntKind.wrap_i64];omega))
   simp only [Act.put,tka,tkb,tkc]
   refine tkx 10 7 (.int .i64 (p:Int)) ?_ ?_
   ·(intro w' hSw;(try dsimp only at hSw);go_simp;first | done | rfl | omega | (intro h9;omega) | (rw [IntKind.wrap_i64];omega))
   simp only [Act.put,tka,tkb,tkc]
   refine tkx 11 8 (.bool false) ?_ ?_
   ·(intro w' hSw;(try dsimp only at hSw);go_simp;first | done | rfl | omega | (intro h9;omega) | (rw [IntKind.wrap_i64];omega))
   simp only [Act.put,tka,tkb,tkc]
   refine wpAnyH_done (by kernel_rfl) ?_ _
   have b6:Below U.heap.size U w6:=bel8 (bel8 (show Below U.heap.size U U.drew by go_grown) hb5) hb6
   replace bw:=bel8 bw b6
   replace pX:=pX.below b6
   replace pE:=pE.below b6
   replace q:=owns8 q b6
   replace hQ:=hQ.below b6
   replace hn:=hn.below b6
   have hs6:w.heap.size<w6.heap.size:=pE.lt
   clear hS0 hS5 hS6 hb5 hb6 b6 bd kF kK
   have hM:=HOO.out _ _ hQ q
   have bz:=bw.mono hBw
   have hfl:¬ (ln:Int)<2000:=by omega
   have x0:=pX.cell 0
   simp only [List.getElem?_cons_zero] at x0
   go_wp2
   go_ret
   exact ⟨PutR.mk9 pX hM,bz⟩
 ·rw [hI] at kF HLN
  simp only [Bool.true_or,if_true] at HLN ⊢
  have hov:=HOV.out hI
  have hp9:=hpi hI
  clear HIN HOV hpi hI
  go_enter Tryd.func40,Tryd.ntmps40
  go_wp2_with fail
  generalize (w.alloc (.cells #[.string ek,.slice e1 m1 d1,.slice e2 m2 d2] 39))=U at *
  have bd:Below w.heap.size w U.drew:=bel8 bw (by go_grown)
  clear bU
  refine wp_region_held_drew (S:=(fun w'=>w'.cell? ⟨X,0,none⟩=some (.slice va ln vc)∧w'.cell? ⟨w.heap.size,0,none⟩=some (.string ek)∧w'.cell? ⟨w.heap.size,1,none⟩=some (.slice e1 m1 d1)∧w'.cell? ⟨w.heap.size,2,none⟩=some (.slice e2 m2 d2))) (by kernel_rfl) ⟨pX.cell 0,pE.cell 0,pE.cell 1,pE.cell 2⟩ (fun hS0=>?_)
  refine tkx 0 10 (.pointer (some ⟨X,0,none⟩)) ?_ ?_
  ·(intro w' hSw;(try dsimp only at hSw);go_simp;first | done | rfl | omega | (intro h9;omega) | (rw [IntKind.wrap_i64];omega))
  simp only [Act.put,tka,tkb,tkc]
  refine tkx 1 11 (.pointer (some ⟨X,0,none⟩)) ?_ ?_
  ·(intro w' hSw;(try dsimp only at hSw);go_simp;first | done | rfl | omega | (intro h9;omega) | (rw [IntKind.wrap_i64];omega))
  simp only [Act.put,tka,tkb,tkc]
  refine tkx 2 12 (.agg #[.slice va ln vc]) ?_ ?_
  ·(intro w' hSw;(try dsimp only at hSw);go_simp;first | done | rfl | omega | (intro h9;omega) | (rw [IntKind.wrap_i64];omega))
  simp only [Act.put,tka,tkb,tkc]
  refine tkx 3 13 (.agg #[.string ek,.slice e1 m1 d1,.slice e2 m2 d2]) ?_ ?_
  ·(intro w' hSw;(try dsimp only at hSw);go_simp;first | done | rfl | omega | (intro h9;omega) | (rw [IntKind.wrap_i64];omega))
  simp only [Act.put,tka,tkb,tkc]
  refine tkx 4 14 (.iface 39 (.agg #[.string ek,.slice e1 m1 d1,.slice e2 m2 d2])) ?_ ?_
  ·(intro w' hSw;(try dsimp only at hSw);go_simp;first | done | rfl | omega | (intro h9;omega) | (rw [IntKind.wrap_i64];omega))
  simp only [Act.put,tka,tkb,tkc]
  refine tkr 5 15 (fun K hK=>?_)
  go_simp
  refine (kK _).mono ?_
  rintro e w5 ⟨rfl,hb5⟩
  go_wp2_with fail
  refine hK.out _ _ ?_ (fun hS5=>?_)
  ·exact ⟨cells_kept hb5 _ _ hS0.1,cells_kept hb5 _ _ hS0.2.1,cells_kept hb5 _ _ hS0.2.2.1,cells_kept hb5 _ _ hS0.2.2.2⟩
  clear hK
  refine tkr 6 16 (fun K hK=>?_)
  go_simp
  refine (kF _ (bel8 bd hb5)).mono ?_
  rintro e w6 ⟨rfl,hb6⟩
  go_wp2_with fail
  refine hK.out _ _ ?_ (fun hS6=>?_)
  ·exact ⟨cells_kept hb6 _ _ hS5.1,cells_kept hb6 _ _ hS5.2.1,cells_kept hb6 _ _ hS5.2.2.1,cells_kept hb6 _ _ hS5.2.2.2⟩
  clear hK
  refine tkx 7 9 (.tuple #[.int .i64 (p:Int),.bool true]) ?_ ?_
  ·(intro w' hSw;(try dsimp only at hSw);go_simp;first | done | rfl | omega | (intro h9;omega) | (rw [IntKind.wrap_i64];omega))
  simp only [Act.put,tka,tkb,tkc]
  refine tkx 8 17 (.int .i64 (p:Int)) ?_ ?_
  ·(intro w' hSw;(try dsimp only at hSw);go_simp;first | done | rfl | omega | (intro h9;omega) | (rw [IntKind.wrap_i64];omega))
  simp only [Act.put,tka,tkb,tkc]
  refine tkx 9 18 (.bool true) ?_ ?_
  ·(intro w' hSw;(try dsimp only at hSw);go_simp;first | done | rfl | omega | (intro h9;omega) | (rw [IntKind.wrap_i64];omega))
  simp only [Act.put,tka,tkb,tkc]
  refine tkx 10 7 (.int .i64 (p:Int)) ?_ ?_
  ·(intro w' hSw;(try dsimp only at hSw);go_simp;first | done | rfl | omega | (intro h9;omega) | (rw [IntKind.wrap_i64];omega))
  simp only [Act.put,tka,tkb,tkc]
  refine tkx 11 8 (.bool true) ?_ ?_
  ·(intro w' hSw;(try dsimp only at hSw);go_simp;first | done | rfl | omega | (intro h9;omega) | (rw [IntKind.wrap_i64];omega))
  simp only [Act.put,tka,tkb,tkc]
  refine wpAnyH_done (by kernel_rfl) ?_ _
  have b6:Below U.heap.size U w6:=bel8 (bel8 (show Below U.heap.size U U.drew by go_grown) hb5) hb6
  replace bw:=bel8 bw b6
  replace pX:=pX.below b6
  replace pE:=pE.below b6
  replace q:=owns8 q b6
  replace hQ:=hQ.below b6
  replace hn:=hn.below b6
  have hs6:w.heap.size<w6.heap.size:=pE.lt
  clear hS0 hS5 hS6 hb5 hb6 b6 bd kF kK
  rcases q.2 with ⟨_,h0'⟩ | ⟨g,cap,cur,hv,hBg,hgr,hnc,_⟩
  ·omega
  injection hv with ea el ec
  subst ea el ec
  have hgl:=hqlt g rfl
  have hgX:g≠X:=fun e9=>row_ne_blkQ q pX (by decide) (by simp [Value.ownBlock];exact e9)
  have hgE:g≠w.heap.size:=by omega
  have b7:Below w6.heap.size w6 w6.drew:=by go_grown
  replace bw:=(bel8 bw b7).mono hBw
  replace pX:=pX.below b7
  replace pE:=pE.below b7
  replace q:=owns8 q b7
  replace hQ:=hQ.below b7
  replace hn:=hn.below b7
  have hcl:=q.1
  have f0:=q.frozenAt (p*3)
  have f1:=q.frozenAt (p*3+1)
  have f2:=q.frozenAt (p*3+2)
  obtain ⟨u0,hu0⟩:∃ u,w6.drew.cell? ⟨g,p*3,none⟩=some u:=⟨_,by rw [q.cellAt _ (by omega)];exact List.getElem?_eq_getElem (by omega)⟩
  obtain ⟨u1,hu1⟩:∃ u,w6.drew.cell? ⟨g,p*3+1,none⟩=some u:=⟨_,by rw [q.cellAt _ (by omega)];exact List.getElem?_eq_getElem (by omega)⟩
  obtain ⟨u2,hu2⟩:∃ u,w6.drew.cell? ⟨g,p*3+2,none⟩=some u:=⟨_,by rw [q.cellAt _ (by omega)];exact List.getElem?_eq_getElem (by omega)⟩
  have s1:=q.stored (p*3) (.string ek)
  have s2:=s1.1.stored (p*3+1) (.slice e1 m1 d1)
  have s3:=s2.1.stored (p*3+2) (.slice e2 m2 d2)
  have hQ3:=((hQ.kept9 s1.2 q).kept9 s2.2 s1.1).kept9 s3.2 s2.1
  have hn3:=((hn.kept9 s1.2 q).kept9 s2.2 s1.1).kept9 s3.2 s2.1
  have pX3:=((pX.off ⟨g,p*3,none⟩ (.string ek) (by simp;omega)).off ⟨g,p*3+1,none⟩ (.slice e1 m1 d1) (by simp;omega)).off ⟨g,p*3+2,none⟩ (.slice e2 m2 d2) (by simp;omega)
  have pE3:=((pE.off ⟨g,p*3,none⟩ (.string ek) (by simp;omega)).off ⟨g,p*3+1,none⟩ (.slice e1 m1 d1) (by simp;omega)).off ⟨g,p*3+2,none⟩ (.slice e2 m2 d2) (by simp;omega)
  have bz:=((bw.setCell (p:=⟨g,p*3,none⟩) hBg (.string ek)).setCell (p:=⟨g,p*3+1,none⟩) hBg (.slice e1 m1 d1)).setCell (p:=⟨g,p*3+2,none⟩) hBg (.slice e2 m2 d2)
  have hrow:(((w6.drew.setCell ⟨g,p*3,none⟩ (.string ek)).setCell ⟨g,p*3+1,none⟩ (.slice e1 m1 d1)).setCell ⟨g,p*3+2,none⟩ (.slice e2 m2 d2)).ownsRow B 39 3 (.slice (some ⟨g,0,none⟩) ln vc) PL.length (entL PL):=by
   rw [hov,HLN]
   have h9:=s3.1
   rw [set3_eq (by omega)] at h9
   exact h9
  have hM:=(HOQ.out _ hQ3 hn3).own hrow
  rw [HMP.out] at hM
  have hpn:(p:Int)<(ln:Int):=by omega
  have hp0:(0:Int)≤(p:Int):=by omega
  have x0:=pX.cell 0
  have y0:=pE.cell 0
  have y1:=pE.cell 1
  have y2:=pE.cell 2
  simp only [List.getElem?_cons_zero,List.getElem?_cons_succ] at x0 y0 y1 y2
  clear s1 s2 s3 hQ3 hn3 hrow hQ hn q
  go_wp2_with fail
  refine wp_region_held_drew (S:=(fun w'=>w'.cell? ⟨X,0,none⟩=some (.slice (some ⟨g,0,none⟩) ln vc)∧w'.cell? ⟨w.heap.size,0,none⟩=some (.string ek)∧w'.cell? ⟨w.heap.size,1,none⟩=some (.slice e1 m1 d1)∧w'.cell? ⟨w.heap.size,2,none⟩=some (.slice e2 m2 d2))) (by kernel_rfl) ⟨x0,y0,y1,y2⟩ (fun hS0=>?_)
  refine tkx 0 21 (.pointer (some ⟨X,0,none⟩)) ?_ ?_
  ·(intro w' hSw;(try dsimp only at hSw);go_simp;first | done | rfl | omega | (intro h9;omega) | (rw [IntKind.wrap_i64];omega))
  simp only [Act.put,tka,tkb,tkc]
  refine tkx 1 22 (.pointer (some ⟨X,0,none⟩)) ?_ ?_
  ·(intro w' hSw;(try dsimp only at hSw);go_simp;first | done | rfl | omega | (intro h9;omega) | (rw [IntKind.wrap_i64];omega))
  simp only [Act.put,tka,tkb,tkc]
  refine tkx 2 23 (.pointer (some ⟨X,0,none⟩)) ?_ ?_
  ·(intro w' hSw;(try dsimp only at hSw);go_simp;first | done | rfl | omega | (intro h9;omega) | (rw [IntKind.wrap_i64];omega))
  simp only [Act.put,tka,tkb,tkc]
  refine tkx 3 24 (.slice (some ⟨g,0,none⟩) ln vc) ?_ ?_
  ·(intro w' hSw;(try dsimp only at hSw);go_simp;first | done | rfl | omega | (intro h9;omega) | (rw [IntKind.wrap_i64];omega))
  simp only [Act.put,tka,tkb,tkc]
  refine tkx 4 25 (.int .i64 (p:Int)) ?_ ?_
  ·(intro w' hSw;(try dsimp only at hSw);go_simp;first | done | rfl | omega | (intro h9;omega) | (rw [IntKind.wrap_i64];omega))
  simp only [Act.put,tka,tkb,tkc]
  refine tkx 5 26 (.agg #[.string ek,.slice e1 m1 d1,.slice e2 m2 d2]) ?_ ?_
  ·(intro w' hSw;(try dsimp only at hSw);go_simp;first | done | rfl | omega | (intro h9;omega) | (rw [IntKind.wrap_i64];omega))
  simp only [Act.put,tka,tkb,tkc]
  refine tkx 6 27 (.pointer (some ⟨g,p*3,none⟩)) ?_ ?_
  ·(intro w' hSw;(try dsimp only at hSw);go_simp;first | done | rfl | omega | (intro h9;omega) | (rw [IntKind.wrap_i64];omega))
  simp only [Act.put,tka,tkb,tkc]
  generalize w6.drew=V at *
  refine tkz 7 (fun K hK=>?_)
  go_simp
  refine hK.out _ _ ?_ (fun hS7=>?_)
  ·exact ⟨pX3.cell 0,pE3.cell 0,pE3.cell 1,pE3.cell 2⟩
  clear hK
  try simp only [Act.put,tka,tkb,tkc]
  refine wpAnyH_done (by kernel_rfl) ?_ _
  clear hS0 hS7 pX pE pE3 bw
  go_wp2
  go_ret
  exact ⟨PutR.mk9 pX3 hM,bz⟩
end Go.Proofs.YthlcdhddickdiaaDoor
