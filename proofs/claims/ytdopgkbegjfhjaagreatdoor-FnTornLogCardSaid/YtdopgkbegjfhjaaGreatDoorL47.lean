/-
  Joined: RecV.
-/
import Derived.Deep.CutRange
import Derived.Test.YtdopgkbegjfhjaaGreatDoorL42
import Derived.Test.YtdopgkbegjfhjaaGreatDoorL45
import Derived.Test.YtdopgkbegjfhjaaGreatDoorL46

namespace Go.Proofs.YtdopgkbegjfhjaaGreatDoor
set_option maxRecDepth 100000
set_option maxHeartbeats 16000000
open Go.RowKit
set_option linter.unusedVariables false
set_option linter.unusedSimpArgs false

theorem readyT {P:Program} {ops:Array Oper} {Q:Exit→Act→World→Prop} {md:Region.Mode} {S:World→Prop} (rs:List Nat) {fuel:Nat} {listed:Array Bool} {a:Act} {w:World} (hr:Region.ready md ops listed=rs) (h:AllReadyH P md ops Q S fuel listed a w rs) (hn:rs≠[]:=by simp):wpAnyH P md ops Q S (fuel+1) listed a w:=wpAnyH_ready hr hn h
theorem Blk.keptT {w w':World} {g t:Nat} {cs:List Value} {r:Option Nat} (h:Blk w g t cs) (k:w.grownBy w' r) (hne:r≠some g):Blk w' g t cs:=(k.block g h.lt (fun e=>hne e.symm)).trans h
theorem Code.belowV {w w':World} {a:Option Addr} {n c:Nat} (h:Code w w.heap.size a n c) (b:Below w.heap.size w w'):Code w' w'.heap.size a n c:=by
 obtain ⟨zs,c1,c2,c3,c4⟩:=h
 exact ⟨zs,c1.below b,c2,c3,fun x hx h9=>by have:=c4 x hx h9;have:=b.size;omega⟩
theorem xor_one9:∀ b:Fin 256,0≤bits BinOp.xor IntKind.u8 (b.val:Int) 1∧bits BinOp.xor IntKind.u8 (b.val:Int) 1≤255∧bits BinOp.xor IntKind.u8 (b.val:Int) 1≠(b.val:Int)∧(b.val=2→bits BinOp.xor IntKind.u8 (b.val:Int) 1=3):=by decide
theorem conv_one (y:Int) (g cap:Nat) (W:World) (h0:W.cell? ⟨g,0,none⟩=some (.int .u8 y)) :
  (convert 22 9 (.slice (some ⟨g,0,none⟩) 1 cap)).run Tryz.prog W=.ok (.string (strOfNums [y])) W:=by
 refine run_convert_bytes_arg W 22 5 Tryz.underlying22 Tryz.underlying5 g 0 1 cap [y] rfl (fun i hi=>?_) 9 Tryz.underlying9
 obtain rfl:i=0:=by omega
 simpa using h0
theorem endsI_len (rs:List R2):(endsI rs).length=rs.length+1:=by unfold endsI;simp
theorem codeOwn {w:World} {B n:Nat} {v:Value} {zs:List Int} (h:w.ownsRow B 5 1 v n (zs.map (Value.int .u8))) (hz:∀ z ∈ zs,0≤z∧z≤255) (hn:n≤1048577):∃ a c,v=.slice a n c∧Code w w.heap.size a n c:=by
 have hl:zs.length=n:=by have:=h.1;simpa using this
 rcases id h.2 with ⟨rfl,h0⟩ | ⟨g,c,cur,rfl,_⟩
 ·have:zs=[]:=List.eq_nil_of_length_eq_zero (by omega)
  exact ⟨none,0,by rw [h0],zs,by rw [h0,this];exact ⟨rfl,Nat.le_refl _,by unfold maxLen;omega,.inl rfl⟩,hz,hn,fun x hx=>by cases hx⟩
 ·exact ⟨_,c,rfl,zs,Ints.of_owns h,hz,hn,fun x hx _=>by cases hx;exact (h.lt g rfl).2⟩
def CutT (w0:World) (t:ByteArray) (sA sB:Value) (W:World):Prop:=∃ (X:Nat) (r:R2),sA=.pointer (some ⟨X,0,none⟩)∧sB=.int .i64 0∧RecOk r∧Blk W X 27 [.string t,.string (frameOf (recT r))]∧Below w0.heap.size w0 W∧w0.heap.size≤X

theorem fnTornLog_of (G:World→Prop) (hG:∀ a b:World,G a→Below a.heap.size a b→G b) (a0:Option Addr) (len0 cap0:Nat) (z0:List Int) (a1:Option Addr) (len1 cap1:Nat) (z1:List Int) (w:World) (h0:IsRow .u8 w a0 len0 cap0 z0) (h1:IsRow .u8 w a1 len1 cap1 z1) (g0:G w)
  (kAp:∀ (d:D2) (r:R2) (w:World),G w→d.1.size+d.2.size≤1048576→r.2.size≤1048576→Calls Tryz.prog 11 #[d.val,r.val] w fun e w'=>e=ResD (apR d r)∧Below w.heap.size w w')
  (kRd:∀ (d:D2) (w:World),G w→d.1.size+d.2.size≤1048576→Calls Tryz.prog 16 #[d.val] w fun e w'=>ReadGot d e w' w.heap.size∧Below w.heap.size w w') :
  Calls Tryz.prog 4 #[.slice a0 len0 cap0,.slice a1 len1 cap1] w fun e w'=>e=.returned (.bool true)∧Below w.heap.size w w':=by
 obtain ⟨i0,hi,hz0,hz1,hz2⟩:=info_parts info_u8
 obtain ⟨j0,hj,hy0,hy1,hy2⟩:=info_parts info_int
 have m0:=h0.len_le
 have m1:=h1.len_le
 unfold maxLen at m0 m1
 by_cases hb0:1048576<len0
 ·go_enter Tryz.func4,Tryz.ntmps4
  go_wp2
  go_ret
  exact ⟨rfl,Below.refl _ _⟩
 by_cases hb1:1048576<len1
 ·go_enter Tryz.func4,Tryz.ntmps4
  go_wp2
  go_ret
  exact ⟨rfl,Below.refl _ _⟩
 have l0:len0≤1048576:=by omega
 have l1:len1≤1048576:=by omega
 have HI0:=Ints.of_isRow h0
 have HZ0:Hid (∀ z ∈ z0.take len0,0≤z∧z≤255):=by
  obtain ⟨zs,c1,c2,_⟩:=code_of h0 l0
  intro z hz
  rcases h0 with ⟨_,_,_,rfl⟩ | ⟨x,_,_,_,_,_,hw⟩
  ·simp at hz
  ·have:=hw z (List.mem_of_mem_take hz)
   simp [Lit.wf,IntKind.min,IntKind.max,IntKind.signed,IntKind.bits] at this
   omega
 have HN0:Hid (a0=none→len0=0∧cap0=0):=by
  rcases h0 with ⟨rfl,rfl,rfl,_⟩ | ⟨x,rfl,_⟩
  ·exact fun _=>⟨rfl,rfl⟩
  ·exact fun h=>by cases h
 have HC0:Hid (∀ ad,a0=some ad→∀ i u,((z0.take len0).map (Value.int .u8))[i]?=some u→w.cell? (ad.add i)=some u∧(ad.add i).block<w.heap.size):=by
  intro ad had i u hu
  rcases h0 with ⟨h9,_⟩ | ⟨x,h9,hlc,_,hzl,hc,_⟩
  ·rw [h9] at had;cases had
  ·rw [h9] at had
   cases had
   have hlt:i<((z0.take len0).map (Value.int .u8)).length:=by
    rcases Nat.lt_or_ge i ((z0.take len0).map (Value.int .u8)).length with h | h
    ·exact h
    ·rw [List.getElem?_eq_none h] at hu;cases hu
   have hil:i<len0∧i<z0.length:=by simp at hlt;omega
   have h5:=hc i (by omega)
   have hu2:u=.int .u8 (z0.getD i 0):=by
    rw [List.getElem?_map,List.getElem?_take_of_lt hil.1,List.getElem?_eq_getElem hil.2] at hu
    simp at hu
    rw [← hu,List.getD,List.getElem?_eq_getElem hil.2]
    rfl
   rw [hu2]
   exact ⟨h5,World.block_lt_of_cell? _ _ h5⟩
 have HL0:Hid ((z0.take len0).length=len0):=HI0.1
 have H1:Hid (IsRow .u8 w a1 len1 cap1 z1):=h1
 clear hb0 hb1 m0 m1 h1 h0 HI0
 have pD0:=Blk.new w 27 [.string ⟨#[]⟩,.string ⟨#[]⟩]
 have bD0:=bel_new w (.cells #[.string ⟨#[]⟩,.string ⟨#[]⟩] 27)
 have sD0:=size_al w (.cells #[.string ⟨#[]⟩,.string ⟨#[]⟩] 27)
 go_enter Tryz.func4,Tryz.ntmps4
 go_wp2
 go_loopw [6,7] (fun s6 s7 wr=>∃ (j:Nat) (rs:List R2),rs.length=j∧j≤3∧s7=.int .i64 (j:Int)∧Hid (∀ r ∈ rs,RecOk r)∧Blk wr w.heap.size 27 [.string (catF rs),.string ⟨#[]⟩]∧wr.ownsRow (w.heap.size+1) 3 1 s6 (j+1) ((endsI rs).map (Value.int .i64))∧Below w.heap.size w wr) (fun _ s7 _=>3 - (intOf s7).toNat)
 case atStart =>
  refine ⟨0,[],rfl,by omega,rfl,(fun r hr=>absurd hr (by simp):∀ r ∈ ([]:List R2),RecOk r),pD0.below (bel_new _ _),?_,belD bD0 (bel_new _ _)⟩
  have:=World.ownsRow_lit (base:=w.heap.size+1) (e:=3) (size:=1) (w.alloc (.cells #[.string ⟨#[]⟩,.string ⟨#[]⟩] 27)) #[.int .i64 0] 1 (by rw [sD0];exact Nat.le_refl _) (by unfold maxLen;omega) rfl
  rw [sD0] at this
  first | exact this | simpa using this
 case round =>
  obtain ⟨j,rs,hrl,hj3,rfl,HR,pD,hr,hb⟩:=hrel
  by_cases hlt:j<3
  ·have hlt2:(j:Int)<3:=by omega
   have hTs:(catF rs).size≤3100:=by have:=catF_small rs HR.out;omega
   have kA:∀ (k:Int) (t:ByteArray) (W:World),RecOk (k,t)→G W→Calls Tryz.prog 11 #[.agg #[.string (catF rs),.string ⟨#[]⟩],.agg #[.int .i64 k,.string t]] W fun e w'=>e=.returned (.tuple #[.agg #[.string (catF rs),.string (frameOf (recT (k,t)))],.int .i64 0])∧Below W.heap.size W w':=by
    intro k t W hk g
    have h9:=kAp (catF rs,noT) (k,t) W g (by show (catF rs).size+0≤_;omega) (by have:=hk.1;simp only at this ⊢;omega)
    rw [apR_yes (by show (catF rs).size+0≤_;omega) hk,appD_two9 _ _ (by omega) (by have:=frame9_small hk;omega)] at h9
    exact h9
   obtain ⟨tt,htt⟩:∃ tt,tt=catF rs:=⟨_,rfl⟩
   have HTT:Hid (tt=catF rs):=htt
   rw [← htt] at pD kA hTs
   clear htt
   have e0:=pD.cell 0
   have e1:=pD.cell 1
   simp only [List.getElem?_cons_zero,List.getElem?_cons_succ] at e0 e1
   have qu:IntKind.u8.wrap (j:Int)=(j:Int):=by
    rcases (by omega:j=0∨j=1∨j=2) with rfl | rfl | rfl<;>rfl
   go_wp2_with fail
   go_cut [8,9] from 37 to 65 (fun sA sB W=>CutT wr tt sA sB W)
   case first =>
    as_aux_lemma =>
     refine wp_region_held_drew (S:=(fun w'=>w'.cell? ⟨w.heap.size,0,none⟩=some (.string tt)∧w'.cell? ⟨w.heap.size,1,none⟩=some (.string ⟨#[]⟩))) (by kernel_rfl) ⟨e0,e1⟩ (fun hS0=>?_)
     have bq:Below wr.heap.size wr wr.drew:=by go_grown
     generalize wr.drew=V at *
     refine tkm 0 38 (.agg #[.string tt,.string ⟨#[]⟩]) ?_
     refine tkm 1 39 (.int .i64 (j:Int)) ?_
     refine tkm 2 40 (.int .u8 (j:Int)) ?_
     refine tkm 4 42 (.slice a0 len0 cap0) ?_
     iterate 5
      all_goals first
       | refine readyT [3] (by decide +kernel) ?_
       | refine readyT [5] (by decide +kernel) ?_
       | refine readyT [6] (by decide +kernel) ?_
       | refine readyT [7] (by decide +kernel) ?_
       | refine readyT [11] (by decide +kernel) ?_
       | refine readyT [3,11] (by decide +kernel) ?_
       | refine readyT [5,11] (by decide +kernel) ?_
       | refine readyT [6,11] (by decide +kernel) ?_
       | refine readyT [7,11] (by decide +kernel) ?_
      all_goals repeat' first
       | exact AllReadyH.nil
       | refine AllReadyH.cons (o:=⟨some 41,_,_,_,_,_⟩) rfl (fun K hK=>?_) ?_
       | refine AllReadyH.cons (o:=⟨some 43,_,_,_,_,_⟩) rfl (fun K hK=>?_) ?_
       | refine AllReadyH.cons (o:=⟨some 44,_,_,_,_,_⟩) rfl (fun K hK=>?_) ?_
       | refine AllReadyH.cons (o:=⟨some 45,_,_,_,_,_⟩) rfl (fun K hK=>?_) ?_
       | refine AllReadyH.cons (o:=⟨some 8,_,_,_,_,_⟩) rfl (fun K hK=>?_) ?_
      all_goals first
       | (
         go_simp
         have hq:Below V.heap.size V (V.alloc (.cells #[.int .u8 (j:Int)] 5)):=by go_grown
         have qr:=World.ownsRow_lit (base:=wr.heap.size) (e:=5) (size:=1) V #[.int .u8 (j:Int)] 1 bq.size (by unfold maxLen;omega) rfl
         obtain ⟨Q,hQ⟩:∃ Q,Q=V.heap.size:=⟨_,rfl⟩
         rw [← hQ] at qr
         (try replace pX:=pX.below hq)
         replace bq:=belD bq hq
         refine hK.out _ (V.alloc (.cells #[.int .u8 (j:Int)] 5)) ⟨cellsD2 hq _ _ hS0.1,cellsD2 hq _ _ hS0.2⟩ (fun hS0=>?_)
         rw [← hQ]
         clear hK hq hQ
         try simp only [Act.put,tka,tkb,tkc]
         generalize (V.alloc (.cells #[.int .u8 (j:Int)] 5))=V at *)
       | (
         go_simp
         refine (recordDrawn_code _ _ _ _ hCode (by omega)).mono ?_
         rintro e V ⟨⟨⟨k9,t9⟩,hr9,rfl⟩,hq⟩
         have HR9:Hid (RecOk (k9,t9)):=hr9
         clear hr9 hCode
         (try replace pX:=pX.below hq)
         replace bq:=belD bq hq
         unfold R2.val
         go_wp2_with fail
         refine hK.out _ _ ⟨cellsD2 hq _ _ hS0.1,cellsD2 hq _ _ hS0.2⟩ (fun hS0=>?_)
         clear hK hq)
       | (
         go_simp
         refine (kA _ _ _ HR9.out (hG _ _ g0 (belD hb bq))).mono ?_
         rintro e V ⟨rfl,hq⟩
         (try replace pX:=pX.below hq)
         replace bq:=belD bq hq
         go_wp2_with fail
         refine hK.out _ _ ⟨cellsD2 hq _ _ hS0.1,cellsD2 hq _ _ hS0.2⟩ (fun hS0=>?_)
         clear hK hq
         refine tkm 8 37 (.tuple #[.agg #[.string tt,.string (frameOf (recT (k9,t9)))],.int .i64 0]) ?_
         refine tkm 9 46 (.agg #[.string tt,.string (frameOf (recT (k9,t9)))]) ?_
         refine tky 10 47 (.int .i64 0) ?_
         simp only [Act.put,tka,tkb,tkc])
       | (
         go_simp
         have hq:Below V.heap.size V (V.alloc (.cells #[.string ⟨#[]⟩,.string ⟨#[]⟩] 27)):=by go_grown
         have pX:=Blk.new V 27 [.string ⟨#[]⟩,.string ⟨#[]⟩]
         obtain ⟨X,hX⟩:∃ X,X=V.heap.size:=⟨_,rfl⟩
         have lX:wr.heap.size≤X:=by rw [hX];exact bq.size
         rw [← hX] at pX
         (try replace qr:=owns8 qr hq)
         (try replace hCode:=hCode.belowV hq)
         replace bq:=belD bq hq
         refine hK.out _ (V.alloc (.cells #[.string ⟨#[]⟩,.string ⟨#[]⟩] 27)) ⟨cellsD2 hq _ _ hS0.1,cellsD2 hq _ _ hS0.2⟩ (fun hS0=>?_)
         rw [← hX]
         clear hK hq hX
         try simp only [Act.put,tka,tkb,tkc]
         generalize (V.alloc (.cells #[.string ⟨#[]⟩,.string ⟨#[]⟩] 27))=V at *)
       | (
         refine step_app9 rfl _ _ 22 rfl wr.heap.size 5 i0 (.int .u8 0) 1 1 Tryz.underlying22 hi hz0 hz1 hz2 rfl (by decide) _ 1 ([(j:Int)].map (Value.int .u8)) rfl qr a0 len0 cap0 rfl HN0.out ((z0.take len0).map (Value.int .u8)) (by rw [List.length_map,HL0.out,Nat.mul_one]) (fun ad had i u hu=>by have h9:=HC0.out ad had i u hu;rw [(belD hb bq).cell h9.2];exact h9.1) (by intro u hu;obtain ⟨z,_,rfl⟩:=List.mem_map.1 hu;rfl) (by unfold maxLen;omega) (by omega) bq.size ?_
         intro v9 V qr9 gr9 _
         have hw9:w.heap.size<wr.heap.size:=pD.lt
         have hnb:∀ k,some k=(Value.slice (some ⟨Q,0,none⟩) 1 1).ownBlock→wr.heap.size≤k:=fun k hk=>(qr.lt k hk.symm).1
         (try have hXQ:=own_ne_blk9' qr pX (by decide))
         (try replace pX:=pX.keptT gr9 hXQ)
         skip
         refine hK.out _ _ ⟨grown8 gr9 hS0.1 (fun e=>by have:=hnb _ e;dsimp only at this;omega),grown8 gr9 hS0.2 (fun e=>by have:=hnb _ e;dsimp only at this;omega)⟩ (fun hS0=>?_)
         replace bq:=bq.grown gr9 bq.size (fun k hk=>hnb k hk.symm)
         rw [← List.map_append] at qr9
         obtain ⟨av,cv,rfl,hCode⟩:=codeOwn qr9 (fun z hz=>(List.mem_append.1 hz).elim (fun h9=>by simp at h9;omega) (fun h9=>HZ0.out z h9)) (by omega)
         clear hK gr9 qr9 qr hnb
         try simp only [Act.put,tka,tkb,tkc])
     all_goals
      refine tkz 12 (fun K hK=>?_)
      refine step_store_boxR rfl 27 _ _ rfl X [.string tt,.string (frameOf (recT (k9,t9)))] rfl rfl pX (by kernel_rfl) rfl rfl ?_
      intro V8 p8 g8
      have hw:w.heap.size<X:=by have:=pD.lt;omega
      refine hK.out _ _ ⟨grown8 g8 hS0.1 (fun e=>by injection e with e9;dsimp only at e9;omega),grown8 g8 hS0.2 (fun e=>by injection e with e9;dsimp only at e9;omega)⟩ (fun hS0=>?_)
      clear hK
      try simp only [Act.put,tka,tkb,tkc]
      replace bq:=bq.grown g8 bq.size (fun k hk=>by cases hk;exact lX)
      replace pX:=p8.out
      clear p8 g8
      refine tkm 13 9 (.int .i64 0) ?_
      refine wpAnyH_done (by kernel_rfl) ?_ _
      go_wp2_with fail
      go_meet
      case rel=>exact ⟨X,(k9,t9),rfl,rfl,HR9.out,pX,bq,lX⟩
   obtain ⟨X,rr,rfl,rfl,hok,pX,bq,lX⟩:=hcut
   rename World=>wS
   have hfr:=frame9_small hok
   have HOK:Hid (RecOk rr):=hok
   have HF0:Hid (catF (rs++[rr])=tt++frameOf (recT rr)):=by rw [Hid,catF_snoc,← HTT.out]
   clear hok kA e0 e1 qu
   generalize frameOf (recT rr)=F at *
   replace pD:=pD.below bq
   replace hr:=owns_below hr bq
   replace hb:=belD hb bq
   have x0:=pX.cell 0
   have x1:=pX.cell 1
   simp only [List.getElem?_cons_zero,List.getElem?_cons_succ] at x0 x1
   have kF:=fun W=>implFlushDisk_is tt F W (by omega)
   rw [flushD_two9 tt F (by omega) (by omega)] at kF
   unfold ResD D2.val at kF
   simp only at kF
   have hts:(tt++F).size≤6000:=by rw [ByteArray.size_append];omega
   generalize tt++F=T2 at *
   clear bq lX pX HTT hTs
   go_wp2_with fail
   clear x0 x1
   refine (kF _).mono ?_
   rintro e w2 ⟨rfl,b1⟩
   replace pD:=pD.below b1
   replace hr:=owns_below hr b1
   replace hb:=belD hb b1
   clear b1 kF
   have pY:=Blk.new w2 27 [.string T2,.string noT]
   have b1:=bel_new w2 (.cells #[.string T2,.string noT] 27)
   replace pD:=pD.below b1
   replace hr:=owns_below hr b1
   replace hb:=belD hb b1
   clear b1
   have y0:=pY.cell 0
   have y1:=pY.cell 1
   have d0:=pD.cell 0
   have d1:=pD.cell 1
   have f0:=pD.frozen 0
   have f1:=pD.frozen 1
   simp only [List.getElem?_cons_zero,List.getElem?_cons_succ] at y0 y1 d0 d1
   have hgr:∀ g,(u6:Value).ownBlock=some g→g≠w.heap.size:=fun g hg e9=>by have:=(hr.lt g hg).1;omega
   have pD2:=(pD.set 0 (.string T2)).set 1 (.string noT)
   simp only [List.set_cons_zero,List.set_cons_succ] at pD2
   have kept9:∀ (W:World) (i:Nat) (u:Value),W.ownsRow (w.heap.size+1) 3 1 u6 (j+1) ((endsI rs).map (Value.int .i64))→(W.setCell ⟨w.heap.size,i,none⟩ u).ownsRow (w.heap.size+1) 3 1 u6 (j+1) ((endsI rs).map (Value.int .i64)):=fun W i u h=>h.kept (grownBy_set W w.heap.size i u) (by
    rcases hv:u6.ownBlock with _ | g
    ·exact .inl rfl
    ·exact .inr (fun e9=>by cases e9;exact hgr _ hv rfl))
   have hr2:=kept9 _ 1 (.string noT) (kept9 _ 0 (.string T2) hr)
   have hb2:=(hb.setCell (p:=⟨w.heap.size,0,none⟩) (Nat.le_refl _) (.string T2)).setCell (p:=⟨w.heap.size,1,none⟩) (Nat.le_refl _) (.string noT)
   clear hr hgr kept9
   have z0:=pD2.cell 0
   have z1:=pD2.cell 1
   simp only [List.getElem?_cons_zero,List.getElem?_cons_succ] at z0 z1
   go_upto_region 13 with fail
   generalize ((w2.alloc (.cells #[.string T2,.string noT] 27)).setCell ⟨w.heap.size,0,none⟩ (.string T2)).setCell ⟨w.heap.size,1,none⟩ (.string noT)=W6 at *
   clear y0 y1 d0 d1 f0 f1 pD pY hb
   have hbs2:=hb2.size
   have hbn:w.heap.size<W6.heap.size:=pD2.lt
   go_wp2_with (at_builtin;refine wpList_append_own _ rfl _ _ 40 rfl (w.heap.size+1) 3 j0 (.int .i64 0) 1 8 Tryz.underlying40 hj hy0 hy1 hy2 rfl (by decide) _ _ _ rfl (hr2.alloc _) ⟨W6.heap.size,0,none⟩ 1 1 [.int .i64 (T2.size:Int)] rfl rfl (cell_one_new _ _ _) (one_i64 _) ?c3 ?c4 ?c5 ?_)
   case c3=>unfold maxLen;omega
   case c4=>omega
   case c5=>simp;omega
   intro v' w4 hown' hgrow _
   have hb4:Below w.heap.size w w4:=(hb2.alloc hbs2 _).grown hgrow (by simp;omega) (fun i hi=>by have:=(hr2.lt _ hi).1;omega)
   have pD4:Blk w4 w.heap.size 27 [.string T2,.string noT]:=Blk.keptT (pD2.below (bel_new W6 _)) hgrow (by
    rcases hv:(u6:Value).ownBlock with _ | g
    ·simp
    ·have:=(hr2.lt g hv).1;intro e9;cases e9;omega)
   have hown2:w4.ownsRow (w.heap.size+1) 3 1 v' (j+1+1) ((endsI (rs++[rr])).map (Value.int .i64)):=by
    rw [endsI_snoc,HF0.out,List.map_append]
    exact hown'
   have HR2:Hid (∀ r ∈ rs++[rr],RecOk r):=fun r hm=>by
    rcases List.mem_append.1 hm with h9 | h9
    ·exact HR.out r h9
    ·simp at h9;rw [h9];exact HOK.out
   rw [← HF0.out] at pD4
   clear hown' hgrow hr2 hb2 pD2 HF0 HOK HR
   go_wp2
   go_roundw
   case rel =>
    exact ⟨j+1,rs++[rr],by simp [hrl],by omega,by go_num,HR2,pD4,hown2,hb4⟩
   case measure=>simp [intOf];omega
  ·obtain rfl:j=3:=by omega
   have hx9:¬ ((3:Nat):Int)<3:=by omega
   have hTs:(catF rs).size≤3100:=by have:=catF_small rs HR.out;omega
   clear hlt hj3
   go_wp2_with fail
   refine (at_any _ _ _ z1 0 3 _ (H1.out.below hb) l1 (by omega) (by omega) (by omega)).mono ?_
   rintro e w5 ⟨⟨k,hk,rfl⟩,d1,rfl⟩
   have b1:Below wr.heap.size wr (wr.drewN d1):=below_drewN (Below.refl _ _) d1
   replace pD:=pD.below b1
   replace hr:=owns_below hr b1
   replace hb:=belD hb b1
   clear b1
   generalize wr.drewN d1=W1 at *
   have hk3:k≤2:=by omega
   clear hk
   obtain ⟨pre,r,post,hsp,hpl⟩:∃ pre r post,rs=pre++r::post∧pre.length=k:=⟨rs.take k,rs[k]'(by omega),rs.drop (k+1),by rw [List.getElem_cons_drop,List.take_append_drop],by rw [List.length_take];omega⟩
   have hrr:RecOk r:=HR.out r (by rw [hsp];simp)
   have hpre:∀ x ∈ pre,RecOk x:=fun x hx=>HR.out x (by rw [hsp];simp [hx])
   have E0:(endsI rs)[k]?=some ((catF pre).size:Int):=by rw [endsI_get rs k (by omega),hsp,List.take_left' hpl]
   have E1:(endsI rs)[k+1]?=some (((catF pre).size+(frameOf (recT r)).size:Nat):Int):=by
    have h9:rs.take (k+1)=pre++[r]:=by rw [hsp,List.take_append,hpl,List.take_of_length_le (by omega),show k+1 - k=1 by omega];rfl
    rw [endsI_get rs (k+1) (by omega),h9,catF_snoc,ByteArray.size_append]
   have hcat:catF rs=catF pre++(frameOf (recT r)++catF post):=by rw [hsp,catF_app];rfl
   have hsz:(catF rs).size=(catF pre).size+((frameOf (recT r)).size+(catF post).size):=by rw [hcat,ByteArray.size_append,ByteArray.size_append]
   have hbt:∀ d,d<(frameOf (recT r)).size→bt (catF rs) ((catF pre).size+d)=bt (frameOf (recT r)) d:=fun d hd=>by
    rw [hcat,bt_right _ _ _ (by rw [ByteArray.size_append];omega),bt_left _ _ _ hd]
   have HBT:Hid (∀ d,d<(frameOf (recT r)).size→bt (catF rs) ((catF pre).size+d)=bt (frameOf (recT r)) d):=hbt
   have hlb:=log_bent pre post r hpre hrr
   rw [← hsp] at hlb
   have HLB:Hid (∀ (d:Nat) (hd:d<(frameOf (recT r)).size) (h5:(frameOf (recT r)).size≤d+5) (u:ByteArray) (hu:u.size=1) (hne:bt u 0≠bt (frameOf (recT r)) d) (hx:bt (frameOf (recT r)) d=2→bt u 0=3),LogAt ((catF rs).extract 0 ((catF pre).size+d)++u++(catF rs).extract ((catF pre).size+d+1) (catF rs).size) 0 pre (catF pre).size):=hlb
   have hf5:=frame_five hrr
   have HLA:Hid (LogAt (catF rs) 0 rs (catF rs).size):=log_all rs HR.out
   clear hbt hlb hcat hsp hrr hpre HR
   obtain ⟨T,hT⟩:∃ T,T=catF rs:=⟨_,rfl⟩
   obtain ⟨E,hE⟩:∃ E,E=endsI rs:=⟨_,rfl⟩
   have hEl:E.length=4:=by rw [hE,endsI_len,hrl]
   rw [← hT] at pD hTs hsz HBT HLB HLA
   rw [← hE] at hr E0 E1
   clear hT hE
   generalize (catF pre).size=p0 at *
   generalize frameOf (recT r)=F at *
   generalize (catF post).size=p2 at *
   obtain ⟨gE,cE,rfl⟩:∃ g c,u6=.slice (some ⟨g,0,none⟩) 4 c:=by
    rcases id hr.2 with ⟨_,h9⟩ | ⟨g,c9,cur,h9,_⟩
    ·omega
    ·exact ⟨g,c9,h9⟩
   have c0:=hr.cellAt k (by omega)
   have c1:=hr.cellAt (k+1) (by omega)
   rw [List.getElem?_map,E0] at c0
   rw [List.getElem?_map,E1] at c1
   simp only [Option.map_some] at c0 c1
   have d0:=pD.cell 0
   simp only [List.getElem?_cons_zero] at d0
   have HR1:Hid (IsRow .u8 W1 a1 len1 cap1 z1):=H1.out.below hb
   have HP1:Hid (Blk W1 w.heap.size 27 [.string T,.string noT]):=pD
   have HW1:Hid (Below w.heap.size w W1):=hb
   have HO1:Hid (W1.ownsRow (w.heap.size+1) 3 1 (.slice (some ⟨gE,0,none⟩) 4 cE) 4 (E.map (Value.int .i64))):=hr
   clear pD hr hb hx9 E1
   have q1:IntKind.i64.wrap ((k:Int)+1)=(k:Int)+1:=IntWalk.i64_in _ ⟨by omega,by omega⟩
   have q2:IntKind.i64.wrap (((p0+F.size:Nat):Int) - 1)=((p0+F.size:Nat):Int) - 1:=IntWalk.i64_in _ ⟨by omega,by omega⟩
   have k1:(k:Int)+1<4:=by omega
   have k2:(0:Int)≤(k:Int)+1:=by omega
   have k3:((k:Int)+1).toNat=k+1:=by omega
   have k4:k+1<4:=by omega
   go_wp2_with fail
   go_region_held3 (fun w'=>w'.cell? ⟨gE,k+1,none⟩=some (.int .i64 ((p0+F.size:Nat):Int)))
    (first | (exact c1) | (apply cellsD2 (by assumption);assumption) | go_keep)
    (first | (go_at_call 14;refine (at_any _ _ _ z1 1 5 _ (IsRow.drew HR1.out 1) l1 (by omega) (by omega) (by omega)).mono ?_;rintro e w6 ⟨⟨c,hc,rfl⟩,d2,rfl⟩))
   have hc4:c≤4:=by omega
   obtain ⟨dd,hdd⟩:∃ dd,dd=F.size - 1 - c:=⟨_,rfl⟩
   have hdF:dd<F.size:=by omega
   have q9:IntKind.i64.wrap (IntKind.i64.wrap ((p0:Int)+(F.size:Int) - 1) - (c:Int))=((p0+dd:Nat):Int):=by
    rw [IntWalk.i64_in ((p0:Int)+(F.size:Int) - 1) ⟨by omega,by omega⟩,IntWalk.i64_in _ ⟨by omega,by omega⟩]
    omega
   obtain ⟨n,hn⟩:∃ n,n=p0+dd:=⟨_,rfl⟩
   have hBn:=HBT.out dd hdF
   have hLn:=HLB.out dd hdF (by omega)
   rw [← hn] at q9 hBn hLn
   rw [q9]
   have hnT:n<T.size:=by omega
   have hnT2:¬ T.size≤n:=by omega
   have hnT3:¬ (T.size:Int)≤(n:Int):=by omega
   have b1:Below W1.heap.size W1 (W1.drewN (1+d2)):=below_drewN (Below.refl _ _) _
   have pD:=HP1.out.below b1
   have hb:=belD HW1.out b1
   have hr:=owns_below HO1.out b1
   clear b1 q1 q2 q9 k1 k2 k3 k4 c0 c1 d0 hc hc4 HBT HLB HP1 HW1 HO1 HR1 hf5 hn
   clear hdd
   rename_i hHeld
   clear hHeld
   generalize W1.drewN (1+d2)=W2 at *
   have d0:=pD.cell 0
   simp only [List.getElem?_cons_zero] at d0
   have HBn:Hid (bt T n=bt F dd):=hBn
   have HLn:Hid (∀ (u:ByteArray) (hu:u.size=1) (hne:bt u 0≠bt F dd) (hx:bt F dd=2→bt u 0=3),LogAt (T.extract 0 n++u++T.extract (n+1) T.size) 0 pre p0):=hLn
   have HSZ:Hid (T.size=p0+(F.size+p2)):=hsz
   have HDF:Hid (dd<F.size):=hdF
   clear hBn hLn hsz hdF
   go_wp2_with fail
   have hq1:IntKind.i64.wrap ((n:Int)+1)=(n:Int)+1:=IntWalk.i64_in _ ⟨by omega,by omega⟩
   obtain ⟨y,hy⟩:∃ y:Int,y=bits BinOp.xor IntKind.u8 ((T[n]'hnT).toNat:Int) 1:=⟨_,rfl⟩
   have hyv:=hy
   have hxor:bits BinOp.xor IntKind.u8 ((T[n]'hnT).toNat:Int) 1=y:=hy.symm
   rw [bt_get] at hyv
   obtain ⟨x1,x2,x3,x4⟩:=xor_one9 ⟨bt T n,bt_lt T n⟩
   rw [← hyv] at x1 x2 x3 x4
   have hbu:(bt (strOfNums [y]) 0:Int)=y:=by rw [bt_str [y] (fun z hz=>by simp at hz;omega) 0 (by simp)];rfl
   have hu:(strOfNums [y]).size=1:=rfl
   have HLG:Hid (LogAt (T.extract 0 n++strOfNums [y]++T.extract (n+1) T.size) 0 pre p0):=HLn.out _ hu (by rw [← HBn.out];intro h9;rw [h9] at hbu;exact x3 hbu.symm) (by rw [← HBn.out];intro h9;have:=x4 h9;omega)
   have hcv:=fun g cap W h0=>conv_one y g cap W h0
   have z1s:(T.extract 0 n).size=n:=by simp;omega
   have z2s:(T.extract (n+1) T.size).size=T.size - (n+1):=by simp
   have ha1:=fun W=>run_string_add_sum (P:=Tryz.prog) W (T.extract 0 n) (strOfNums [y]) (by omega)
   have z3s:(T.extract 0 n++strOfNums [y]).size=n+1:=by rw [ByteArray.size_append];omega
   have ha2:=fun W=>run_string_add_sum (P:=Tryz.prog) W (T.extract 0 n++strOfNums [y]) (T.extract (n+1) T.size) (by omega)
   have HBS:Hid ((T.extract 0 n++strOfNums [y]++T.extract (n+1) T.size).size=T.size):=bent_size T (strOfNums [y]) n hnT hu
   clear z1s z2s z3s hy hyv x1 x2 x3 x4 hbu hu HLn HBn
   have bX:Below W2.heap.size W2 (W2.alloc (Obj.cells #[Value.int IntKind.u8 y] 5)).drew:=((Below.refl _ _).alloc (Nat.le_refl _) _).drew
   have HP2:Hid (Blk (W2.alloc (Obj.cells #[Value.int IntKind.u8 y] 5)).drew w.heap.size 27 [.string T,.string noT]):=pD.below bX
   have HB2:Hid (Below w.heap.size w (W2.alloc (Obj.cells #[Value.int IntKind.u8 y] 5)).drew):=belD hb bX
   have HO2:Hid ((W2.alloc (Obj.cells #[Value.int IntKind.u8 y] 5)).drew.ownsRow (w.heap.size+1) 3 1 (.slice (some ⟨gE,0,none⟩) 4 cE) 4 (E.map (Value.int .i64))):=owns_below hr bX
   have d1:=HP2.out.cell 0
   simp only [List.getElem?_cons_zero] at d1
   have hn4:n≤T.size:=by omega
   have hn5:n+1≤T.size:=by omega
   have hn6:(n:Int)+1≤(T.size:Int):=by omega
   clear pD hb hr bX
   go_region
   clear hcv ha1 ha2 hxor hq1 d0 d1 hn5 hn6
   obtain ⟨Y,hY⟩:∃ Y,Y=T.extract 0 n++strOfNums [y]++T.extract (n+1) T.size:=⟨_,rfl⟩
   rw [← hY] at HLG HBS
   rw [← hY]
   clear hY
   generalize (W2.alloc (Obj.cells #[Value.int IntKind.u8 y] 5)).drew=W3 at *
   have hYs:Y.size≤3100:=by rw [HBS.out];exact hTs
   have kR:=fun W=>implReplaceDisk_is T noT Y W (by show T.size+0≤_;omega) (by omega)
   rw [show replD (T,noT) Y=((Y,noT),0) from by unfold replD;rw [if_neg (by omega),if_neg (by show ¬¬ (T.size+0≤_);omega),if_neg (by omega)]] at kR
   have k6:=fun W g=>kRd (Y,noT) W g (by show Y.size+0≤_;omega)
   have k7:=fun W g=>kRd (T,noT) W g (by show T.size+0≤_;omega)
   unfold ResD D2.val at kR
   unfold D2.val at k6 k7
   simp only at kR k6 k7
   have HR6:Hid (ReadIs (Y,noT) pre p0 0):=.inr ⟨by show Y.size+0≤_;omega,HLG.out,rfl⟩
   have HR7:Hid (ReadIs (T,noT) rs T.size 0):=.inr ⟨by show T.size+0≤_;omega,HLA.out,rfl⟩
   have pD:=HP2.out
   have hb:=HB2.out
   have hr:=HO2.out
   clear kRd HP2 HB2 HO2 HLA HLG HBS HSZ HDF
   have e0:=pD.cell 0
   have e1:=pD.cell 1
   simp only [List.getElem?_cons_zero,List.getElem?_cons_succ] at e0 e1
   go_wp2_with fail
   clear e0 e1
   refine (kR _).mono ?_
   rintro e w8 ⟨rfl,b1⟩
   replace pD:=pD.below b1
   replace hr:=owns_below hr b1
   replace hb:=belD hb b1
   clear b1 kR
   have pY:=Blk.new w8 27 [.string Y,.string noT]
   have b1:=bel_new w8 (.cells #[.string Y,.string noT] 27)
   replace pD:=pD.below b1
   replace hr:=owns_below hr b1
   replace hb:=belD hb b1
   clear b1
   have y0:=pY.cell 0
   have y1:=pY.cell 1
   simp only [List.getElem?_cons_zero,List.getElem?_cons_succ] at y0 y1
   go_wp2_with fail
   clear y0 y1 pY
   generalize w8.heap.size=gY at *
   generalize w8.alloc (.cells #[.string Y,.string noT] 27)=W8 at *
   refine (k6 _ (hG _ _ g0 hb)).mono ?_
   rintro e w9 ⟨⟨v,L',k',c',HR,rfl,oL⟩,b1⟩
   obtain ⟨rfl,rfl,rfl⟩:=HR6.out.only HR
   replace pD:=pD.below b1
   replace hr:=owns_below hr b1
   replace hb:=belD hb b1
   clear HR HR6 k6 b1
   obtain ⟨av,cv,rfl⟩:∃ a c,v=.slice a k c:=by
    rw [← hpl]
    rcases id oL.2 with ⟨h8,h9⟩ | ⟨g,c9,cur,h9,_⟩
    ·exact ⟨none,0,by rw [h8,h9]⟩
    ·exact ⟨_,c9,h9⟩
   clear oL
   have e0:=pD.cell 0
   have e1:=pD.cell 1
   simp only [List.getElem?_cons_zero,List.getElem?_cons_succ] at e0 e1
   go_wp2_with fail
   clear e0 e1
   refine (k7 _ (hG _ _ g0 hb)).mono ?_
   rintro e w10 ⟨⟨v,L',k',c',HR,rfl,oL⟩,b1⟩
   obtain ⟨rfl,rfl,rfl⟩:=HR7.out.only HR
   replace pD:=pD.below b1
   replace hr:=owns_below hr b1
   replace hb:=belD hb b1
   clear HR HR7 k7 b1
   obtain ⟨aw,cw,rfl⟩:∃ a c,v=.slice a 3 c:=by
    rw [← hrl]
    rcases id oL.2 with ⟨h8,h9⟩ | ⟨g,c9,cur,h9,_⟩
    ·exact ⟨none,0,by rw [h8,h9]⟩
    ·exact ⟨_,c9,h9⟩
   clear oL
   have c0:=hr.cellAt k (by omega)
   rw [List.getElem?_map,E0] at c0
   simp only [Option.map_some] at c0
   have e0:=pD.cell 0
   simp only [List.getElem?_cons_zero] at e0
   have k1:(k:Int)<4:=by omega
   have k4:k<4:=by omega
   clear hr pD E0 hrl hpl
   go_wp2_with fail
   go_ret
   exact ⟨rfl,hb⟩
end Go.Proofs.YtdopgkbegjfhjaaGreatDoor
