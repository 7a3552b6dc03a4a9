/-
  Joined: CksZ.
-/
import Derived.Test.YtmhlokahmblboaaGreatDoorQ47

namespace Go.Proofs.YtmhlokahmblboaaGreatDoor
set_option maxRecDepth 100000
set_option maxHeartbeats 16000000
open Go.RowKit
set_option linter.unusedVariables false
set_option linter.unusedSimpArgs false

def ST (x:Ending) (w':World) (B:Nat) (r:E3 × ZB × Bool):Prop:=∃ (v:Value) (a':Option Addr) (n' c':Nat),x=.returned (.tuple #[.agg #[v,.int .i64 (r.2.1.2:Int)],.agg #[.slice a' n' c'],.bool r.2.2])∧w'.ownsRow B 90 3 v r.1.2.1.length (Zk r.1.2.1)∧Yr w' a' n' c' r.2.1.1
theorem ST.mk9 {w':World} {B n' c':Nat} {v:Value} {a':Option Addr} {r:E3 × ZB × Bool} (hv:w'.ownsRow B 90 3 v r.1.2.1.length (Zk r.1.2.1)) (hA:Yr w' a' n' c' r.2.1.1):ST (.returned (.tuple #[.agg #[v,.int .i64 (r.2.1.2:Int)],.agg #[.slice a' n' c'],.bool r.2.2])) w' B r:=⟨v,a',n',c',rfl,hv,hA⟩
def Fw (w:World) (a:Option Addr) (n c:Nat) (r:E3 × ZB × Bool) (W:World) (s7 s8 s9 s10:Value):Prop:=∃ (s:Sl2) (a':Option Addr) (n' c':Nat) (Y7 Y8:Nat),s7=.pointer (some ⟨Y7,0,none⟩)∧s8=.pointer (some ⟨Y8,0,none⟩)∧s9=.int .i64 (r.2.1.2:Int)∧s10=.bool r.2.2∧Below w.heap.size w W∧YM W s r.1∧Yr W a' n' c' r.2.1.1∧Blk W Y7 109 [.string r.1.1,.slice s.1.1 s.1.2.1 s.1.2.2,.slice s.2.1 s.2.2.1 s.2.2.2]∧Blk W Y8 47 [.slice a' n' c']∧Blk W (w.heap.size+1+1) 44 [.slice none 0 0,.int .i64 0]∧Blk W (w.heap.size+1+1+1) 47 [.slice none 0 0]∧YV a' n' (w.heap.size+1+1)∧YV a' n' (w.heap.size+1+1+1)∧w.heap.size+4≤Y7∧w.heap.size+4≤Y8∧Y7≠Y8
theorem Nf:V4.fits ZD:=⟨by decide,by decide,by decide,by decide⟩
theorem PR {rows:List (List I3)} {cap:Nat} (hp:Zq rows=true) (es:List E3) (hU:UpR es) (hE9:∀ e ∈ es,Yg e) (w:World) (a9:Option Addr) (cs:Sl × Sl × Sl) (a:Option Addr) (n c:Nat) (hR:Z5 w a9 cs rows) (hA:Yr w a n c es) (hnil:a=none→c=0) :
  Calls Tryz.prog 46 #[.agg #[.slice a9 3 cap],.agg #[.slice a n c]] w fun x w'=>ST x w' w.heap.size (Ya rows 19 ZD (es,0))∧Below w.heap.size w w':=by
 have kN:=fun (W:World) (b:Below w.heap.size w W)=>VH W
 have hvr:=S7 hp 19 ZD (es,0) ZP hE9
 have hvi:=fun (W:World) (b:Below w.heap.size w W) (s:S4) (hs:Yv W s ZD)=>Qj (cap:=cap) hp 19 ZD (es,0) ZP (Nat.lt_succ_of_le (MX hp ZD)) hU hE9 (by show 0+19≤es.length+100;omega) W a9 cs s a n c (hR.below b) hs (hA.below b) hnil
 generalize Ya rows 19 ZD (es,0)=r at *
 have bw:Below w.heap.size w ((((w.alloc (.cells #[.slice a9 3 cap] 25)).alloc (.cells #[.slice a n c] 47)).alloc (.cells #[.slice none 0 0,.int .i64 0] 44)).alloc (.cells #[.slice none 0 0] 47)):=by go_grown
 have pP:Blk ((((w.alloc (.cells #[.slice a9 3 cap] 25)).alloc (.cells #[.slice a n c] 47)).alloc (.cells #[.slice none 0 0,.int .i64 0] 44)).alloc (.cells #[.slice none 0 0] 47)) (w.heap.size) 25 [.slice a9 3 cap]:=Zf _ (Zf _ (Zf _ (Zh _ _ _ rfl)))
 have pM:Blk ((((w.alloc (.cells #[.slice a9 3 cap] 25)).alloc (.cells #[.slice a n c] 47)).alloc (.cells #[.slice none 0 0,.int .i64 0] 44)).alloc (.cells #[.slice none 0 0] 47)) (w.heap.size+1) 47 [.slice a n c]:=Zf _ (Zf _ (Zh _ _ _ (by simp)))
 have pR:Blk ((((w.alloc (.cells #[.slice a9 3 cap] 25)).alloc (.cells #[.slice a n c] 47)).alloc (.cells #[.slice none 0 0,.int .i64 0] 44)).alloc (.cells #[.slice none 0 0] 47)) (w.heap.size+1+1) 44 [.slice none 0 0,.int .i64 0]:=Zf _ (Zh _ _ _ (by simp))
 have pT:Blk ((((w.alloc (.cells #[.slice a9 3 cap] 25)).alloc (.cells #[.slice a n c] 47)).alloc (.cells #[.slice none 0 0,.int .i64 0] 44)).alloc (.cells #[.slice none 0 0] 47)) (w.heap.size+1+1+1) 47 [.slice none 0 0]:=Zh _ _ _ (by simp)
 have hszU:w.heap.size+4≤((((w.alloc (.cells #[.slice a9 3 cap] 25)).alloc (.cells #[.slice a n c] 47)).alloc (.cells #[.slice none 0 0,.int .i64 0] 44)).alloc (.cells #[.slice none 0 0] 47)).heap.size:=by simp
 go_enter Tryz.func46,Tryz.ntmps46
 go_wp2_with fail
 generalize ((((w.alloc (.cells #[.slice a9 3 cap] 25)).alloc (.cells #[.slice a n c] 47)).alloc (.cells #[.slice none 0 0,.int .i64 0] 44)).alloc (.cells #[.slice none 0 0] 47))=U0 at *
 go_cut [7,8,9,10] from 11 to 19 (fun s7 s8 s9 s10 W=>Fw w a n c r W s7 s8 s9 s10)
 ·refine wp_region_held_drew (S:=(fun w'=>w'.cell? ⟨w.heap.size,0,none⟩=some (.slice a9 3 cap)∧w'.cell? ⟨w.heap.size+1,0,none⟩=some (.slice a n c))) (by kernel_rfl) ⟨by simpa using pP.cell 0,by simpa using pM.cell 0⟩ (fun hS0=>?_)
  refine tkv 0 12 (.agg #[.slice a9 3 cap]) ?_
  refine tkv 2 14 (.agg #[.slice a n c]) ?_
  have bd:Below U0.heap.size U0 U0.drew:=by go_grown
  replace bw:=Zm bw bd
  replace pR:=pR.below bd
  replace pT:=pT.below bd
  replace hszU:w.heap.size+4≤U0.drew.heap.size:=hszU
  generalize U0.drew=V at *
  clear bd
  iterate 4
   all_goals first
    | (refine wpAnyH_ready (rs:=[1]) (by decide +kernel) (by simp) ?_;refine (AllReadyH.cons (o:=⟨some 13,_,_,_,_,_⟩) rfl (fun K hK=>?_) AllReadyH.nil))
    | (refine wpAnyH_ready (rs:=[3]) (by decide +kernel) (by simp) ?_;refine (AllReadyH.cons (o:=⟨some 15,_,_,_,_,_⟩) rfl (fun K hK=>?_) AllReadyH.nil))
    | (refine wpAnyH_ready (rs:=[9]) (by decide +kernel) (by simp) ?_;refine (AllReadyH.cons (o:=⟨some 7,_,_,_,_,_⟩) rfl (fun K hK=>?_) AllReadyH.nil))
    | (refine wpAnyH_ready (rs:=[10]) (by decide +kernel) (by simp) ?_;refine (AllReadyH.cons (o:=⟨some 8,_,_,_,_,_⟩) rfl (fun K hK=>?_) AllReadyH.nil))
    | (refine wpAnyH_ready (rs:=[1,9]) (by decide +kernel) (by simp) ?_;refine (AllReadyH.cons (o:=⟨some 13,_,_,_,_,_⟩) rfl (fun K hK=>?_) (AllReadyH.cons (o:=⟨some 7,_,_,_,_,_⟩) rfl (fun K hK=>?_) AllReadyH.nil)))
    | (refine wpAnyH_ready (rs:=[1,10]) (by decide +kernel) (by simp) ?_;refine (AllReadyH.cons (o:=⟨some 13,_,_,_,_,_⟩) rfl (fun K hK=>?_) (AllReadyH.cons (o:=⟨some 8,_,_,_,_,_⟩) rfl (fun K hK=>?_) AllReadyH.nil)))
    | (refine wpAnyH_ready (rs:=[3,9]) (by decide +kernel) (by simp) ?_;refine (AllReadyH.cons (o:=⟨some 15,_,_,_,_,_⟩) rfl (fun K hK=>?_) (AllReadyH.cons (o:=⟨some 7,_,_,_,_,_⟩) rfl (fun K hK=>?_) AllReadyH.nil)))
    | (refine wpAnyH_ready (rs:=[3,10]) (by decide +kernel) (by simp) ?_;refine (AllReadyH.cons (o:=⟨some 15,_,_,_,_,_⟩) rfl (fun K hK=>?_) (AllReadyH.cons (o:=⟨some 8,_,_,_,_,_⟩) rfl (fun K hK=>?_) AllReadyH.nil)))
    | (refine wpAnyH_ready (rs:=[9,10]) (by decide +kernel) (by simp) ?_;refine (AllReadyH.cons (o:=⟨some 7,_,_,_,_,_⟩) rfl (fun K hK=>?_) (AllReadyH.cons (o:=⟨some 8,_,_,_,_,_⟩) rfl (fun K hK=>?_) AllReadyH.nil)))
    | (refine wpAnyH_ready (rs:=[1,9,10]) (by decide +kernel) (by simp) ?_;refine (AllReadyH.cons (o:=⟨some 13,_,_,_,_,_⟩) rfl (fun K hK=>?_) (AllReadyH.cons (o:=⟨some 7,_,_,_,_,_⟩) rfl (fun K hK=>?_) (AllReadyH.cons (o:=⟨some 8,_,_,_,_,_⟩) rfl (fun K hK=>?_) AllReadyH.nil))))
    | (refine wpAnyH_ready (rs:=[3,9,10]) (by decide +kernel) (by simp) ?_;refine (AllReadyH.cons (o:=⟨some 15,_,_,_,_,_⟩) rfl (fun K hK=>?_) (AllReadyH.cons (o:=⟨some 7,_,_,_,_,_⟩) rfl (fun K hK=>?_) (AllReadyH.cons (o:=⟨some 8,_,_,_,_,_⟩) rfl (fun K hK=>?_) AllReadyH.nil))))
   all_goals first
    | (
      go_simp
      refine (kN V bw).mono ?_
      rintro e V ⟨⟨z,rfl,hO⟩,hb⟩
      have hz:=hO.mem Nf
      clear hO
      (try replace p7:=p7.below hb)
      (try replace p8:=p8.below hb)
      replace pR:=pR.below hb
      replace pT:=pT.below hb
      replace bw:=Zm bw hb
      replace hszU:=Nat.le_trans hszU hb.size
      go_wp2_with fail
      refine hK.out _ _ ⟨Za hb _ _ hS0.1,Za hb _ _ hS0.2⟩ (fun hS0=>?_)
      clear hK hb)
    | (
      go_simp
      refine (hvi V bw z hz).mono ?_
      have hs9:=hszU
      (try have l7:=p7.lt)
      (try have l8:=p8.lt)
      rintro e V ⟨⟨s9,a3,n3,c3,rfl,hM,hA3,hn3,ho3⟩,hb⟩
      have oo2:YV a3 n3 (w.heap.size+1+1):=by rcases ho3 with ⟨rfl,rfl,rfl⟩ | h9<;>first | exact YV.new h9 (by omega) | exact Ym hA (by omega)
      have oo3:YV a3 n3 (w.heap.size+1+1+1):=by rcases ho3 with ⟨rfl,rfl,rfl⟩ | h9<;>first | exact YV.new h9 (by omega) | exact Ym hA (by omega)
      (try have o7:YV a3 n3 Y7:=by rcases ho3 with ⟨rfl,rfl,rfl⟩ | h9<;>first | exact YV.new h9 l7 | exact Ym hA (by omega))
      (try have o8:YV a3 n3 Y8:=by rcases ho3 with ⟨rfl,rfl,rfl⟩ | h9<;>first | exact YV.new h9 l8 | exact Ym hA (by omega))
      clear hz ho3
      (try replace p7:=p7.below hb)
      (try replace p8:=p8.below hb)
      replace pR:=pR.below hb
      replace pT:=pT.below hb
      replace bw:=Zm bw hb
      replace hszU:=Nat.le_trans hszU hb.size
      go_wp2_with fail
      refine hK.out _ _ ⟨Za hb _ _ hS0.1,Za hb _ _ hS0.2⟩ (fun hS0=>?_)
      clear hK hb
      refine tkv 4 11 (.tuple #[ZU r.1.1 s9,.agg #[.slice a3 n3 c3],.int .i64 (r.2.1.2:Int),.bool r.2.2]) ?_
      refine tkv 5 16 (ZU r.1.1 s9) ?_
      refine tkv 6 17 (.agg #[.slice a3 n3 c3]) ?_
      refine tkv 7 18 (.int .i64 (r.2.1.2:Int)) ?_
      refine tkw 8 19 (.bool r.2.2) ?_
      simp only [Act.put,tka,tkb,tkc])
    | (
      go_simp
      have hb:Below V.heap.size V (V.alloc (.cells #[.string ⟨#[]⟩,.slice none 0 0,.slice none 0 0] 109)):=by go_grown
      have p7:=Blk.new V 109 [.string ⟨#[]⟩,.slice none 0 0,.slice none 0 0]
      obtain ⟨Y7,e7⟩:∃ Y,Y=V.heap.size:=⟨_,rfl⟩
      (try have n78:Y7≠Y8:=by have:=p8.lt;omega)
      have hY7:w.heap.size+4≤Y7:=by omega
      (try have o7:YV a3 n3 Y7:=Ym hA3 (by omega))
      rw [← e7] at p7
      (try replace p8:=p8.below hb)
      (try replace hz:=hz.below hb)
      (try replace hM:=hM.below hb)
      (try replace hA3:=hA3.below hb)
      replace pR:=pR.below hb
      replace pT:=pT.below hb
      replace bw:=Zm bw hb
      replace hszU:=Nat.le_trans hszU hb.size
      refine hK.out _ (V.alloc (.cells #[.string ⟨#[]⟩,.slice none 0 0,.slice none 0 0] 109)) ⟨Za hb _ _ hS0.1,Za hb _ _ hS0.2⟩ (fun hS0=>?_)
      rw [← e7]
      clear hK hb e7
      try simp only [Act.put,tka,tkb,tkc]
      generalize (V.alloc (.cells #[.string ⟨#[]⟩,.slice none 0 0,.slice none 0 0] 109))=V at *)
    | (
      go_simp
      have hb:Below V.heap.size V (V.alloc (.cells #[.slice none 0 0] 47)):=by go_grown
      have p8:=Blk.new V 47 [.slice none 0 0]
      obtain ⟨Y8,e8⟩:∃ Y,Y=V.heap.size:=⟨_,rfl⟩
      (try have n78:Y8≠Y7:=by have:=p7.lt;omega)
      have hY8:w.heap.size+4≤Y8:=by omega
      (try have o8:YV a3 n3 Y8:=Ym hA3 (by omega))
      rw [← e8] at p8
      (try replace p7:=p7.below hb)
      (try replace hz:=hz.below hb)
      (try replace hM:=hM.below hb)
      (try replace hA3:=hA3.below hb)
      replace pR:=pR.below hb
      replace pT:=pT.below hb
      replace bw:=Zm bw hb
      replace hszU:=Nat.le_trans hszU hb.size
      refine hK.out _ (V.alloc (.cells #[.slice none 0 0] 47)) ⟨Za hb _ _ hS0.1,Za hb _ _ hS0.2⟩ (fun hS0=>?_)
      rw [← e8]
      clear hK hb e8
      try simp only [Act.put,tka,tkb,tkc]
      generalize (V.alloc (.cells #[.slice none 0 0] 47))=V at *)
  all_goals
   obtain ⟨⟨s1a,s1n,s1c⟩,⟨s2a,s2n,s2c⟩⟩:=s9
   unfold ZU
   simp only
   refine tkz 11 (fun K hK=>?_)
   refine Zl rfl 109 _ _ rfl Y7 [.string r.1.1,.slice s1a s1n s1c,.slice s2a s2n s2c] rfl rfl p7 (by kernel_rfl) rfl rfl ?_
   intro V8 q8 g8
   refine hK.out _ _ ⟨Zn g8 hS0.1 (fun e=>by injection e with e9;dsimp only at e9;omega),Zn g8 hS0.2 (fun e=>by injection e with e9;dsimp only at e9;omega)⟩ (fun hS0=>?_)
   clear hK
   try simp only [Act.put,tka,tkb,tkc]
   replace hM:=hM.box p7 (Ye ⟨#[]⟩ ((none,0,0),(none,0,0))) g8
   replace hA3:=hA3.box o7 p7 (Ye ⟨#[]⟩ ((none,0,0),(none,0,0))) g8
   replace p8:=p8.kept g8 (by simp;omega)
   replace pR:=pR.kept g8 (by simp;omega)
   replace pT:=pT.kept g8 (by simp;omega)
   replace p7:=q8.out
   replace bw:=bw.grown g8 bw.size (fun k hk=>by cases hk;omega)
   clear q8 g8
   refine tkz 12 (fun K hK=>?_)
   refine Zl rfl 47 _ _ rfl Y8 [.slice a3 n3 c3] rfl rfl p8 (by kernel_rfl) rfl rfl ?_
   intro V9 q9 g9
   refine hK.out _ _ ⟨Zn g9 hS0.1 (fun e=>by injection e with e9;dsimp only at e9;omega),Zn g9 hS0.2 (fun e=>by injection e with e9;dsimp only at e9;omega)⟩ (fun hS0=>?_)
   clear hK
   try simp only [Act.put,tka,tkb,tkc]
   replace hM:=hM.box p8 (Yy _ (by intro k z e;cases e)) g9
   replace hA3:=hA3.box o8 p8 (Yy _ (by intro k z e;cases e)) g9
   replace p7:=p7.kept g9 (by simp;omega)
   replace pR:=pR.kept g9 (by simp;omega)
   replace pT:=pT.kept g9 (by simp;omega)
   replace p8:=q9.out
   replace bw:=bw.grown g9 bw.size (fun k hk=>by cases hk;omega)
   clear q9 g9
   refine tkv 13 9 (.int .i64 (r.2.1.2:Int)) ?_
   refine tkv 14 10 (.bool r.2.2) ?_
   refine wpAnyH_done (by kernel_rfl) ?_ _
   go_wp2_with fail
   go_meet
   case rel=>exact ⟨((s1a,s1n,s1c),(s2a,s2n,s2c)),a3,n3,c3,Y7,Y8,rfl,rfl,rfl,rfl,bw,hM,hA3,p7,p8,pR,pT,oo2,oo3,by omega,by omega,by omega⟩
 obtain ⟨⟨⟨s1a,s1n,s1c⟩,⟨s2a,s2n,s2c⟩⟩,a3,n3,c3,Y7,Y8,rfl,rfl,rfl,rfl,bw,hM,hA3,p7,p8,pR,pT,oo2,oo3,hY7,hY8,hY⟩:=hcut
 have hbl:=hvr.1.bugs
 have hbf:∀ x ∈ r.1.2.1,I3.fits x:=fun x hx=>XB (hvr.1.2.1 x hx)
 obtain ⟨i0,hi0,hz0,hz1,hz2⟩:=info_parts Y6
 have hno:s1a=none→s1n=0∧s1c=0:=fun h9=>by
  have h8:=hM.1.2.1 h9
  have h7:=hM.2.1.2.1
  simp only at h7 h8
  omega
 have hIB:=hM.2.1
 have hn1:=hM.2.1.1
 simp only at hIB hn1
 have o2:YV a3 n3 (w.heap.size+1+1):=oo2
 have o3:YV a3 n3 (w.heap.size+1+1+1):=oo3
 have hsz:w.heap.size+4≤wc.heap.size:=by have:=p7.lt;omega
 have l7:=p7.lt
 have l8:=p8.lt
 have x1:=p7.cell 1
 have y0:=p8.cell 0
 simp only [List.getElem?_cons_zero,List.getElem?_cons_succ] at x1 y0
 clear hM p7 p8 hvi kN pP pM oo2 oo3
 generalize hwc:wc=U1 at *
 clear hwc
 go_wp2_with fail
 refine wp_region_held_drew (S:=(fun w'=>w'.cell? ⟨Y7,1,none⟩=some (.slice s1a s1n s1c)∧w'.cell? ⟨Y8,0,none⟩=some (.slice a3 n3 c3))) (by kernel_rfl) ⟨x1,y0⟩ (fun hS0=>?_)
 refine tkv 1 21 (.pointer (some ⟨Y7,1,none⟩)) ?_
 refine tkv 2 22 (.slice s1a s1n s1c) ?_
 refine tkv 4 24 (.int .i64 (r.2.1.2:Int)) ?_
 refine tkv 6 26 (.agg #[.slice a3 n3 c3]) ?_
 refine tkv 7 27 (.bool r.2.2) ?_
 have bd:Below U1.heap.size U1 U1.drew:=by go_grown
 replace bw:=Zm bw bd
 replace hIB:=hIB.below bd
 replace hA3:=hA3.below bd
 replace pR:=pR.below bd
 replace pT:=pT.below bd
 replace hsz:w.heap.size+4≤U1.drew.heap.size:=hsz
 replace l7:Y7<U1.drew.heap.size:=l7
 replace l8:Y8<U1.drew.heap.size:=l8
 clear bd
 generalize U1.drew=V at *
 refine tkr 0 20 (fun K hK=>?_)
 have hb:Below V.heap.size V (V.alloc (.cells #[] 90)):=by go_grown
 have q:=Xu V 90 3 V.heap.size (Nat.le_refl _)
 replace hIB:=hIB.below hb
 have hsz2:V.heap.size≤(V.alloc (.cells #[] 90)).heap.size:=by simp
 go_simp
 refine hK.out _ _ ⟨Za hb _ _ hS0.1,Za hb _ _ hS0.2⟩ (fun hS0=>?_)
 clear hK
 generalize (V.alloc (.cells #[] 90))=V2 at *
 obtain ⟨G,hG⟩:∃ G,G=V.heap.size:=⟨_,rfl⟩
 rw [← hG] at q hsz2 l7 l8 ⊢
 have hGs:w.heap.size+4≤G:=by omega
 try simp only [Act.put,tka,tkb,tkc]
 refine tkr 3 23 (fun K hK=>?_)
 refine Yu rfl _ _ 29 rfl G 90 i0 (.agg #[.int .i64 0,.int .i64 0,.int .i64 0]) 3 24 Tryz.underlying29 hi0 hz0 hz1 hz2 rfl (by decide) _ _ _ rfl q s1a s1n s1c rfl hno (Zk r.1.2.1) (by rw [Zr];omega) (fun ad ha=>by subst ha;exact TV hIB) (ZY r.1.2.1) (by unfold maxLen;omega) (by omega) hsz2 ?_
 intro v' V3 q2 gr hob
 have hGlt:∀ g,Value.ownBlock (.slice (some ⟨G,0,none⟩) 0 0)=some g→w.heap.size+4≤g:=fun g hg=>by simp [Value.ownBlock] at hg;omega
 refine hK.out _ _ ⟨Zn gr hS0.1 (fun e=>by have e8:some Y7=some G:=e;injection e8 with e9;omega),Zn gr hS0.2 (fun e=>by have e8:some Y8=some G:=e;injection e8 with e9;omega)⟩ (fun hS0=>?_)
 clear hK
 have bV3:=hb.grown gr hb.size (fun k hk=>by have e8:some G=some k:=hk;injection e8 with e9;omega)
 replace hA3:=hA3.below bV3
 replace pR:=pR.below bV3
 replace pT:=pT.below bV3
 replace bw:=Zm bw bV3
 have q3:V3.ownsRow w.heap.size 90 3 v' r.1.2.1.length (Zk r.1.2.1):=by
  have h9:=ZT q2 (show w.heap.size≤G by omega)
  rw [show 0+s1n=r.1.2.1.length by omega,List.nil_append] at h9
  exact h9
 clear q q2 gr hob hb hIB hG hGlt bV3
 obtain ⟨va,vc,rfl⟩:=ZH q3
 try simp only [Act.put,tka,tkb,tkc]
 refine tkv 5 25 (.agg #[.slice va r.1.2.1.length vc,.int .i64 (r.2.1.2:Int)]) ?_
 refine tkz 8 (fun K hK=>?_)
 refine Zl rfl 44 _ _ rfl (w.heap.size+1+1) [.slice va r.1.2.1.length vc,.int .i64 (r.2.1.2:Int)] rfl rfl pR (by kernel_rfl) rfl rfl ?_
 intro V4 q8 g8
 refine hK.out _ _ ⟨Zn g8 hS0.1 (fun e=>by injection e with e9;dsimp only at e9;omega),Zn g8 hS0.2 (fun e=>by injection e with e9;dsimp only at e9;omega)⟩ (fun hS0=>?_)
 clear hK
 try simp only [Act.put,tka,tkb,tkc]
 replace hA3:=hA3.box0 o2 pR (by intro k z e;cases e) (PZ _ _ (by intro k z e;cases e)) g8
 replace q3:=q3.kept g8 (.inr (Zo q3 pR (by decide)))
 replace pT:=pT.kept g8 (by simp)
 replace bw:=bw.grown g8 bw.size (fun k hk=>by cases hk;omega)
 replace pR:=q8.out
 clear q8 g8
 refine tkz 9 (fun K hK=>?_)
 refine Zl rfl 47 _ _ rfl (w.heap.size+1+1+1) [.slice a3 n3 c3] rfl rfl pT (by kernel_rfl) rfl rfl ?_
 intro V5 q9 g9
 refine hK.out _ _ ⟨Zn g9 hS0.1 (fun e=>by injection e with e9;dsimp only at e9;omega),Zn g9 hS0.2 (fun e=>by injection e with e9;dsimp only at e9;omega)⟩ (fun hS0=>?_)
 clear hK
 try simp only [Act.put,tka,tkb,tkc]
 replace hA3:=hA3.box o3 pT (Yy _ (by intro k z e;cases e)) g9
 replace q3:=q3.kept g9 (.inr (Zo q3 pT (by decide)))
 replace pR:=pR.kept g9 (by simp)
 replace bw:=bw.grown g9 bw.size (fun k hk=>by cases hk;omega)
 replace pT:=q9.out
 clear q9 g9
 refine tkv 10 6 (.bool r.2.2) ?_
 refine wpAnyH_done (by kernel_rfl) ?_ _
 clear hS0
 have z0:=pR.cell 0
 have z1:=pR.cell 1
 have z2:=pT.cell 0
 simp only [List.getElem?_cons_zero,List.getElem?_cons_succ] at z0 z1 z2
 go_wp2
 refine bodyPost_ret (by simp [results,Tryz.results46,go_sem,z0,z1,z2];try rfl) rfl ?_
 exact ⟨ST.mk9 q3 hA3,bw⟩
end Go.Proofs.YtmhlokahmblboaaGreatDoor
