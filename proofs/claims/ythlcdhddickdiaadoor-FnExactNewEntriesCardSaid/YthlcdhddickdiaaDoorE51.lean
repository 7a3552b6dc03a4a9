/-
  Joined: NewI.
-/
import Derived.Test.YthlcdhddickdiaaDoorE32
import Derived.Test.YthlcdhddickdiaaDoorE34
import Derived.Test.YthlcdhddickdiaaDoorE35
import Derived.Test.YthlcdhddickdiaaDoorE36
import Derived.Test.YthlcdhddickdiaaDoorE41

namespace Go.Proofs.YthlcdhddickdiaaDoor
set_option maxRecDepth 100000
set_option maxHeartbeats 16000000
open Go.RowKit
set_option linter.unusedVariables false
set_option linter.unusedSimpArgs false

def newE (es fs:List E3):List E3:=fs.filter (fun e=>!(isE es e.1))
theorem new_snoc {es fs:List E3} {k:Nat} (h:k<fs.length):newE es (fs.take (k+1))=if isE es (fs.getD k e3d).1 then newE es (fs.take k) else newE es (fs.take k)++[fs.getD k e3d]:=by
 rw [← take_snoc9 h]
 unfold newE
 rw [List.filter_append]
 cases hc:isE es (fs.getD k e3d).1
 ·simp only [List.filter_cons,hc,List.filter_nil]
  rfl
 ·simp only [List.filter_cons,hc,List.filter_nil]
  simp
theorem newE_len (es fs:List E3):(newE es fs).length≤fs.length:=List.length_filter_le _ _
theorem newE_ok {es fs:List E3} (h:memOk fs=true):memOk (newE es fs)=true:=by
 have h9:=memOk_iff.1 h
 refine memOk_iff.2 ⟨fun x hx=>h9.1 x (List.mem_filter.1 hx).1,h9.2.1.sublist List.filter_sublist,Nat.le_trans (newE_len es fs) h9.2.2⟩
def nwA (es fs:List E3):List E3:=if memOk es=true∧memOk fs=true then newE es fs else []
def nwC (es fs:List E3):Int:=if memOk es=true∧memOk fs=true then 0 else 1
def RowE (x:Ending) (w':World) (B:Nat) (es:List E3):Prop:=∃ v,x=.returned v∧OwnM w' B v es
theorem RowE.mk9 {w':World} {B:Nat} {v:Value} {es:List E3} (h:OwnM w' B v es):RowE (.returned v) w' B es:=⟨v,rfl,h⟩
def RowC (x:Ending) (w':World) (B:Nat) (es:List E3) (c:Int):Prop:=∃ v,x=.returned (.tuple #[v,.int .i64 c])∧OwnM w' B v es
theorem RowC.mk9 {w':World} {B:Nat} {v:Value} {es:List E3} {c:Int} (h:OwnM w' B v es):RowC (.returned (.tuple #[v,.int .i64 c])) w' B es c:=⟨v,rfl,h⟩
theorem OwnM.none9 (w:World) (B:Nat) (hB:B≤w.heap.size):OwnM (w.alloc (.cells #[] 39)) B (.slice (some ⟨w.heap.size,0,none⟩) 0 0) []:=by
 have h9:=empty8 w 39 3 B hB
 exact ⟨[],by simpa using h9,fun t ht=>by simp at ht,fun t _ ht=>by simp at ht⟩

theorem l11New_is (a:Option Addr) (n cap:Nat) (es:List E3) (a':Option Addr) (n' cap':Nat) (fs:List E3) (w:World) (h:Ents w a n cap es) (h':Ents w a' n' cap' fs) (hok:memOk es=true) (hok2:memOk fs=true) :
  Calls Tryd.prog 52 #[.agg #[.slice a n cap],.agg #[.slice a' n' cap']] w fun e w'=>RowE e w' w.heap.size (newE es fs)∧Below w.heap.size w w':=by
 obtain ⟨i0,hi0,hz0,hz1,hz2⟩:=info_parts info_entry
 have hl:=h.1
 have hl':=h'.1
 have bw:Below w.heap.size w ((w.alloc (.cells #[.slice a n cap] 33)).alloc (.cells #[.slice a' n' cap'] 33)):=by go_grown
 have pM:Blk ((w.alloc (.cells #[.slice a n cap] 33)).alloc (.cells #[.slice a' n' cap'] 33)) w.heap.size 33 [.slice a n cap]:=blkOld _ (blkAt _ _ _ rfl)
 have pN:Blk ((w.alloc (.cells #[.slice a n cap] 33)).alloc (.cells #[.slice a' n' cap'] 33)) (w.heap.size+1) 33 [.slice a' n' cap']:=blkAt _ _ _ (by simp)
 have g0:=pM.cell 0
 have g1:=pN.cell 0
 simp only [List.getElem?_cons_zero] at g0 g1
 have hn:n'≤2000:=by have:=memOk_len hok2;omega
 have hN1:=pN.lt
 obtain ⟨B,hB1,hB2⟩:∃ B,w.heap.size+2≤B∧B≤w.heap.size+2:=⟨_,Nat.le_refl _,Nat.le_refl _⟩
 have M0:=OwnM.none9 ((w.alloc (.cells #[.slice a n cap] 33)).alloc (.cells #[.slice a' n' cap'] 33)) B (by omega)
 have bE:Below ((w.alloc (.cells #[.slice a n cap] 33)).alloc (.cells #[.slice a' n' cap'] 33)).heap.size ((w.alloc (.cells #[.slice a n cap] 33)).alloc (.cells #[.slice a' n' cap'] 33)) (((w.alloc (.cells #[.slice a n cap] 33)).alloc (.cells #[.slice a' n' cap'] 33)).alloc (.cells #[] 39)):=by go_grown
 replace bw:=bel8 bw bE
 replace g0:=cell8 bE g0
 replace g1:=cell8 bE g1
 have hBs:=Nat.le_trans (show B≤((w.alloc (.cells #[.slice a n cap] 33)).alloc (.cells #[.slice a' n' cap'] 33)).heap.size by omega) bE.size
 have hsz:((w.alloc (.cells #[.slice a n cap] 33)).alloc (.cells #[.slice a' n' cap'] 33)).heap.size=w.heap.size+1+1:=by simp
 rw [hsz] at M0
 clear bE pM pN hsz hN1
 go_enter Tryd.func52,Tryd.ntmps52
 go_wp2_with fail
 generalize (((w.alloc (.cells #[.slice a n cap] 33)).alloc (.cells #[.slice a' n' cap'] 33)).alloc (.cells #[] 39))=U at *
 go_loopw [5,6] (fun so si wr=>∃ (k:Nat) (va:Option Addr) (vn vc:Nat),k≤n'∧si=.int .i64 k∧so=.slice va vn vc∧OwnM wr B (.slice va vn vc) (newE es (fs.take k))∧Below w.heap.size w wr∧wr.cell? ⟨w.heap.size,0,none⟩=some (.slice a n cap)∧wr.cell? ⟨w.heap.size+1,0,none⟩=some (.slice a' n' cap')∧B≤wr.heap.size) (fun _ si _=>n' - (intOf si).toNat)
 case atStart=>exact ⟨0,_,_,_,by omega,rfl,rfl,M0,bw,g0,g1,hBs⟩
 case round =>
  obtain ⟨k,xa,xn,xc,hk,rfl,rfl,hM,bw,gw,gn,hsW⟩:=hrel
  by_cases hlt:k<n'
  ·obtain ⟨_,_,_,hcase⟩:=h'.below bw
   rcases hcase with e0 | ⟨b,off,rfl,hb,hc⟩
   ·omega
   obtain ⟨s,x0,x1,x2,hm⟩:=hc k hlt
   clear hc hb
   have hek:=memOk_ent hok2 (i:=k) (by omega)
   have y1:=entOk_bugs hek
   have y2:=entOk_foot hek
   have y3:=entOk_key hek
   have kE:=fun W (hb:Below wr.heap.size wr W)=>(l10OwnEntry_is (fs.getD k e3d) s W (hm.below hb) (by omega) (by omega)).mono (fun x w' h9=>(⟨h9.1.lower hb.size,bel8 hb h9.2⟩:EntGot x w' wr.heap.size (fs.getD k e3d)∧Below wr.heap.size wr w'))
   have kF:=fun W (hb:Below w.heap.size w W)=>l10Place_is a n cap es (fs.getD k e3d).1 W (h.below hb) hok
   have hsn:=new_snoc (es:=es) (fs:=fs) (k:=k) (by omega)
   clear hm hek y1 y2 y3
   generalize fs.getD k e3d=x at *
   generalize hps:newE es (fs.take k)=ps at *
   have hpl:ps.length≤2000:=by rw [← hps];refine Nat.le_trans (newE_len _ _) ?_;rw [List.length_take];omega
   clear hps
   have HS:Hid (newE es (fs.take (k+1))=if isE es x.1 then ps else ps++[x]):=hsn
   clear hsn
   obtain ⟨xk,xb,xz⟩:=x
   obtain ⟨⟨a1,n1,c1⟩,⟨a2,n2,c2⟩⟩:=s
   unfold entV at kE
   simp only at x0 x1 x2 kE kF HS
   have hlt':(k:Int)<(n':Int):=by omega
   have hk0:(0:Int)≤(k:Int):=by omega
   generalize plcE es xk=pl at *
   generalize isE es xk=tb at *
   have bd:Below w.heap.size w wr.drew:=bel8 bw (by go_grown)
   cases tb
   ·replace HS:Hid (newE es (fs.take (k+1))=ps++[(xk,xb,xz)]):=HS.out
    go_wp2_with fail
    refine wp_region_held_drew (S:=(fun w'=>w'.cell? ⟨w.heap.size,0,none⟩=some (.slice a n cap)∧w'.cell? ⟨w.heap.size+1,0,none⟩=some (.slice (some ⟨b,off,none⟩) n' cap')∧w'.cell? ⟨b,off+k*3,none⟩=some (.string xk))) (by kernel_rfl) ⟨gw,gn,x0⟩ (fun hS0=>?_)
    refine tkx 0 18 (.agg #[.slice a n cap]) ?_ ?_
    ·(intro w' hSw;(try dsimp only at hSw);go_simp;first | done | rfl | omega | (intro h9;omega) | (rw [IntKind.wrap_i64];omega))
    simp only [Act.put,tka,tkb,tkc]
    refine tkx 1 19 (.pointer (some ⟨w.heap.size+1,0,none⟩)) ?_ ?_
    ·(intro w' hSw;(try dsimp only at hSw);go_simp;first | done | rfl | omega | (intro h9;omega) | (rw [IntKind.wrap_i64];omega))
    simp only [Act.put,tka,tkb,tkc]
    refine tkx 2 20 (.slice (some ⟨b,off,none⟩) n' cap') ?_ ?_
    ·(intro w' hSw;(try dsimp only at hSw);go_simp;first | done | rfl | omega | (intro h9;omega) | (rw [IntKind.wrap_i64];omega))
    simp only [Act.put,tka,tkb,tkc]
    refine tkx 3 21 (.int .i64 (k:Int)) ?_ ?_
    ·(intro w' hSw;(try dsimp only at hSw);go_simp;first | done | rfl | omega | (intro h9;omega) | (rw [IntKind.wrap_i64];omega))
    simp only [Act.put,tka,tkb,tkc]
    refine tkx 4 22 (.pointer (some ⟨b,off+k*3,none⟩)) ?_ ?_
    ·(intro w' hSw;(try dsimp only at hSw);go_simp;first | done | rfl | omega | (intro h9;omega) | (rw [IntKind.wrap_i64];omega))
    simp only [Act.put,tka,tkb,tkc]
    refine tkx 5 23 (.pointer (some ⟨b,off+k*3,none⟩)) ?_ ?_
    ·(intro w' hSw;(try dsimp only at hSw);go_simp;first | done | rfl | omega | (intro h9;omega) | (rw [IntKind.wrap_i64];omega))
    simp only [Act.put,tka,tkb,tkc]
    refine tkx 6 24 (.string xk) ?_ ?_
    ·(intro w' hSw;(try dsimp only at hSw);go_simp;first | done | rfl | omega | (intro h9;omega) | (rw [IntKind.wrap_i64];omega))
    simp only [Act.put,tka,tkb,tkc]
    refine tkr 7 25 (fun K hK=>?_)
    go_simp
    refine (kF _ bd).mono ?_
    rintro e w6 ⟨rfl,hb6⟩
    go_wp2_with fail
    refine hK.out _ _ ?_ (fun hS6=>?_)
    ·exact ⟨cells_kept hb6 _ _ hS0.1,cells_kept hb6 _ _ hS0.2.1,cells_kept hb6 _ _ hS0.2.2⟩
    clear hK
    refine tkx 8 17 (.tuple #[.int .i64 (pl:Int),.bool false]) ?_ ?_
    ·(intro w' hSw;(try dsimp only at hSw);go_simp;first | done | rfl | omega | (intro h9;omega) | (rw [IntKind.wrap_i64];omega))
    simp only [Act.put,tka,tkb,tkc]
    refine tkx 9 26 (.int .i64 (pl:Int)) ?_ ?_
    ·(intro w' hSw;(try dsimp only at hSw);go_simp;first | done | rfl | omega | (intro h9;omega) | (rw [IntKind.wrap_i64];omega))
    simp only [Act.put,tka,tkb,tkc]
    refine tkx 10 27 (.bool false) ?_ ?_
    ·(intro w' hSw;(try dsimp only at hSw);go_simp;first | done | rfl | omega | (intro h9;omega) | (rw [IntKind.wrap_i64];omega))
    simp only [Act.put,tka,tkb,tkc]
    refine tkx 11 7 (.int .i64 (pl:Int)) ?_ ?_
    ·(intro w' hSw;(try dsimp only at hSw);go_simp;first | done | rfl | omega | (intro h9;omega) | (rw [IntKind.wrap_i64];omega))
    simp only [Act.put,tka,tkb,tkc]
    refine tkx 12 8 (.bool false) ?_ ?_
    ·(intro w' hSw;(try dsimp only at hSw);go_simp;first | done | rfl | omega | (intro h9;omega) | (rw [IntKind.wrap_i64];omega))
    simp only [Act.put,tka,tkb,tkc]
    refine wpAnyH_done (by kernel_rfl) ?_ _
    have hbx:Below wr.heap.size wr w6:=bel8 (show Below wr.heap.size wr wr.drew by go_grown) hb6
    have gn6:=cell8 hbx gn
    replace x0:=cell8 hbx x0
    replace x1:=cell8 hbx x1
    replace x2:=cell8 hbx x2
    clear hS0 hS6 hb6 bd kF
    go_wp2_with fail
    clear x0 x1 x2 gn6
    refine (kE _ hbx).mono ?_
    rintro e w1 ⟨⟨⟨⟨d1,p1,q1⟩,⟨d2,p2,q2⟩⟩,rfl,hO⟩,hbn⟩
    obtain ⟨cs,ho,hE⟩:=hM
    have hb2:Below w1.heap.size w1 (w1.alloc (.cells #[.string xk,.slice d1 p1 q1,.slice d2 p2 q2] 39)):=by go_grown
    have ho2:=owns8 (owns8 ho hbn) hb2
    have hs2:B≤(w1.alloc (.cells #[.string xk,.slice d1 p1 q1,.slice d2 p2 q2] 39)).heap.size:=by have:=hb2.size;have:=hbn.size;omega
    clear kE
    unfold entV
    simp only
    go_wp2_with (at_builtin;refine wpList_app9 rfl _ _ 31 rfl B 39 i0 (.agg #[.string ⟨#[]⟩,.slice none 0 0,.slice none 0 0]) 3 64 Tryd.underlying31 hi0 hz0 hz1 hz2 rfl (by decide) _ _ _ rfl ho2 _ 1 1 rfl (fun h9=>by cases h9) (entC xk ((d1,p1,q1),(d2,p2,q2))) (by simp [entC]) (news_new9 w1 [.string xk,.slice d1 p1 q1,.slice d2 p2 q2] 39) (entC_one _ _) (by unfold maxLen;omega) (by omega) hs2 ?_)
    intro v3 w3 hown hgrow _
    obtain ⟨va9,vc9,rfl⟩:=slice8 hown
    have hM3:=OwnM.snoc9 (s:=((d1,p1,q1),(d2,p2,q2))) ho hE hbn hO hb2 hgrow hown (by omega)
    have hgB:∀ g,(Value.ownBlock (.slice xa xn xc))=some g→B≤g:=fun g hg=>(ho2.lt g hg).1
    have b3:Below w.heap.size w w3:=(bel8 (bel8 bw hbn) hb2).grown hgrow (by omega) (fun g hg=>by have:=hgB g hg;omega)
    have c3:=grown8 hgrow (cell8 hb2 (cell8 hbn gw)) (fun e9=>by have:=hgB _ e9.symm;simp at this;omega)
    have c4:=grown8 hgrow (cell8 hb2 (cell8 hbn gn)) (fun e9=>by have:=hgB _ e9.symm;simp at this;omega)
    have s3:B≤w3.heap.size:=Nat.le_trans hs2 hgrow.size
    clear ho hE hbn hO hb2 ho2 hs2 hown hgrow hgB
    go_wp2
    go_roundw
    case rel=>exact ⟨k+1,_,_,_,by omega,by go_num,rfl,by rw [HS.out];exact hM3,b3,c3,c4,s3⟩
    case measure=>simp [intOf];omega
   ·replace HS:Hid (newE es (fs.take (k+1))=ps):=HS.out
    go_wp2_with fail
    refine wp_region_held_drew (S:=(fun w'=>w'.cell? ⟨w.heap.size,0,none⟩=some (.slice a n cap)∧w'.cell? ⟨w.heap.size+1,0,none⟩=some (.slice (some ⟨b,off,none⟩) n' cap')∧w'.cell? ⟨b,off+k*3,none⟩=some (.string xk))) (by kernel_rfl) ⟨gw,gn,x0⟩ (fun hS0=>?_)
    refine tkx 0 18 (.agg #[.slice a n cap]) ?_ ?_
    ·(intro w' hSw;(try dsimp only at hSw);go_simp;first | done | rfl | omega | (intro h9;omega) | (rw [IntKind.wrap_i64];omega))
    simp only [Act.put,tka,tkb,tkc]
    refine tkx 1 19 (.pointer (some ⟨w.heap.size+1,0,none⟩)) ?_ ?_
    ·(intro w' hSw;(try dsimp only at hSw);go_simp;first | done | rfl | omega | (intro h9;omega) | (rw [IntKind.wrap_i64];omega))
    simp only [Act.put,tka,tkb,tkc]
    refine tkx 2 20 (.slice (some ⟨b,off,none⟩) n' cap') ?_ ?_
    ·(intro w' hSw;(try dsimp only at hSw);go_simp;first | done | rfl | omega | (intro h9;omega) | (rw [IntKind.wrap_i64];omega))
    simp only [Act.put,tka,tkb,tkc]
    refine tkx 3 21 (.int .i64 (k:Int)) ?_ ?_
    ·(intro w' hSw;(try dsimp only at hSw);go_simp;first | done | rfl | omega | (intro h9;omega) | (rw [IntKind.wrap_i64];omega))
    simp only [Act.put,tka,tkb,tkc]
    refine tkx 4 22 (.pointer (some ⟨b,off+k*3,none⟩)) ?_ ?_
    ·(intro w' hSw;(try dsimp only at hSw);go_simp;first | done | rfl | omega | (intro h9;omega) | (rw [IntKind.wrap_i64];omega))
    simp only [Act.put,tka,tkb,tkc]
    refine tkx 5 23 (.pointer (some ⟨b,off+k*3,none⟩)) ?_ ?_
    ·(intro w' hSw;(try dsimp only at hSw);go_simp;first | done | rfl | omega | (intro h9;omega) | (rw [IntKind.wrap_i64];omega))
    simp only [Act.put,tka,tkb,tkc]
    refine tkx 6 24 (.string xk) ?_ ?_
    ·(intro w' hSw;(try dsimp only at hSw);go_simp;first | done | rfl | omega | (intro h9;omega) | (rw [IntKind.wrap_i64];omega))
    simp only [Act.put,tka,tkb,tkc]
    refine tkr 7 25 (fun K hK=>?_)
    go_simp
    refine (kF _ bd).mono ?_
    rintro e w6 ⟨rfl,hb6⟩
    go_wp2_with fail
    refine hK.out _ _ ?_ (fun hS6=>?_)
    ·exact ⟨cells_kept hb6 _ _ hS0.1,cells_kept hb6 _ _ hS0.2.1,cells_kept hb6 _ _ hS0.2.2⟩
    clear hK
    refine tkx 8 17 (.tuple #[.int .i64 (pl:Int),.bool true]) ?_ ?_
    ·(intro w' hSw;(try dsimp only at hSw);go_simp;first | done | rfl | omega | (intro h9;omega) | (rw [IntKind.wrap_i64];omega))
    simp only [Act.put,tka,tkb,tkc]
    refine tkx 9 26 (.int .i64 (pl:Int)) ?_ ?_
    ·(intro w' hSw;(try dsimp only at hSw);go_simp;first | done | rfl | omega | (intro h9;omega) | (rw [IntKind.wrap_i64];omega))
    simp only [Act.put,tka,tkb,tkc]
    refine tkx 10 27 (.bool true) ?_ ?_
    ·(intro w' hSw;(try dsimp only at hSw);go_simp;first | done | rfl | omega | (intro h9;omega) | (rw [IntKind.wrap_i64];omega))
    simp only [Act.put,tka,tkb,tkc]
    refine tkx 11 7 (.int .i64 (pl:Int)) ?_ ?_
    ·(intro w' hSw;(try dsimp only at hSw);go_simp;first | done | rfl | omega | (intro h9;omega) | (rw [IntKind.wrap_i64];omega))
    simp only [Act.put,tka,tkb,tkc]
    refine tkx 12 8 (.bool true) ?_ ?_
    ·(intro w' hSw;(try dsimp only at hSw);go_simp;first | done | rfl | omega | (intro h9;omega) | (rw [IntKind.wrap_i64];omega))
    simp only [Act.put,tka,tkb,tkc]
    refine wpAnyH_done (by kernel_rfl) ?_ _
    have hbx:Below wr.heap.size wr w6:=bel8 (show Below wr.heap.size wr wr.drew by go_grown) hb6
    have gn6:=cell8 hbx gn
    replace x0:=cell8 hbx x0
    replace x1:=cell8 hbx x1
    replace x2:=cell8 hbx x2
    clear hS0 hS6 hb6 bd kF
    have hM3:=hM.below hbx
    have b3:=bel8 bw hbx
    have s3:=Nat.le_trans hsW hbx.size
    have c3:=cell8 hbx gw
    have c4:=cell8 hbx gn
    clear hM hbx kE x0 x1 x2 gn6
    go_wp2
    go_roundw
    case rel=>exact ⟨k+1,_,_,_,by omega,by go_num,rfl,by rw [HS.out];exact hM3,b3,c3,c4,s3⟩
    case measure=>simp [intOf];omega
  ·obtain rfl:k=n':=by omega
   have hlt':¬ (k:Int)<(k:Int):=by omega
   have e9:newE es (fs.take k)=newE es fs:=by rw [List.take_of_length_le (by omega)]
   rw [e9] at hM
   have hM9:=hM.lower (show w.heap.size≤B by omega)
   clear hM e9
   go_wp2
   go_ret
   exact ⟨RowE.mk9 hM9,bw⟩

theorem specNewEntries_is (a:Option Addr) (n cap:Nat) (es:List E3) (a':Option Addr) (n' cap':Nat) (fs:List E3) (w:World) (h:Ents w a n cap es) (h':Ents w a' n' cap' fs) :
  Calls Tryd.prog 20 #[.agg #[.slice a n cap],.agg #[.slice a' n' cap']] w fun e w'=>RowC e w' w.heap.size (nwA es fs) (nwC es fs)∧Below w.heap.size w w':=by
 obtain ⟨i0,hi0,hz0,hz1,hz2⟩:=info_parts info_entry
 have hl:=h.1
 have hl':=h'.1
 have bw:Below w.heap.size w ((w.alloc (.cells #[.slice a n cap] 33)).alloc (.cells #[.slice a' n' cap'] 33)):=by go_grown
 have pM:Blk ((w.alloc (.cells #[.slice a n cap] 33)).alloc (.cells #[.slice a' n' cap'] 33)) w.heap.size 33 [.slice a n cap]:=blkOld _ (blkAt _ _ _ rfl)
 have pN:Blk ((w.alloc (.cells #[.slice a n cap] 33)).alloc (.cells #[.slice a' n' cap'] 33)) (w.heap.size+1) 33 [.slice a' n' cap']:=blkAt _ _ _ (by simp)
 have g0:=pM.cell 0
 have g1:=pN.cell 0
 simp only [List.getElem?_cons_zero] at g0 g1
 have kM:=fun W (hb:Below w.heap.size w W)=>specMemoOK_is a n cap es W (h.below hb)
 have kN:=fun W (hb:Below w.heap.size w W)=>specMemoOK_is a' n' cap' fs W (h'.below hb)
 have kL:=fun (hok:memOk es=true) (hok2:memOk fs=true) W (hb:Below w.heap.size w W)=>l11New_is a n cap es a' n' cap' fs W (h.below hb) (h'.below hb) hok hok2
 unfold nwA nwC
 have hN1:=pN.lt
 cases hok:memOk es
 ·rw [if_neg (by simp),if_neg (by simp)]
  rw [hok] at kM
  clear kN kL
  go_enter Tryd.func20,Tryd.ntmps20
  go_wp2_with fail
  generalize ((w.alloc (.cells #[.slice a n cap] 33)).alloc (.cells #[.slice a' n' cap'] 33))=U at *
  refine (kM _ bw).mono ?_
  rintro e w1 ⟨rfl,hb⟩
  replace bw:=bel8 bw hb
  clear hb kM
  go_wp2
  refine bodyPost_ret (by simp [results,Tryd.results20,go_sem];try rfl) rfl ?_
  exact ⟨RowC.mk9 (OwnM.none9 _ _ bw.size),bel8 bw (by go_grown)⟩
 rw [hok] at kM
 cases hok2:memOk fs
 ·rw [if_neg (by simp),if_neg (by simp)]
  rw [hok2] at kN
  clear kL
  go_enter Tryd.func20,Tryd.ntmps20
  go_wp2_with fail
  generalize ((w.alloc (.cells #[.slice a n cap] 33)).alloc (.cells #[.slice a' n' cap'] 33))=U at *
  refine (kM _ bw).mono ?_
  rintro e w1 ⟨rfl,hb⟩
  replace bw:=bel8 bw hb
  replace g1:=cell8 hb g1
  clear hb kM pM pN g0
  go_wp2_with fail
  refine (kN _ bw).mono ?_
  rintro e w2 ⟨rfl,hb⟩
  replace bw:=bel8 bw hb
  clear hb kN g1
  go_wp2
  refine bodyPost_ret (by simp [results,Tryd.results20,go_sem];try rfl) rfl ?_
  exact ⟨RowC.mk9 (OwnM.none9 _ _ bw.size),bel8 bw (by go_grown)⟩
 rw [hok2] at kN
 rw [if_pos ⟨rfl,rfl⟩,if_pos ⟨rfl,rfl⟩]
 go_enter Tryd.func20,Tryd.ntmps20
 go_wp2_with fail
 generalize ((w.alloc (.cells #[.slice a n cap] 33)).alloc (.cells #[.slice a' n' cap'] 33))=U at *
 refine (kM _ bw).mono ?_
 rintro e w1 ⟨rfl,hb⟩
 replace bw:=bel8 bw hb
 replace g0:=cell8 hb g0
 replace g1:=cell8 hb g1
 have hs1:=hb.size
 clear hb pM pN kM
 go_wp2_with fail
 refine (kN _ bw).mono ?_
 rintro e w2 ⟨rfl,hb⟩
 replace bw:=bel8 bw hb
 replace g0:=cell8 hb g0
 replace g1:=cell8 hb g1
 have hs2:=hb.size
 clear hb kN
 replace kL:=kL hok hok2
 go_wp2_with fail
 refine (kL _ bw).mono ?_
 rintro e w3 ⟨⟨v,rfl,hM⟩,hb⟩
 have hM9:=hM.lower bw.size
 replace bw:=bel8 bw hb
 clear hM hb
 go_wp2
 refine bodyPost_ret (by simp [results,Tryd.results20,go_sem];try rfl) rfl ?_
 exact ⟨RowC.mk9 hM9,bw⟩

theorem implNewEntries_is (a:Option Addr) (n cap:Nat) (es:List E3) (a':Option Addr) (n' cap':Nat) (fs:List E3) (w:World) (h:Ents w a n cap es) (h':Ents w a' n' cap' fs) (hV:VmShape w) :
  Calls Tryd.prog 21 #[.agg #[.slice a n cap],.agg #[.slice a' n' cap']] w fun e w'=>RowC e w' w.heap.size (nwA es fs) (nwC es fs)∧Below w.heap.size w w':=by
 obtain ⟨i0,hi0,hz0,hz1,hz2⟩:=info_parts info_entry
 have hl:=h.1
 have hl':=h'.1
 have bw:Below w.heap.size w ((w.alloc (.cells #[.slice a n cap] 33)).alloc (.cells #[.slice a' n' cap'] 33)):=by go_grown
 have pM:Blk ((w.alloc (.cells #[.slice a n cap] 33)).alloc (.cells #[.slice a' n' cap'] 33)) w.heap.size 33 [.slice a n cap]:=blkOld _ (blkAt _ _ _ rfl)
 have pN:Blk ((w.alloc (.cells #[.slice a n cap] 33)).alloc (.cells #[.slice a' n' cap'] 33)) (w.heap.size+1) 33 [.slice a' n' cap']:=blkAt _ _ _ (by simp)
 have g0:=pM.cell 0
 have g1:=pN.cell 0
 simp only [List.getElem?_cons_zero] at g0 g1
 have kM:=fun W (hb:Below w.heap.size w W)=>implMemoOK_is a n cap es W (h.below hb) (hV.below hb)
 have kN:=fun W (hb:Below w.heap.size w W)=>implMemoOK_is a' n' cap' fs W (h'.below hb) (hV.below hb)
 have kL:=fun (hok:memOk es=true) (hok2:memOk fs=true) W (hb:Below w.heap.size w W)=>memOk_len hok
 unfold nwA nwC
 have hN1:=pN.lt
 cases hok:memOk es
 ·rw [if_neg (by simp),if_neg (by simp)]
  rw [hok] at kM
  clear kN kL
  go_enter Tryd.func21,Tryd.ntmps21
  go_wp2_with fail
  generalize ((w.alloc (.cells #[.slice a n cap] 33)).alloc (.cells #[.slice a' n' cap'] 33))=U at *
  refine (kM _ bw).mono ?_
  rintro e w1 ⟨rfl,hb⟩
  replace bw:=bel8 bw hb
  clear hb kM
  go_wp2
  refine bodyPost_ret (by simp [results,Tryd.results21,go_sem];try rfl) rfl ?_
  exact ⟨RowC.mk9 (OwnM.nil9 _ _),bw⟩
 rw [hok] at kM
 cases hok2:memOk fs
 ·rw [if_neg (by simp),if_neg (by simp)]
  rw [hok2] at kN
  clear kL
  go_enter Tryd.func21,Tryd.ntmps21
  go_wp2_with fail
  generalize ((w.alloc (.cells #[.slice a n cap] 33)).alloc (.cells #[.slice a' n' cap'] 33))=U at *
  refine (kM _ bw).mono ?_
  rintro e w1 ⟨rfl,hb⟩
  replace bw:=bel8 bw hb
  replace g1:=cell8 hb g1
  clear hb kM pM pN g0
  go_wp2_with fail
  refine (kN _ bw).mono ?_
  rintro e w2 ⟨rfl,hb⟩
  replace bw:=bel8 bw hb
  clear hb kN g1
  go_wp2
  refine bodyPost_ret (by simp [results,Tryd.results21,go_sem];try rfl) rfl ?_
  exact ⟨RowC.mk9 (OwnM.nil9 _ _),bw⟩
 rw [hok2] at kN
 rw [if_pos ⟨rfl,rfl⟩,if_pos ⟨rfl,rfl⟩]
 go_enter Tryd.func21,Tryd.ntmps21
 go_wp2_with fail
 generalize ((w.alloc (.cells #[.slice a n cap] 33)).alloc (.cells #[.slice a' n' cap'] 33))=U at *
 refine (kM _ bw).mono ?_
 rintro e w1 ⟨rfl,hb⟩
 replace bw:=bel8 bw hb
 replace g0:=cell8 hb g0
 replace g1:=cell8 hb g1
 have hs1:=hb.size
 clear hb pM pN kM
 go_wp2_with fail
 refine (kN _ bw).mono ?_
 rintro e w2 ⟨rfl,hb⟩
 replace bw:=bel8 bw hb
 replace g0:=cell8 hb g0
 replace g1:=cell8 hb g1
 have hs2:=hb.size
 clear hb kN
 have hn:n'≤2000:=by have:=memOk_len hok2;omega
 obtain ⟨B,hB1,hB2⟩:∃ B,w.heap.size+2≤B∧B≤w.heap.size+2:=⟨_,Nat.le_refl _,Nat.le_refl _⟩
 have hBs:B≤w2.heap.size:=by omega
 have M0:=OwnM.nil9 w2 B
 clear kL hs1 hs2
 go_wp2_with fail
 go_loopw [6,22] (fun so si wr=>∃ (k:Nat) (va:Option Addr) (vn vc:Nat),k≤n'∧si=.int .i64 k∧so=.slice va vn vc∧OwnM wr B (.slice va vn vc) (newE es (fs.take k))∧Below w.heap.size w wr∧wr.cell? ⟨w.heap.size,0,none⟩=some (.slice a n cap)∧wr.cell? ⟨w.heap.size+1,0,none⟩=some (.slice a' n' cap')∧B≤wr.heap.size) (fun _ si _=>n' - (intOf si).toNat)
 case atStart=>exact ⟨0,_,_,_,by omega,rfl,rfl,M0,bw,g0,g1,hBs⟩
 case round =>
  obtain ⟨k,xa,xn,xc,hk,rfl,rfl,hM,bw,gw,gn,hsW⟩:=hrel
  by_cases hlt:k<n'
  ·obtain ⟨_,_,_,hcase⟩:=h'.below bw
   rcases hcase with e0 | ⟨b,off,rfl,hb,hc⟩
   ·omega
   obtain ⟨s,x0,x1,x2,hm⟩:=hc k hlt
   clear hc hb
   have hek:=memOk_ent hok2 (i:=k) (by omega)
   have y1:=entOk_bugs hek
   have y2:=entOk_foot hek
   have y3:=entOk_key hek
   have kE:=fun W (hb:Below wr.heap.size wr W)=>(copied_is (fs.getD k e3d) s W (hm.below hb) (by omega) (by omega) (by omega)).mono (fun x w' h9=>(⟨h9.1.lower hb.size,bel8 hb h9.2⟩:EntGot x w' wr.heap.size (fs.getD k e3d)∧Below wr.heap.size wr w'))
   have kF:=fun W (hb:Below w.heap.size w W)=>tableFind_is a n cap es (fs.getD k e3d).1 W (h.below hb) hok
   have hsn:=new_snoc (es:=es) (fs:=fs) (k:=k) (by omega)
   clear hm hek y1 y2 y3
   generalize fs.getD k e3d=x at *
   generalize hps:newE es (fs.take k)=ps at *
   have hpl:ps.length≤2000:=by rw [← hps];refine Nat.le_trans (newE_len _ _) ?_;rw [List.length_take];omega
   clear hps
   have HS:Hid (newE es (fs.take (k+1))=if isE es x.1 then ps else ps++[x]):=hsn
   clear hsn
   obtain ⟨xk,xb,xz⟩:=x
   obtain ⟨⟨a1,n1,c1⟩,⟨a2,n2,c2⟩⟩:=s
   unfold entV at kE
   simp only at x0 x1 x2 kE kF HS
   have hlt':(k:Int)<(n':Int):=by omega
   have hk0:(0:Int)≤(k:Int):=by omega
   generalize plcE es xk=pl at *
   generalize isE es xk=tb at *
   have pB:Blk (wr.alloc (.cells #[.string xk,.slice a1 n1 c1,.slice a2 n2 c2] 39)) wr.heap.size 39 [.string xk,.slice a1 n1 c1,.slice a2 n2 c2]:=blkAt _ _ _ rfl
   have hbx:Below wr.heap.size wr (wr.alloc (.cells #[.string xk,.slice a1 n1 c1,.slice a2 n2 c2] 39)):=by go_grown
   go_wp2_with fail
   clear x0 x1 x2
   have gw7:=cell8 hbx gw
   obtain ⟨X,hX⟩:∃ X,X=wr.heap.size:=⟨_,rfl⟩
   rw [← hX] at pB ⊢
   clear hX
   generalize (wr.alloc (.cells #[.string xk,.slice a1 n1 c1,.slice a2 n2 c2] 39))=U7 at *
   have bd:Below w.heap.size w U7.drew:=bel8 (bel8 bw hbx) (by go_grown)
   have y0:=pB.cell 0
   simp only [List.getElem?_cons_zero] at y0
   cases tb
   ·replace HS:Hid (newE es (fs.take (k+1))=ps++[(xk,xb,xz)]):=HS.out
    refine wp_region_held_drew (S:=(fun w'=>w'.cell? ⟨w.heap.size,0,none⟩=some (.slice a n cap)∧w'.cell? ⟨X,0,none⟩=some (.string xk))) (by kernel_rfl) ⟨gw7,y0⟩ (fun hS0=>?_)
    refine tkx 0 27 (.agg #[.slice a n cap]) ?_ ?_
    ·(intro w' hSw;(try dsimp only at hSw);go_simp;first | done | rfl | omega | (intro h9;omega) | (rw [IntKind.wrap_i64];omega))
    simp only [Act.put,tka,tkb,tkc]
    refine tkx 2 29 (.pointer (some ⟨X,0,none⟩)) ?_ ?_
    ·(intro w' hSw;(try dsimp only at hSw);go_simp;first | done | rfl | omega | (intro h9;omega) | (rw [IntKind.wrap_i64];omega))
    simp only [Act.put,tka,tkb,tkc]
    refine tkx 3 30 (.string xk) ?_ ?_
    ·(intro w' hSw;(try dsimp only at hSw);go_simp;first | done | rfl | omega | (intro h9;omega) | (rw [IntKind.wrap_i64];omega))
    simp only [Act.put,tka,tkb,tkc]
    refine tkr 1 28 (fun K hK=>?_)
    go_simp
    refine (memoTable_is a n cap _).mono ?_
    rintro e w5 ⟨rfl,hb5⟩
    go_wp2_with fail
    refine hK.out _ _ ?_ (fun hS5=>?_)
    ·exact ⟨cells_kept hb5 _ _ hS0.1,cells_kept hb5 _ _ hS0.2⟩
    clear hK
    refine tkr 4 31 (fun K hK=>?_)
    go_simp
    refine (kF _ (bel8 bd hb5)).mono ?_
    rintro e w6 ⟨rfl,hb6⟩
    go_wp2_with fail
    refine hK.out _ _ ?_ (fun hS6=>?_)
    ·exact ⟨cells_kept hb6 _ _ hS5.1,cells_kept hb6 _ _ hS5.2⟩
    clear hK
    refine tkx 5 26 (.tuple #[.int .i64 (pl:Int),.bool false]) ?_ ?_
    ·(intro w' hSw;(try dsimp only at hSw);go_simp;first | done | rfl | omega | (intro h9;omega) | (rw [IntKind.wrap_i64];omega))
    simp only [Act.put,tka,tkb,tkc]
    refine tkx 6 32 (.int .i64 (pl:Int)) ?_ ?_
    ·(intro w' hSw;(try dsimp only at hSw);go_simp;first | done | rfl | omega | (intro h9;omega) | (rw [IntKind.wrap_i64];omega))
    simp only [Act.put,tka,tkb,tkc]
    refine tkx 7 33 (.bool false) ?_ ?_
    ·(intro w' hSw;(try dsimp only at hSw);go_simp;first | done | rfl | omega | (intro h9;omega) | (rw [IntKind.wrap_i64];omega))
    simp only [Act.put,tka,tkb,tkc]
    refine tkx 8 9 (.int .i64 (pl:Int)) ?_ ?_
    ·(intro w' hSw;(try dsimp only at hSw);go_simp;first | done | rfl | omega | (intro h9;omega) | (rw [IntKind.wrap_i64];omega))
    simp only [Act.put,tka,tkb,tkc]
    refine tkx 9 10 (.bool false) ?_ ?_
    ·(intro w' hSw;(try dsimp only at hSw);go_simp;first | done | rfl | omega | (intro h9;omega) | (rw [IntKind.wrap_i64];omega))
    simp only [Act.put,tka,tkb,tkc]
    refine wpAnyH_done (by kernel_rfl) ?_ _
    have b6:Below U7.heap.size U7 w6:=bel8 (bel8 (show Below U7.heap.size U7 U7.drew by go_grown) hb5) hb6
    replace hbx:=bel8 hbx b6
    replace pB:=pB.below b6
    clear hS0 hS5 hS6 hb5 hb6 b6 bd kF y0 gw7
    have x0:=pB.cell 0
    have x1:=pB.cell 1
    have x2:=pB.cell 2
    simp only [List.getElem?_cons_zero,List.getElem?_cons_succ] at x0 x1 x2
    go_wp2_with fail
    clear x0 x1 x2
    refine (kE _ hbx).mono ?_
    rintro e w1 ⟨⟨⟨⟨d1,p1,q1⟩,⟨d2,p2,q2⟩⟩,rfl,hO⟩,hbn⟩
    obtain ⟨cs,ho,hE⟩:=hM
    have hb2:Below w1.heap.size w1 (w1.alloc (.cells #[.string xk,.slice d1 p1 q1,.slice d2 p2 q2] 39)):=by go_grown
    have ho2:=owns8 (owns8 ho hbn) hb2
    have hs2:B≤(w1.alloc (.cells #[.string xk,.slice d1 p1 q1,.slice d2 p2 q2] 39)).heap.size:=by have:=hb2.size;have:=hbn.size;omega
    clear kE
    unfold entV
    simp only
    go_wp2_with (at_builtin;refine wpList_app9 rfl _ _ 31 rfl B 39 i0 (.agg #[.string ⟨#[]⟩,.slice none 0 0,.slice none 0 0]) 3 64 Tryd.underlying31 hi0 hz0 hz1 hz2 rfl (by decide) _ _ _ rfl ho2 _ 1 1 rfl (fun h9=>by cases h9) (entC xk ((d1,p1,q1),(d2,p2,q2))) (by simp [entC]) (news_new9 w1 [.string xk,.slice d1 p1 q1,.slice d2 p2 q2] 39) (entC_one _ _) (by unfold maxLen;omega) (by omega) hs2 ?_)
    intro v3 w3 hown hgrow _
    obtain ⟨va9,vc9,rfl⟩:=slice8 hown
    have hM3:=OwnM.snoc9 (s:=((d1,p1,q1),(d2,p2,q2))) ho hE hbn hO hb2 hgrow hown (by omega)
    have hgB:∀ g,(Value.ownBlock (.slice xa xn xc))=some g→B≤g:=fun g hg=>(ho2.lt g hg).1
    have b3:Below w.heap.size w w3:=(bel8 (bel8 bw hbn) hb2).grown hgrow (by omega) (fun g hg=>by have:=hgB g hg;omega)
    have c3:=grown8 hgrow (cell8 hb2 (cell8 hbn gw)) (fun e9=>by have:=hgB _ e9.symm;simp at this;omega)
    have c4:=grown8 hgrow (cell8 hb2 (cell8 hbn gn)) (fun e9=>by have:=hgB _ e9.symm;simp at this;omega)
    have s3:B≤w3.heap.size:=Nat.le_trans hs2 hgrow.size
    clear ho hE hbn hO hb2 ho2 hs2 hown hgrow hgB
    go_wp2
    go_roundw
    case rel=>exact ⟨k+1,_,_,_,by omega,by go_num,rfl,by rw [HS.out];exact hM3,b3,c3,c4,s3⟩
    case measure=>simp [intOf];omega
   ·replace HS:Hid (newE es (fs.take (k+1))=ps):=HS.out
    refine wp_region_held_drew (S:=(fun w'=>w'.cell? ⟨w.heap.size,0,none⟩=some (.slice a n cap)∧w'.cell? ⟨X,0,none⟩=some (.string xk))) (by kernel_rfl) ⟨gw7,y0⟩ (fun hS0=>?_)
    refine tkx 0 27 (.agg #[.slice a n cap]) ?_ ?_
    ·(intro w' hSw;(try dsimp only at hSw);go_simp;first | done | rfl | omega | (intro h9;omega) | (rw [IntKind.wrap_i64];omega))
    simp only [Act.put,tka,tkb,tkc]
    refine tkx 2 29 (.pointer (some ⟨X,0,none⟩)) ?_ ?_
    ·(intro w' hSw;(try dsimp only at hSw);go_simp;first | done | rfl | omega | (intro h9;omega) | (rw [IntKind.wrap_i64];omega))
    simp only [Act.put,tka,tkb,tkc]
    refine tkx 3 30 (.string xk) ?_ ?_
    ·(intro w' hSw;(try dsimp only at hSw);go_simp;first | done | rfl | omega | (intro h9;omega) | (rw [IntKind.wrap_i64];omega))
    simp only [Act.put,tka,tkb,tkc]
    refine tkr 1 28 (fun K hK=>?_)
    go_simp
    refine (memoTable_is a n cap _).mono ?_
    rintro e w5 ⟨rfl,hb5⟩
    go_wp2_with fail
    refine hK.out _ _ ?_ (fun hS5=>?_)
    ·exact ⟨cells_kept hb5 _ _ hS0.1,cells_kept hb5 _ _ hS0.2⟩
    clear hK
    refine tkr 4 31 (fun K hK=>?_)
    go_simp
    refine (kF _ (bel8 bd hb5)).mono ?_
    rintro e w6 ⟨rfl,hb6⟩
    go_wp2_with fail
    refine hK.out _ _ ?_ (fun hS6=>?_)
    ·exact ⟨cells_kept hb6 _ _ hS5.1,cells_kept hb6 _ _ hS5.2⟩
    clear hK
    refine tkx 5 26 (.tuple #[.int .i64 (pl:Int),.bool true]) ?_ ?_
    ·(intro w' hSw;(try dsimp only at hSw);go_simp;first | done | rfl | omega | (intro h9;omega) | (rw [IntKind.wrap_i64];omega))
    simp only [Act.put,tka,tkb,tkc]
    refine tkx 6 32 (.int .i64 (pl:Int)) ?_ ?_
    ·(intro w' hSw;(try dsimp only at hSw);go_simp;first | done | rfl | omega | (intro h9;omega) | (rw [IntKind.wrap_i64];omega))
    simp only [Act.put,tka,tkb,tkc]
    refine tkx 7 33 (.bool true) ?_ ?_
    ·(intro w' hSw;(try dsimp only at hSw);go_simp;first | done | rfl | omega | (intro h9;omega) | (rw [IntKind.wrap_i64];omega))
    simp only [Act.put,tka,tkb,tkc]
    refine tkx 8 9 (.int .i64 (pl:Int)) ?_ ?_
    ·(intro w' hSw;(try dsimp only at hSw);go_simp;first | done | rfl | omega | (intro h9;omega) | (rw [IntKind.wrap_i64];omega))
    simp only [Act.put,tka,tkb,tkc]
    refine tkx 9 10 (.bool true) ?_ ?_
    ·(intro w' hSw;(try dsimp only at hSw);go_simp;first | done | rfl | omega | (intro h9;omega) | (rw [IntKind.wrap_i64];omega))
    simp only [Act.put,tka,tkb,tkc]
    refine wpAnyH_done (by kernel_rfl) ?_ _
    have b6:Below U7.heap.size U7 w6:=bel8 (bel8 (show Below U7.heap.size U7 U7.drew by go_grown) hb5) hb6
    replace hbx:=bel8 hbx b6
    replace pB:=pB.below b6
    clear hS0 hS5 hS6 hb5 hb6 b6 bd kF y0 gw7
    have hM3:=hM.below hbx
    have b3:=bel8 bw hbx
    have s3:=Nat.le_trans hsW hbx.size
    have c3:=cell8 hbx gw
    have c4:=cell8 hbx gn
    clear hM hbx pB kE
    go_wp2
    go_roundw
    case rel=>exact ⟨k+1,_,_,_,by omega,by go_num,rfl,by rw [HS.out];exact hM3,b3,c3,c4,s3⟩
    case measure=>simp [intOf];omega
  ·obtain rfl:k=n':=by omega
   have hlt':¬ (k:Int)<(k:Int):=by omega
   have e9:newE es (fs.take k)=newE es fs:=by rw [List.take_of_length_le (by omega)]
   rw [e9] at hM
   have hM9:=hM.lower (show w.heap.size≤B by omega)
   clear hM e9
   go_wp2
   refine bodyPost_ret (by simp [results,Tryd.results21,go_sem];try rfl) rfl ?_
   exact ⟨RowC.mk9 hM9,bw⟩
end Go.Proofs.YthlcdhddickdiaaDoor
