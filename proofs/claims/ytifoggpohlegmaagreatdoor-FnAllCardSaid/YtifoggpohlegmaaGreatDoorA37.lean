/-
  Joined: StsS, AstI.
-/
import Derived.Deep.CutRange
import Derived.Test.YtifoggpohlegmaaGreatDoorA36

namespace Go.Proofs.YtifoggpohlegmaaGreatDoor
set_option maxRecDepth 100000
set_option maxHeartbeats 16000000
open Go.RowKit
set_option linter.unusedVariables false
set_option linter.unusedSimpArgs false

theorem info_str6:(Tryz.prog.info? 9).map (fun i=>(i.zero,i.size,i.bytes))=some (some (.string ⟨#[]⟩),1,16):=by kernel_rfl
theorem Off3.ownI {wi w w0:World} {v1 v2 v3 u1 u2 u3:Value} {B B0:Nat} {ts:List ByteArray} {fs bs zs:List Int} {s:Sl} (h:Off3 wi w v1 v2 v3 u1 u2 u3) (ho:OwnI wi B s zs) (hT:Tri w0 B0 v1 v2 v3 ts fs bs) (hB:w0.heap.size≤B):OwnI w B s zs:=
 Off3.row h ho (Ap3.fresh hT.ks ho hB).symm (Ap3.fresh hT.fr ho hB).symm (Ap3.fresh hT.bw ho hB).symm
theorem Off3.ownV {wi w w0:World} {v1 v2 v3 u1 u2 u3:Value} {B B0:Nat} {ts:List ByteArray} {fs bs:List Int} {s:S4} {m:V4} (h:Off3 wi w v1 v2 v3 u1 u2 u3) (ho:OwnV wi B s m) (hT:Tri w0 B0 v1 v2 v3 ts fs bs) (hB:w0.heap.size≤B):OwnV w B s m:=
 ⟨⟨h.ownI ho.1.1 hT hB,h.ownI ho.1.2.1 hT hB,h.ownI ho.1.2.2.1 hT hB,h.ownI ho.1.2.2.2 hT hB⟩,ho.2⟩
theorem Off3.blk {wi w:World} {v1 v2 v3 u1 u2 u3:Value} {B g t:Nat} {ts:List ByteArray} {fs bs:List Int} {cs:List Value} (h:Off3 wi w v1 v2 v3 u1 u2 u3) (p:Blk wi g t cs) (hT:Tri wi B v1 v2 v3 ts fs bs) (h1:9≠t) (h2:3≠t):Blk w g t cs:=
 (h.keep g p.lt (own_ne_blk hT.ks p h1) (own_ne_blk hT.fr p h2) (own_ne_blk hT.bw p h2)).trans p
theorem strs6 {w:World} {B g n c:Nat} {ts:List ByteArray} (h:w.ownsRow B 9 1 (.slice (some ⟨g,0,none⟩) n c) n (ts.map Value.string)):Strs w (some ⟨g,0,none⟩) n c ts:=by
 obtain ⟨a,cap,e,hT⟩:=OwnT.of_owns h
 cases e
 exact hT.strs
theorem one_str6 (t:ByteArray):∀ u ∈ [Value.string t],u.oneCell'=true:=by intro u hu;simp at hu;subst hu;rfl
theorem one_int6 (x:Int):∀ u ∈ [Value.int .i64 x],u.oneCell'=true:=by intro u hu;simp at hu;subst hu;rfl
theorem row_str6 {w:World} {B:Nat} {v:Value} {ts:List ByteArray} {t:ByteArray} (h:w.ownsRow B 9 1 v (ts.length+1) (ts.map Value.string++[.string t])):w.ownsRow B 9 1 v (ts++[t]).length ((ts++[t]).map Value.string):=by simpa using h
theorem row_int6 {w:World} {B:Nat} {v:Value} {zs:List Int} {z:Int} (h:w.ownsRow B 3 1 v (zs.length+1) (zs.map (Value.int .i64)++[.int .i64 z])):w.ownsRow B 3 1 v (zs++[z]).length ((zs++[z]).map (Value.int .i64)):=by simpa using h

def StsGot (e:Ending) (w:World) (B:Nat) (F:List (Rec6 V4)):Prop:=∃ (v1 v2 v3:Value) (ts:List ByteArray) (fs bs:List Int),e=.returned (.tuple #[v1,v2,v3,.bool (decide (F.length≤2000))])∧Tri w B v1 v2 v3 ts fs bs∧(F.length≤2000→ts=keysL F∧fs=fromL F∧bs=byL F)
def OnO (w wr:World) (a9:Option Addr) (cap:Nat) (rows:List (List I3)) (i:Nat) (S:List (Rec6 V4)) (v1 v2 v3:Value):Prop:=
 Out6 rows i S∧Tri wr w.heap.size v1 v2 v3 (keysL S) (fromL S) (byL S)∧Below w.heap.size w wr∧Blk wr w.heap.size 25 [.slice a9 3 cap]

def OnI (w wi wr:World) (a9:Option Addr) (cap:Nat) (rows:List (List I3)) (i j:Nat) (m:V4) (S:List (Rec6 V4)) (v1 v2 v3 u1 u2 u3:Value):Prop:=
 In6 rows i j m S∧Tri wr w.heap.size u1 u2 u3 (keysL S) (fromL S) (byL S)∧Off3 wi wr v1 v2 v3 u1 u2 u3∧Below w.heap.size w wr

theorem l06States_is {w:World} {a9:Option Addr} {cap:Nat} {cs:Sl × Sl × Sl} {rows:List (List I3)} (hR:RowsAt w a9 cs rows) (hp:progOk rows=true) :
  Calls Tryz.prog 70 #[.agg #[.slice a9 3 cap]] w fun e w'=>StsGot e w' w.heap.size (fullS rows)∧Below w.heap.size w w':=by
 have fz:=(shape_fits9 zero_shape).1
 have kN:=specNewVm_is
 have kK:=fun (W:World) (t:S4) (h:Vmem W t zeroV)=>l03Key_is t zeroV W h zero_shape
 have bw:Below w.heap.size w (w.alloc (.cells #[.slice a9 3 cap] 25)):=by go_grown
 have pP:Blk (w.alloc (.cells #[.slice a9 3 cap] 25)) w.heap.size 25 [.slice a9 3 cap]:=blkAt _ _ _ rfl
 go_enter Tryz.func70,Tryz.ntmps70
 go_wp2_with fail
 generalize w.alloc (.cells #[.slice a9 3 cap] 25)=U at *
 refine (kN _).mono ?_
 rintro e w1 ⟨⟨⟨⟨t0a,t0n,t0c⟩,⟨t1a,t1n,t1c⟩,⟨t2a,t2n,t2c⟩,⟨t3a,t3n,t3c⟩⟩,rfl,hO⟩,hb⟩
 have ut:S4.val ((t0a,t0n,t0c),(t1a,t1n,t1c),(t2a,t2n,t2c),(t3a,t3n,t3c))=.agg #[.slice t0a t0n t0c,.slice t1a t1n t1c,.slice t2a t2n t2c,.slice t3a t3n t3c]:=rfl
 replace bw:=bel_trans bw hb
 replace pP:=pP.below hb
 have kKx:=kK w1 _ (hO.mem fz)
 rw [ut] at kKx ⊢
 clear hb kN kK ut hO fz
 go_wp2_with fail
 refine kKx.mono ?_
 rintro e w2 ⟨rfl,hb⟩
 replace bw:=bel_trans bw hb
 replace pP:=pP.below hb
 clear hb kKx
 have hb:Below w2.heap.size w2 (((w2.alloc (.cells #[.string (keyT zeroV)] 9)).alloc (.cells #[.int .i64 (-1)] 3)).alloc (.cells #[.int .i64 (-1)] 3)):=by go_grown
 have hbs:=bw.size
 have q1:((w2.alloc (.cells #[.string (keyT zeroV)] 9)).alloc (.cells #[.int .i64 (-1)] 3)).alloc (.cells #[.int .i64 (-1)] 3) |>.ownsRow w.heap.size 9 1 (.slice (some ⟨w2.heap.size,0,none⟩) 1 1) 1 [.string (keyT zeroV)]:=
  ((World.ownsRow_lit w2 #[.string (keyT zeroV)] 1 hbs (by unfold maxLen;omega) (by simp)).alloc _).alloc _
 have q2:((w2.alloc (.cells #[.string (keyT zeroV)] 9)).alloc (.cells #[.int .i64 (-1)] 3)).alloc (.cells #[.int .i64 (-1)] 3) |>.ownsRow w.heap.size 3 1 (.slice (some ⟨w2.heap.size+1,0,none⟩) 1 1) 1 [.int .i64 (-1)]:=by
  have h9:=(World.ownsRow_lit (base:=w.heap.size) (e:=3) (size:=1) (w2.alloc (.cells #[.string (keyT zeroV)] 9)) #[.int .i64 (-1)] 1 (by simp;omega) (by unfold maxLen;omega) (by simp)).alloc (.cells #[.int .i64 (-1)] 3)
  simpa using h9
 have q3:((w2.alloc (.cells #[.string (keyT zeroV)] 9)).alloc (.cells #[.int .i64 (-1)] 3)).alloc (.cells #[.int .i64 (-1)] 3) |>.ownsRow w.heap.size 3 1 (.slice (some ⟨w2.heap.size+1+1,0,none⟩) 1 1) 1 [.int .i64 (-1)]:=by
  have h9:=World.ownsRow_lit (base:=w.heap.size) (e:=3) (size:=1) ((w2.alloc (.cells #[.string (keyT zeroV)] 9)).alloc (.cells #[.int .i64 (-1)] 3)) #[.int .i64 (-1)] 1 (by simp;omega) (by unfold maxLen;omega) (by simp)
  simpa using h9
 have st:OnO w (((w2.alloc (.cells #[.string (keyT zeroV)] 9)).alloc (.cells #[.int .i64 (-1)] 3)).alloc (.cells #[.int .i64 (-1)] 3)) a9 cap rows 0 [(zeroV,0,0)] (.slice (some ⟨w2.heap.size,0,none⟩) 1 1) (.slice (some ⟨w2.heap.size+1,0,none⟩) 1 1) (.slice (some ⟨w2.heap.size+1+1,0,none⟩) 1 1):=
  ⟨Out6.start rows,⟨q1,q2,q3,fun g hg h2=>by simp [Value.ownBlock] at hg h2;omega⟩,bel_trans bw hb,pP.below hb⟩
 clear q1 q2 q3 hb hbs bw pP
 go_wp2_with fail
 go_loopw [6,7,8,9] (fun s6 s7 s8 s9 wr=>∃ (i:Nat) (S:List (Rec6 V4)),s9=.int .i64 i∧OnO w wr a9 cap rows i S s6 s7 s8) (fun _ _ _ s9 _=>2001 - (intOf s9).toNat)
 case atStart=>exact ⟨0,_,rfl,st⟩
 case round =>
  clear st
  obtain ⟨i,S,rfl,hO6,hT,bw,pP⟩:=hrel
  obtain ⟨i0,hi9,hz0,hz1,hz2⟩:=info_parts info_int
  obtain ⟨i1,hi8,hy0,hy1,hy2⟩:=info_parts info_str6
  have hS0:0<S.length:=List.length_pos_iff.2 hO6.pos
  obtain ⟨g1,c1,rfl,hc1,_⟩:=own_some6 hT.ks (by rw [keysL_len];exact hS0)
  obtain ⟨g2,c2,rfl,hc2,_⟩:=own_some6 hT.fr (by rw [fromL_len];exact hS0)
  obtain ⟨g3,c3,rfl,hc3,_⟩:=own_some6 hT.bw (by rw [byL_len];exact hS0)
  have hl2:=hO6.len
  have HEI:Hid ((keysL S).length=S.length):=keysL_len S
  by_cases hlt:i<S.length
  ·obtain ⟨m,hm⟩:∃ m,m=(S[i]'hlt).1:=⟨_,rfl⟩
   have hI6:=hO6.go hlt
   rw [← hm] at hI6
   have hs:shapeOk m=true:=by rw [hm];exact hO6.shp _ (List.getElem_mem hlt)
   have hkm:(keysL S)[i]?=some (keyT m):=by unfold keysL;rw [List.getElem?_map,List.getElem?_eq_getElem hlt,hm];rfl
   have hc:=str_cell6 hT.ks (by have:=HEI.out;omega) hkm
   have hlt1:(i:Int)<((keysL S).length:Int):=by have:=HEI.out;omega
   have hi0:(0:Int)≤(i:Int):=by omega
   have kO:=l03Of_back hs wr
   have hT0:=hT
   clear hm hkm
   go_wp2_with fail
   refine kO.mono ?_
   rintro e w3 ⟨⟨⟨⟨t0a,t0n,t0c⟩,⟨t1a,t1n,t1c⟩,⟨t2a,t2n,t2c⟩,⟨t3a,t3n,t3c⟩⟩,rfl,hV⟩,hb⟩
   have ut:S4.val ((t0a,t0n,t0c),(t1a,t1n,t1c),(t2a,t2n,t2c),(t3a,t3n,t3c))=.agg #[.slice t0a t0n t0c,.slice t1a t1n t1c,.slice t2a t2n t2c,.slice t3a t3n t3c]:=rfl
   rw [ut]
   replace bw:=bel_trans bw hb
   replace pP:=pP.below hb
   replace hT:=hT.below hb
   clear hb kO hc
   have pN:=Blk.new w3 33 [.slice none 0 0,.slice none 0 0,.slice none 0 0,.slice none 0 0]
   have hbN:Below w3.heap.size w3 (w3.alloc (.cells #[.slice none 0 0,.slice none 0 0,.slice none 0 0,.slice none 0 0] 33)):=by go_grown
   go_wp2_with (refine wpList_store_blk rfl 33 _ _ rfl w3.heap.size [.slice t0a t0n t0c,.slice t1a t1n t1c,.slice t2a t2n t2c,.slice t3a t3n t3c] rfl rfl pN (by kernel_rfl) rfl rfl ?_)
   intro w4 pS4 g4
   have pS:=pS4.out
   have hb4:Below w3.heap.size w3 w4:=hbN.grown g4 hbN.size (fun k e=>by cases e;exact Nat.le_refl _)
   replace bw:=bel_trans bw hb4
   replace pP:=pP.below hb4
   replace hT:=hT.below hb4
   replace hV:=hV.below hb4
   clear pS4 g4 hbN pN hb4
   have fm:=(shape_fits9 hs).1
   have hT4:=hT
   have kE:=l03Enabled_is a9 3 cap rows ((t0a,t0n,t0c),(t1a,t1n,t1c),(t2a,t2n,t2c),(t3a,t3n,t3c)) m cs w4 rfl (hR.below bw) (hV.mem fm) hp hs
   rw [ut] at kE
   generalize w3.heap.size=X at *
   go_wp2_with (first | refine wpList_load_blk rfl 25 _ rfl w.heap.size rfl pP _ Tryz.underlying25 rfl (by kernel_rfl) ?_ | refine wpList_load_blk rfl 33 _ rfl X rfl pS _ Tryz.underlying33 rfl (by kernel_rfl) ?_)
   refine kE.mono ?_
   rintro e wi ⟨⟨⟨la,ln,lc⟩,rfl,hL⟩,hb⟩
   replace bw:=bel_trans bw hb
   replace pP:=pP.below hb
   replace pS:=pS.below hb
   replace hT:=hT.below hb
   replace hV:=hV.below hb
   clear hb kE
   have hLn:(enabM rows m 3).length=ln:=by have:=hL.1;simpa using this
   have st2:OnI w wi wi a9 cap rows i 0 m S (.slice (some ⟨g1,0,none⟩) (keysL S).length c1) (.slice (some ⟨g2,0,none⟩) (fromL S).length c2) (.slice (some ⟨g3,0,none⟩) (byL S).length c3) (.slice (some ⟨g1,0,none⟩) (keysL S).length c1) (.slice (some ⟨g2,0,none⟩) (fromL S).length c2) (.slice (some ⟨g3,0,none⟩) (byL S).length c3):=⟨hI6,hT,Off3.refl _ _ _ _,bw⟩
   go_wp2_with fail
   go_loopw [6,7,8,13] (fun s6 s7 s8 s13 wq=>∃ (j:Nat) (S':List (Rec6 V4)),s13=.int .i64 j∧OnI w wi wq a9 cap rows i j m S' (.slice (some ⟨g1,0,none⟩) (keysL S).length c1) (.slice (some ⟨g2,0,none⟩) (fromL S).length c2) (.slice (some ⟨g3,0,none⟩) (byL S).length c3) s6 s7 s8) (fun _ _ _ s13 _=>ln - (intOf s13).toNat)
   case atStart=>exact ⟨0,_,rfl,st2⟩
   case round =>
    clear st2 hI6 hO6
    obtain ⟨j,S',rfl,hJ6,hT9,hOf,bw9⟩:=hrel
    have hL0:=hL
    have hT40:=hT4
    replace hL:=hOf.ownI hL hT4 (Nat.le_refl _)
    replace hV:=hOf.ownV hV hT0 (Nat.le_refl _)
    replace pP:=hOf.blk pP hT (by decide) (by decide)
    replace pS:=hOf.blk pS hT (by decide) (by decide)
    clear bw hT0 hT4
    have bw:=bw9
    clear bw9
    have hS9:0<S'.length:=Nat.lt_of_le_of_lt (Nat.zero_le _) hJ6.at9
    have hl9:=hJ6.len
    obtain ⟨d1,e1,rfl,he1,_⟩:=own_some6 hT9.ks (by rw [keysL_len];exact hS9)
    obtain ⟨d2,e2,rfl,he2,_⟩:=own_some6 hT9.fr (by rw [fromL_len];exact hS9)
    obtain ⟨d3,e3,rfl,he3,_⟩:=own_some6 hT9.bw (by rw [byL_len];exact hS9)
    by_cases hlt2:j<ln
    ·have hkj:(enabM rows m 3)[j]?=some ((enabM rows m 3).getD j 0):=by rw [List.getD,List.getElem?_eq_getElem (by omega)];rfl
     have hz:=enab_halt (List.mem_of_getElem? hkj)
     obtain ⟨h0k,h2k,hd,_⟩:=halt_can hz
     obtain ⟨k,hk⟩:∃ k:Nat,(enabM rows m 3).getD j 0=(k:Int):=⟨_,(Int.toNat_of_nonneg h0k).symm⟩
     obtain ⟨lb,lo,rfl,hc,hlb⟩:=ints_cellS hL.ints (show j<ln from hlt2)
     rw [hk] at hkj hz hd h0k h2k hc
     rw [Int.toNat_natCast] at hd
     have hk3:k<3:=by omega
     have HKK:Hid ((enabM rows m 3).getD j 0=(k:Int)):=hk
     clear hk hlb
     have hx:=goM_shape hp hs hz
     have HO:Hid (keyT (goM rows m (k:Int)).1 ∈ keysL S'→In6 rows i (j+1) m S'):=fun h=>hJ6.old hkj hx h
     have HN:Hid (keyT (goM rows m (k:Int)).1 ∉ keysL S'→S'.length≠2000→In6 rows i (j+1) m (S'++[((goM rows m (k:Int)).1,i,(k:Int))])):=fun h h2=>hJ6.new hkj hx h h2
     have HL:Hid (keyT (goM rows m (k:Int)).1 ∉ keysL S'→S'.length=2000→2000<(fullS rows).length):=fun h h2=>hJ6.full hkj hx h h2
     have kP:=fun (W:World) (b:Below w.heap.size w W) (h:Vmem W ((t0a,t0n,t0c),(t1a,t1n,t1c),(t2a,t2n,t2c),(t3a,t3n,t3c)) m)=>l03Step_is (cap:=cap) rfl (hR.below b) h hp hs hk3 hd
     rw [← goM_nat,ut] at kP
     generalize goM rows m (k:Int)=zf at *
     obtain ⟨z,f⟩:=zf
     simp only at kP HO HN HL hx
     have hlt3:(j:Int)<(ln:Int):=by omega
     have hj0:(0:Int)≤(j:Int):=by omega
     have hj9:j<10:=by have:=enabM_len rows m 3;omega
     clear hkj hz hd hLn hJ6
     go_wp2_with fail
     have hb9:Below wr.heap.size wr wr.drew:=by go_grown
     refine wp_region_held_drew (S:=(fun w'=>w'.cell? ⟨w.heap.size,0,none⟩=some (.slice a9 3 cap)∧w'.cell? ⟨X,0,none⟩=some (.slice t0a t0n t0c)∧w'.cell? ⟨X,1,none⟩=some (.slice t1a t1n t1c)∧w'.cell? ⟨X,2,none⟩=some (.slice t2a t2n t2c)∧w'.cell? ⟨X,3,none⟩=some (.slice t3a t3n t3c)∧w'.cell? ⟨lb,lo+j,none⟩=some (.int .i64 (k:Int)))) (by kernel_rfl) ⟨by simpa using pP.cell 0,by simpa using pS.cell 0,by simpa using pS.cell 1,by simpa using pS.cell 2,by simpa using pS.cell 3,hc⟩ (fun hS0=>?_)
     refine tkm 0 46 (.agg #[.slice a9 3 cap]) ?_
     refine tkm 1 47 (.agg #[.slice t0a t0n t0c,.slice t1a t1n t1c,.slice t2a t2n t2c,.slice t3a t3n t3c]) ?_
     refine tkm 2 48 (.slice (some ⟨lb,lo,none⟩) ln lc) ?_
     refine tkm 3 49 (.int .i64 (j:Int)) ?_
     refine tkm 4 50 (.pointer (some ⟨lb,lo+j,none⟩)) ?_
     refine tkm 5 51 (.int .i64 (k:Int)) ?_
     replace bw:=bel_trans bw hb9
     replace pP:=pP.below hb9
     replace pS:=pS.below hb9
     replace hV:=hV.below hb9
     replace hT9:=hT9.below hb9
     replace hOf:=hOf.below hb9
     replace hL:=hL.below hb9
     replace hc:=cells_kept hb9 _ _ hc
     clear hb9
     generalize wr.drew=V at *
     refine wpAnyH_ready (rs:=[6,10]) (by kernel_rfl) (by simp) ?_
     refine AllReadyH.cons (o:=⟨some 52,_,_,_,_,_⟩) rfl (fun K hK=>?_) (AllReadyH.cons (o:=⟨some 14,_,_,_,_,_⟩) rfl (fun K hK=>?_) AllReadyH.nil)
     ·have kPx:=kP V bw (hV.mem fm)
      go_simp
      refine kPx.mono ?_
      rintro e V1 ⟨⟨⟨⟨z0a,z0n,z0c⟩,⟨z1a,z1n,z1c⟩,⟨z2a,z2n,z2c⟩,⟨z3a,z3n,z3c⟩⟩,rfl,hO2⟩,hb1⟩
      have uz:S4.val ((z0a,z0n,z0c),(z1a,z1n,z1c),(z2a,z2n,z2c),(z3a,z3n,z3c))=.agg #[.slice z0a z0n z0c,.slice z1a z1n z1c,.slice z2a z2n z2c,.slice z3a z3n z3c]:=rfl
      rw [uz]
      clear uz
      go_wp2_with fail
      refine hK.out _ _ ⟨cells_kept hb1 _ _ hS0.1,cells_kept hb1 _ _ hS0.2.1,cells_kept hb1 _ _ hS0.2.2.1,cells_kept hb1 _ _ hS0.2.2.2.1,cells_kept hb1 _ _ hS0.2.2.2.2.1,cells_kept hb1 _ _ hS0.2.2.2.2.2⟩ (fun hS5=>?_)
      clear hK kPx
      try simp only [Act.put,tka,tkb,tkc]
      refine tkm 7 45 (.tuple #[.agg #[.slice z0a z0n z0c,.slice z1a z1n z1c,.slice z2a z2n z2c,.slice z3a z3n z3c],.int .i64 f]) ?_
      refine tkm 8 53 (.agg #[.slice z0a z0n z0c,.slice z1a z1n z1c,.slice z2a z2n z2c,.slice z3a z3n z3c]) ?_
      refine tkm 9 54 (.int .i64 f) ?_
      refine tkr 10 14 (fun K hK=>?_)
      have hb2:Below V1.heap.size V1 (V1.alloc (.cells #[.slice none 0 0,.slice none 0 0,.slice none 0 0,.slice none 0 0] 33)):=by go_grown
      have pX:Blk (V1.alloc (.cells #[.slice none 0 0,.slice none 0 0,.slice none 0 0,.slice none 0 0] 33)) V1.heap.size 33 [.slice none 0 0,.slice none 0 0,.slice none 0 0,.slice none 0 0]:=blkAt _ _ _ rfl
      replace hO2:=hO2.below hb2
      have hbA:=bel_trans hb1 hb2
      have hYV:V.heap.size≤V1.heap.size:=hb1.size
      go_simp
      refine hK.out _ _ ⟨cells_kept hbA _ _ hS0.1,cells_kept hbA _ _ hS0.2.1,cells_kept hbA _ _ hS0.2.2.1,cells_kept hbA _ _ hS0.2.2.2.1,cells_kept hbA _ _ hS0.2.2.2.2.1,cells_kept hbA _ _ hS0.2.2.2.2.2⟩ (fun hS6=>?_)
      clear hK hb1 hb2
      generalize (V1.alloc (.cells #[.slice none 0 0,.slice none 0 0,.slice none 0 0,.slice none 0 0] 33))=V2 at *
      generalize V1.heap.size=Y at *
      try simp only [Act.put,tka,tkb,tkc]
      refine tkz 11 (fun K hK=>?_)
      refine step_store_blkD rfl 33 _ _ rfl Y [.slice z0a z0n z0c,.slice z1a z1n z1c,.slice z2a z2n z2c,.slice z3a z3n z3c] rfl rfl pX (by kernel_rfl) rfl rfl ?_
      intro V8 pX8 g8
      replace hO2:=hO2.kept9 g8 pX (by decide)
      have hbig:=hbA.grown g8 hbA.size (fun q hq=>by cases hq;exact hYV)
      refine hK.out _ _ ⟨cells_kept hbig _ _ hS0.1,cells_kept hbig _ _ hS0.2.1,cells_kept hbig _ _ hS0.2.2.1,cells_kept hbig _ _ hS0.2.2.2.1,cells_kept hbig _ _ hS0.2.2.2.2.1,cells_kept hbig _ _ hS0.2.2.2.2.2⟩ (fun hS7=>?_)
      clear hK pX g8 hbA hYV
      have pX:=pX8.out
      clear pX8
      try simp only [Act.put,tka,tkb,tkc]
      refine tkm 12 15 (.int .i64 f) ?_
      refine wpAnyH_done (by kernel_rfl) ?_ _
      replace bw:=bel_trans bw hbig
      replace hT9:=hT9.below hbig
      replace hOf:=hOf.below hbig
      clear hbig hS0 hS5 hS6 hS7 pP pS hV kP hc
      have fz:=(shape_fits9 hx).1
      have kK:=l03Key_is ((z0a,z0n,z0c),(z1a,z1n,z1c),(z2a,z2n,z2c),(z3a,z3n,z3c)) z V8 (hO2.mem fz) hx
      have uz:S4.val ((z0a,z0n,z0c),(z1a,z1n,z1c),(z2a,z2n,z2c),(z3a,z3n,z3c))=.agg #[.slice z0a z0n z0c,.slice z1a z1n z1c,.slice z2a z2n z2c,.slice z3a z3n z3c]:=rfl
      rw [uz] at kK
      clear uz
      go_wp2_with (first | refine wpList_load_blk rfl 33 _ rfl Y rfl pX _ Tryz.underlying33 rfl (by kernel_rfl) ?_)
      refine kK.mono ?_
      rintro e Va ⟨rfl,hb⟩
      replace bw:=bel_trans bw hb
      replace hT9:=hT9.below hb
      replace hOf:=hOf.below hb
      clear hb kK pX hO2 fz hx
      have HKA:Hid (keysL (S'++[(z,i,(k:Int))])=keysL S'++[keyT z]):=keysL_app _ _
      have HFA:Hid (fromL (S'++[(z,i,(k:Int))])=fromL S'++[(i:Int)]):=fromL_app (List.length_pos_iff.1 hS9) _
      have HBA:Hid (byL (S'++[(z,i,(k:Int))])=byL S'++[(k:Int)]):=byL_app (List.length_pos_iff.1 hS9) _
      generalize S'++[(z,i,(k:Int))]=S2 at *
      generalize keyT z=key at *
      have kF:=l06Find_is (some ⟨d1,0,none⟩) (keysL S').length e1 (keysL S') key Va (strs6 hT9.ks) (by rw [keysL_len];omega)
      have hfi:=findT_iff (ts:=keysL S') (t:=key) (keysL S').length (Nat.le_refl _)
      rw [List.take_length] at hfi
      generalize findT (keysL S') key (keysL S').length=fd at *
      have KL:Hid ((keysL S').length=S'.length):=keysL_len _
      have FL:Hid ((fromL S').length=S'.length):=fromL_len _
      have BL:Hid ((byL S').length=S'.length):=byL_len _
      go_wp2_with fail
      refine kF.mono ?_
      rintro e Vb ⟨rfl,rfl⟩
      clear kF
      by_cases hmem:key ∈ keysL S'
      ·have hfd:0≤fd:=hfi.2 hmem
       have st3:OnI w wi Va a9 cap rows i (j+1) m S' (.slice (some ⟨g1,0,none⟩) (keysL S).length c1) (.slice (some ⟨g2,0,none⟩) (fromL S).length c2) (.slice (some ⟨g3,0,none⟩) (byL S).length c3) (.slice (some ⟨d1,0,none⟩) (keysL S').length e1) (.slice (some ⟨d2,0,none⟩) (fromL S').length e2) (.slice (some ⟨d3,0,none⟩) (byL S').length e3):=⟨HO.out hmem,hT9,hOf,bw⟩
       clear hfi hmem HO HN HL HKA HFA HBA hT9 hOf bw KL FL BL hS9 hl9
       go_wp2
       go_roundw
       case rel=>exact ⟨j+1,_,by go_num,st3⟩
       case measure=>simp [intOf];omega
      ·by_cases hfull:S'.length=2000
       ·have hfd:¬ 0≤fd:=fun h=>hmem (hfi.1 h)
        have hln:2000<(fullS rows).length:=HL.out hmem hfull
        have hdd:decide ((fullS rows).length≤2000)=false:=decide_eq_false (by omega)
        have hq1:(((keysL S').length:Int) == 2000)=true:=by rw [KL.out,hfull];rfl
        have hq2:decide (((keysL S').length:Int)=2000)=true:=by rw [KL.out,hfull];rfl
        have HG:StsGot (.returned (.tuple #[.slice (some ⟨d1,0,none⟩) (keysL S').length e1,.slice (some ⟨d2,0,none⟩) (fromL S').length e2,.slice (some ⟨d3,0,none⟩) (byL S').length e3,.bool false])) Va w.heap.size (fullS rows):=⟨_,_,_,_,_,_,by rw [hdd],hT9,fun h9=>by omega⟩
        clear hfi hmem HO HN HL HKA HFA HBA hT9 hOf hln hdd hfull KL FL BL hS9 hl9
        go_wp2
        refine bodyPost_ret (by simp [results,Tryz.results70,go_sem];try rfl) rfl ?_
        exact ⟨HG,bw⟩
       ·have hfd:¬ 0≤fd:=fun h=>hmem (hfi.1 h)
        have hq1:(((keysL S').length:Int) == 2000)=false:=by rw [KL.out];exact beq_false_of_ne (by omega)
        have hq2:decide (((keysL S').length:Int)=2000)=false:=decide_eq_false (by rw [KL.out];omega)
        have HM:Hid (In6 rows i (j+1) m S2):=HN.out hmem hfull
        clear HO HN HL hfi hmem hfull
        go_wp2_with (at_builtin;refine wpList_append_own_at _ rfl _ _ 47 rfl w.heap.size 9 i1 (.string ⟨#[]⟩) 1 16 Tryz.underlying47 hi8 hy0 hy1 hy2 rfl (by decide) _ _ _ rfl (hT9.ks.alloc _) ⟨Va.heap.size,0,none⟩ 1 1 [.string key] rfl rfl (cell_one_new _ _ _) (one_str6 _) ?c3 ?c4 ?c5 ?_)
        case c3=>rw [KL.out];unfold maxLen;omega
        case c4=>rw [KL.out];omega
        case c5=>have:=bw.size;simp;omega
        intro v1 Vc q1 gr1 nil1 at1
        have ha:Below Va.heap.size Va (Va.alloc (.cells #[.string key] 9)):=by go_grown
        have blo:=fun g e=>(own_lt3 hT9.ks (g:=g) e).1
        replace bw:=(bel_trans bw ha).grown gr1 (bel_trans bw ha).size (fun g e=>blo g e)
        have at1':v1.ownBlock=(Value.slice (some ⟨d1,0,none⟩) (keysL S').length e1).ownBlock∨v1.ownBlock=some (Va.alloc (.cells #[.string key] 9)).heap.size:=by rw [World.size_alloc];exact at1
        replace hOf:=(hOf.below ha).put1 gr1 at1'
        replace hT9:=(hT9.below ha).put1 (row_str6 q1) gr1
        clear ha blo q1 gr1 nil1 at1 at1'
        clear hfd hq1 hq2
        go_wp2_with (at_builtin;refine wpList_append_own_at _ rfl _ _ 27 rfl w.heap.size 3 i0 (.int .i64 0) 1 8 Tryz.underlying27 hi9 hz0 hz1 hz2 rfl (by decide) _ _ _ rfl (hT9.fr.alloc _) ⟨Vc.heap.size,0,none⟩ 1 1 [.int .i64 (i:Int)] rfl rfl (cell_one_new _ _ _) (one_int6 _) ?c3 ?c4 ?c5 ?_)
        case c3=>rw [FL.out];unfold maxLen;omega
        case c4=>rw [FL.out];omega
        case c5=>have:=bw.size;simp;omega
        intro v2 Vd q2 gr2 nil2 at2
        have ha:Below Vc.heap.size Vc (Vc.alloc (.cells #[.int .i64 (i:Int)] 3)):=by go_grown
        have blo:=fun g e=>(own_lt3 hT9.fr (g:=g) e).1
        replace bw:=(bel_trans bw ha).grown gr2 (bel_trans bw ha).size (fun g e=>blo g e)
        have at2':v2.ownBlock=(Value.slice (some ⟨d2,0,none⟩) (fromL S').length e2).ownBlock∨v2.ownBlock=some (Vc.alloc (.cells #[.int .i64 (i:Int)] 3)).heap.size:=by rw [World.size_alloc];exact at2
        replace hOf:=(hOf.below ha).put2 gr2 at2'
        replace hT9:=(hT9.below ha).put2 (row_int6 q2) gr2 at2'
        clear ha blo q2 gr2 nil2 at2 at2'
        obtain ⟨lb9,lo9,e9,hc,hlb⟩:=ints_cellS (hOf.ownI hL0 hT40 (Nat.le_refl _)).ints (show j<ln from hlt2)
        cases e9
        rw [HKK.out] at hc
        clear hlb
        go_wp2_with (at_builtin;refine wpList_append_own_at _ rfl _ _ 27 rfl w.heap.size 3 i0 (.int .i64 0) 1 8 Tryz.underlying27 hi9 hz0 hz1 hz2 rfl (by decide) _ _ _ rfl (hT9.bw.alloc _) ⟨Vd.heap.size,0,none⟩ 1 1 [.int .i64 (k:Int)] rfl rfl (cell_one_new _ _ _) (one_int6 _) ?c3 ?c4 ?c5 ?_)
        case c3=>rw [BL.out];unfold maxLen;omega
        case c4=>rw [BL.out];omega
        case c5=>have:=bw.size;simp;omega
        intro v3 Ve q3 gr3 nil3 at3
        have ha:Below Vd.heap.size Vd (Vd.alloc (.cells #[.int .i64 (k:Int)] 3)):=by go_grown
        have blo:=fun g e=>(own_lt3 hT9.bw (g:=g) e).1
        replace bw:=(bel_trans bw ha).grown gr3 (bel_trans bw ha).size (fun g e=>blo g e)
        have at3':v3.ownBlock=(Value.slice (some ⟨d3,0,none⟩) (byL S').length e3).ownBlock∨v3.ownBlock=some (Vd.alloc (.cells #[.int .i64 (k:Int)] 3)).heap.size:=by rw [World.size_alloc];exact at3
        replace hOf:=(hOf.below ha).put3 gr3 at3'
        replace hT9:=(hT9.below ha).put3 (row_int6 q3) gr3 at3'
        clear ha blo q3 gr3 nil3 at3 at3'
        rw [← HKA.out,← HFA.out,← HBA.out] at hT9
        have st3:OnI w wi Ve a9 cap rows i (j+1) m S2 (.slice (some ⟨g1,0,none⟩) (keysL S).length c1) (.slice (some ⟨g2,0,none⟩) (fromL S).length c2) (.slice (some ⟨g3,0,none⟩) (byL S).length c3) v1 v2 v3:=⟨HM.out,hT9,hOf,bw⟩
        clear hT9 hOf bw HM HKA HFA HBA KL FL BL hc hS9 hl9
        go_wp2
        go_roundw
        case rel=>exact ⟨j+1,_,by go_num,st3⟩
        case measure=>simp [intOf];omega
     ·have hb1:Below V.heap.size V (V.alloc (.cells #[.slice none 0 0,.slice none 0 0,.slice none 0 0,.slice none 0 0] 33)):=by go_grown
      have pX:Blk (V.alloc (.cells #[.slice none 0 0,.slice none 0 0,.slice none 0 0,.slice none 0 0] 33)) V.heap.size 33 [.slice none 0 0,.slice none 0 0,.slice none 0 0,.slice none 0 0]:=blkAt _ _ _ rfl
      have hYV:V.heap.size≤V.heap.size:=Nat.le_refl _
      go_simp
      refine hK.out _ _ ⟨cells_kept hb1 _ _ hS0.1,cells_kept hb1 _ _ hS0.2.1,cells_kept hb1 _ _ hS0.2.2.1,cells_kept hb1 _ _ hS0.2.2.2.1,cells_kept hb1 _ _ hS0.2.2.2.2.1,cells_kept hb1 _ _ hS0.2.2.2.2.2⟩ (fun hS6=>?_)
      clear hK
      have kPx:=kP _ (bel_trans bw hb1) ((hV.below hb1).mem fm)
      generalize (V.alloc (.cells #[.slice none 0 0,.slice none 0 0,.slice none 0 0,.slice none 0 0] 33))=V2 at *
      obtain ⟨Y,hY⟩:∃ Y,Y=V.heap.size:=⟨_,rfl⟩
      rw [← hY] at pX hYV ⊢
      replace hYV:V.heap.size≤Y:=by omega
      clear hY
      try simp only [Act.put,tka,tkb,tkc]
      refine tkr 6 52 (fun K hK=>?_)
      go_simp
      refine kPx.mono ?_
      rintro e V3 ⟨⟨⟨⟨z0a,z0n,z0c⟩,⟨z1a,z1n,z1c⟩,⟨z2a,z2n,z2c⟩,⟨z3a,z3n,z3c⟩⟩,rfl,hO2⟩,hb2⟩
      have uz:S4.val ((z0a,z0n,z0c),(z1a,z1n,z1c),(z2a,z2n,z2c),(z3a,z3n,z3c))=.agg #[.slice z0a z0n z0c,.slice z1a z1n z1c,.slice z2a z2n z2c,.slice z3a z3n z3c]:=rfl
      rw [uz]
      clear uz
      go_wp2_with fail
      have hbA:=bel_trans hb1 hb2
      replace pX:=pX.below hb2
      refine hK.out _ _ ⟨cells_kept hbA _ _ hS0.1,cells_kept hbA _ _ hS0.2.1,cells_kept hbA _ _ hS0.2.2.1,cells_kept hbA _ _ hS0.2.2.2.1,cells_kept hbA _ _ hS0.2.2.2.2.1,cells_kept hbA _ _ hS0.2.2.2.2.2⟩ (fun hS5=>?_)
      clear hK kPx hb1 hb2
      try simp only [Act.put,tka,tkb,tkc]
      refine tkm 7 45 (.tuple #[.agg #[.slice z0a z0n z0c,.slice z1a z1n z1c,.slice z2a z2n z2c,.slice z3a z3n z3c],.int .i64 f]) ?_
      refine tkm 8 53 (.agg #[.slice z0a z0n z0c,.slice z1a z1n z1c,.slice z2a z2n z2c,.slice z3a z3n z3c]) ?_
      refine tkm 9 54 (.int .i64 f) ?_
      refine tkz 11 (fun K hK=>?_)
      refine step_store_blkD rfl 33 _ _ rfl Y [.slice z0a z0n z0c,.slice z1a z1n z1c,.slice z2a z2n z2c,.slice z3a z3n z3c] rfl rfl pX (by kernel_rfl) rfl rfl ?_
      intro V8 pX8 g8
      replace hO2:=hO2.kept9 g8 pX (by decide)
      have hbig:=hbA.grown g8 hbA.size (fun q hq=>by cases hq;exact hYV)
      refine hK.out _ _ ⟨cells_kept hbig _ _ hS0.1,cells_kept hbig _ _ hS0.2.1,cells_kept hbig _ _ hS0.2.2.1,cells_kept hbig _ _ hS0.2.2.2.1,cells_kept hbig _ _ hS0.2.2.2.2.1,cells_kept hbig _ _ hS0.2.2.2.2.2⟩ (fun hS7=>?_)
      clear hK pX g8 hbA hYV
      have pX:=pX8.out
      clear pX8
      try simp only [Act.put,tka,tkb,tkc]
      refine tkm 12 15 (.int .i64 f) ?_
      refine wpAnyH_done (by kernel_rfl) ?_ _
      replace bw:=bel_trans bw hbig
      replace hT9:=hT9.below hbig
      replace hOf:=hOf.below hbig
      clear hbig hS0 hS5 hS6 hS7 pP pS hV kP hc
      have fz:=(shape_fits9 hx).1
      have kK:=l03Key_is ((z0a,z0n,z0c),(z1a,z1n,z1c),(z2a,z2n,z2c),(z3a,z3n,z3c)) z V8 (hO2.mem fz) hx
      have uz:S4.val ((z0a,z0n,z0c),(z1a,z1n,z1c),(z2a,z2n,z2c),(z3a,z3n,z3c))=.agg #[.slice z0a z0n z0c,.slice z1a z1n z1c,.slice z2a z2n z2c,.slice z3a z3n z3c]:=rfl
      rw [uz] at kK
      clear uz
      go_wp2_with (first | refine wpList_load_blk rfl 33 _ rfl Y rfl pX _ Tryz.underlying33 rfl (by kernel_rfl) ?_)
      refine kK.mono ?_
      rintro e Va ⟨rfl,hb⟩
      replace bw:=bel_trans bw hb
      replace hT9:=hT9.below hb
      replace hOf:=hOf.below hb
      clear hb kK pX hO2 fz hx
      have HKA:Hid (keysL (S'++[(z,i,(k:Int))])=keysL S'++[keyT z]):=keysL_app _ _
      have HFA:Hid (fromL (S'++[(z,i,(k:Int))])=fromL S'++[(i:Int)]):=fromL_app (List.length_pos_iff.1 hS9) _
      have HBA:Hid (byL (S'++[(z,i,(k:Int))])=byL S'++[(k:Int)]):=byL_app (List.length_pos_iff.1 hS9) _
      generalize S'++[(z,i,(k:Int))]=S2 at *
      generalize keyT z=key at *
      have kF:=l06Find_is (some ⟨d1,0,none⟩) (keysL S').length e1 (keysL S') key Va (strs6 hT9.ks) (by rw [keysL_len];omega)
      have hfi:=findT_iff (ts:=keysL S') (t:=key) (keysL S').length (Nat.le_refl _)
      rw [List.take_length] at hfi
      generalize findT (keysL S') key (keysL S').length=fd at *
      have KL:Hid ((keysL S').length=S'.length):=keysL_len _
      have FL:Hid ((fromL S').length=S'.length):=fromL_len _
      have BL:Hid ((byL S').length=S'.length):=byL_len _
      go_wp2_with fail
      refine kF.mono ?_
      rintro e Vb ⟨rfl,rfl⟩
      clear kF
      by_cases hmem:key ∈ keysL S'
      ·have hfd:0≤fd:=hfi.2 hmem
       have st3:OnI w wi Va a9 cap rows i (j+1) m S' (.slice (some ⟨g1,0,none⟩) (keysL S).length c1) (.slice (some ⟨g2,0,none⟩) (fromL S).length c2) (.slice (some ⟨g3,0,none⟩) (byL S).length c3) (.slice (some ⟨d1,0,none⟩) (keysL S').length e1) (.slice (some ⟨d2,0,none⟩) (fromL S').length e2) (.slice (some ⟨d3,0,none⟩) (byL S').length e3):=⟨HO.out hmem,hT9,hOf,bw⟩
       clear hfi hmem HO HN HL HKA HFA HBA hT9 hOf bw KL FL BL hS9 hl9
       go_wp2
       go_roundw
       case rel=>exact ⟨j+1,_,by go_num,st3⟩
       case measure=>simp [intOf];omega
      ·by_cases hfull:S'.length=2000
       ·have hfd:¬ 0≤fd:=fun h=>hmem (hfi.1 h)
        have hln:2000<(fullS rows).length:=HL.out hmem hfull
        have hdd:decide ((fullS rows).length≤2000)=false:=decide_eq_false (by omega)
        have hq1:(((keysL S').length:Int) == 2000)=true:=by rw [KL.out,hfull];rfl
        have hq2:decide (((keysL S').length:Int)=2000)=true:=by rw [KL.out,hfull];rfl
        have HG:StsGot (.returned (.tuple #[.slice (some ⟨d1,0,none⟩) (keysL S').length e1,.slice (some ⟨d2,0,none⟩) (fromL S').length e2,.slice (some ⟨d3,0,none⟩) (byL S').length e3,.bool false])) Va w.heap.size (fullS rows):=⟨_,_,_,_,_,_,by rw [hdd],hT9,fun h9=>by omega⟩
        clear hfi hmem HO HN HL HKA HFA HBA hT9 hOf hln hdd hfull KL FL BL hS9 hl9
        go_wp2
        refine bodyPost_ret (by simp [results,Tryz.results70,go_sem];try rfl) rfl ?_
        exact ⟨HG,bw⟩
       ·have hfd:¬ 0≤fd:=fun h=>hmem (hfi.1 h)
        have hq1:(((keysL S').length:Int) == 2000)=false:=by rw [KL.out];exact beq_false_of_ne (by omega)
        have hq2:decide (((keysL S').length:Int)=2000)=false:=decide_eq_false (by rw [KL.out];omega)
        have HM:Hid (In6 rows i (j+1) m S2):=HN.out hmem hfull
        clear HO HN HL hfi hmem hfull
        go_wp2_with (at_builtin;refine wpList_append_own_at _ rfl _ _ 47 rfl w.heap.size 9 i1 (.string ⟨#[]⟩) 1 16 Tryz.underlying47 hi8 hy0 hy1 hy2 rfl (by decide) _ _ _ rfl (hT9.ks.alloc _) ⟨Va.heap.size,0,none⟩ 1 1 [.string key] rfl rfl (cell_one_new _ _ _) (one_str6 _) ?c3 ?c4 ?c5 ?_)
        case c3=>rw [KL.out];unfold maxLen;omega
        case c4=>rw [KL.out];omega
        case c5=>have:=bw.size;simp;omega
        intro v1 Vc q1 gr1 nil1 at1
        have ha:Below Va.heap.size Va (Va.alloc (.cells #[.string key] 9)):=by go_grown
        have blo:=fun g e=>(own_lt3 hT9.ks (g:=g) e).1
        replace bw:=(bel_trans bw ha).grown gr1 (bel_trans bw ha).size (fun g e=>blo g e)
        have at1':v1.ownBlock=(Value.slice (some ⟨d1,0,none⟩) (keysL S').length e1).ownBlock∨v1.ownBlock=some (Va.alloc (.cells #[.string key] 9)).heap.size:=by rw [World.size_alloc];exact at1
        replace hOf:=(hOf.below ha).put1 gr1 at1'
        replace hT9:=(hT9.below ha).put1 (row_str6 q1) gr1
        clear ha blo q1 gr1 nil1 at1 at1'
        clear hfd hq1 hq2
        go_wp2_with (at_builtin;refine wpList_append_own_at _ rfl _ _ 27 rfl w.heap.size 3 i0 (.int .i64 0) 1 8 Tryz.underlying27 hi9 hz0 hz1 hz2 rfl (by decide) _ _ _ rfl (hT9.fr.alloc _) ⟨Vc.heap.size,0,none⟩ 1 1 [.int .i64 (i:Int)] rfl rfl (cell_one_new _ _ _) (one_int6 _) ?c3 ?c4 ?c5 ?_)
        case c3=>rw [FL.out];unfold maxLen;omega
        case c4=>rw [FL.out];omega
        case c5=>have:=bw.size;simp;omega
        intro v2 Vd q2 gr2 nil2 at2
        have ha:Below Vc.heap.size Vc (Vc.alloc (.cells #[.int .i64 (i:Int)] 3)):=by go_grown
        have blo:=fun g e=>(own_lt3 hT9.fr (g:=g) e).1
        replace bw:=(bel_trans bw ha).grown gr2 (bel_trans bw ha).size (fun g e=>blo g e)
        have at2':v2.ownBlock=(Value.slice (some ⟨d2,0,none⟩) (fromL S').length e2).ownBlock∨v2.ownBlock=some (Vc.alloc (.cells #[.int .i64 (i:Int)] 3)).heap.size:=by rw [World.size_alloc];exact at2
        replace hOf:=(hOf.below ha).put2 gr2 at2'
        replace hT9:=(hT9.below ha).put2 (row_int6 q2) gr2 at2'
        clear ha blo q2 gr2 nil2 at2 at2'
        obtain ⟨lb9,lo9,e9,hc,hlb⟩:=ints_cellS (hOf.ownI hL0 hT40 (Nat.le_refl _)).ints (show j<ln from hlt2)
        cases e9
        rw [HKK.out] at hc
        clear hlb
        go_wp2_with (at_builtin;refine wpList_append_own_at _ rfl _ _ 27 rfl w.heap.size 3 i0 (.int .i64 0) 1 8 Tryz.underlying27 hi9 hz0 hz1 hz2 rfl (by decide) _ _ _ rfl (hT9.bw.alloc _) ⟨Vd.heap.size,0,none⟩ 1 1 [.int .i64 (k:Int)] rfl rfl (cell_one_new _ _ _) (one_int6 _) ?c3 ?c4 ?c5 ?_)
        case c3=>rw [BL.out];unfold maxLen;omega
        case c4=>rw [BL.out];omega
        case c5=>have:=bw.size;simp;omega
        intro v3 Ve q3 gr3 nil3 at3
        have ha:Below Vd.heap.size Vd (Vd.alloc (.cells #[.int .i64 (k:Int)] 3)):=by go_grown
        have blo:=fun g e=>(own_lt3 hT9.bw (g:=g) e).1
        replace bw:=(bel_trans bw ha).grown gr3 (bel_trans bw ha).size (fun g e=>blo g e)
        have at3':v3.ownBlock=(Value.slice (some ⟨d3,0,none⟩) (byL S').length e3).ownBlock∨v3.ownBlock=some (Vd.alloc (.cells #[.int .i64 (k:Int)] 3)).heap.size:=by rw [World.size_alloc];exact at3
        replace hOf:=(hOf.below ha).put3 gr3 at3'
        replace hT9:=(hT9.below ha).put3 (row_int6 q3) gr3 at3'
        clear ha blo q3 gr3 nil3 at3 at3'
        rw [← HKA.out,← HFA.out,← HBA.out] at hT9
        have st3:OnI w wi Ve a9 cap rows i (j+1) m S2 (.slice (some ⟨g1,0,none⟩) (keysL S).length c1) (.slice (some ⟨g2,0,none⟩) (fromL S).length c2) (.slice (some ⟨g3,0,none⟩) (byL S).length c3) v1 v2 v3:=⟨HM.out,hT9,hOf,bw⟩
        clear hT9 hOf bw HM HKA HFA HBA KL FL BL hc hS9 hl9
        go_wp2
        go_roundw
        case rel=>exact ⟨j+1,_,by go_num,st3⟩
        case measure=>simp [intOf];omega
    ·have hge2:¬ (j:Int)<(ln:Int):=by omega
     have hO7:=hJ6.fin (show (enabM rows m 3).length≤j by omega)
     have st4:OnO w wr a9 cap rows (i+1) S' (.slice (some ⟨d1,0,none⟩) (keysL S').length e1) (.slice (some ⟨d2,0,none⟩) (fromL S').length e2) (.slice (some ⟨d3,0,none⟩) (byL S').length e3):=⟨hO7,hT9,bw,pP⟩
     clear hO7 hT9 bw pP pS hV hL hJ6 hOf hT
     go_wp2
     go_roundw
     case rel=>exact ⟨i+1,_,by go_num,st4⟩
     case measure=>simp [intOf];omega
  ·have hfe:=hO6.fin (by omega)
   have hge:¬ (i:Int)<((keysL S).length:Int):=by have:=HEI.out;omega
   have hd:decide ((fullS rows).length≤2000)=true:=by rw [hfe];exact decide_eq_true hl2
   have HG:StsGot (.returned (.tuple #[.slice (some ⟨g1,0,none⟩) (keysL S).length c1,.slice (some ⟨g2,0,none⟩) (fromL S).length c2,.slice (some ⟨g3,0,none⟩) (byL S).length c3,.bool true])) wr w.heap.size (fullS rows):=⟨_,_,_,_,_,_,by rw [hd],hT,fun _=>by rw [hfe];exact ⟨rfl,rfl,rfl⟩⟩
   clear hfe hd hT hO6 pP HEI hl2 hc1 hc2 hc3 hS0 hlt
   go_wp2
   refine bodyPost_ret (by simp [results,Tryz.results70,go_sem];try rfl) rfl ?_
   exact ⟨HG,bw⟩

def CutF (w W:World) (c:Int) (s4 s5:Value):Prop:=∃ X,s4=.pointer (some ⟨X,0,none⟩)∧s5=.int .i64 c∧Below w.heap.size w W
def CutK (w W:World) (cs:Sl × Sl × Sl) (rows:List (List I3)) (F:List (Rec6 V4)) (s4 s5:Value):Prop:=
 ∃ X va vc nb L,s4=.pointer (some ⟨X,0,none⟩)∧s5=.int .i64 0∧Blk W X 106 [.slice va L.length vc,.map (some nb)]∧SpcD W w.heap.size nb (.slice va L.length vc) cs (mvsOf rows F) L L.length∧L.map (·.1)=F∧w.heap.size≤X∧Below w.heap.size w W
theorem SpcD.lower {w:World} {B B' nb d:Nat} {vs:Value} {cs:Sl × Sl × Sl} {M:V4→List I4} {L:List (Rec6 V4 × Value)} (h:SpcD w B nb vs cs M L d) (hB:B'≤B):SpcD w B' nb vs cs M L d:=
 ⟨own_lower h.row hB,h.map,fun i r mv h1 h2=>own_lower (h.mvs i r mv h1 h2) hB,h.nil,Nat.le_trans hB h.low⟩
theorem CutK.mk9 {w W:World} {cs:Sl × Sl × Sl} {rows:List (List I3)} {F:List (Rec6 V4)} {s4 s5 va vs:Value} {X nb B:Nat} {L:List (Rec6 V4 × Value)} (h4:s4=.pointer (some ⟨X,0,none⟩)) (h5:s5=.int .i64 0) (hX:Blk W X 106 [vs,.map (some nb)]) (sp:SpcD W B nb vs cs (mvsOf rows F) L L.length) (hL:L.map (·.1)=F) (hBX:w.heap.size≤X) (hB:w.heap.size≤B) (b:Below w.heap.size w W):CutK w W cs rows F s4 s5:=by
 obtain ⟨va,vn,vc,rfl⟩:=own_slice6 sp.row
 obtain rfl:vn=L.length:=by
  rcases sp.row.2 with ⟨h1,h2⟩ | ⟨gq,cq,cur,h1,_⟩
  ·cases h1;exact h2.symm
  ·cases h1;rfl
 exact ⟨X,va,vc,nb,L,h4,h5,hX,sp.lower hB,hL,hBX,b⟩

def KeysGot (e:Ending) (w:World) (B:Nat) (ts:List ByteArray) (c:Int):Prop:=∃ v,e=.returned (.tuple #[v,.int .i64 c])∧w.ownsRow B 9 1 v ts.length (ts.map Value.string)
def codeF (rows:List (List I3)):Int:=if progOk rows then (if (fullS rows).length≤2000 then 0 else 15) else 1
theorem spaceOf_not (a:Option Addr) (len cap:Nat) (rows:List (List I3)) (s:S4) (w:World) (hC:Codes w a len cap rows) (h:Vmem w s zeroV) (hV:VmShape w) (hc:codeF rows≠0) :
  Calls Tryz.prog 67 #[.agg #[.slice a len cap],s.val] w fun e w'=>e=.returned (.tuple #[.agg #[.slice none 0 0,.map none],.int .i64 (codeF rows)])∧Below w.heap.size w w':=by
 unfold codeF at hc ⊢
 cases hp:progOk rows
 ·exact spaceOf_bad a len cap rows s zeroV w hC h hV (by rw [hp];rfl)
 ·rw [hp] at hc
  by_cases hf:(fullS rows).length≤2000
  ·rw [if_pos rfl,if_pos hf] at hc
   exact absurd rfl hc
  ·rw [if_pos rfl,if_neg hf]
   refine (spaceOf_is a len cap rows s w hC h hV hp).mono fun e w' h=>?_
   rw [if_neg hf] at h
   exact h
theorem spaceOf_yes (a:Option Addr) (len cap:Nat) (rows:List (List I3)) (s:S4) (w:World) (hC:Codes w a len cap rows) (h:Vmem w s zeroV) (hV:VmShape w) (hp:progOk rows=true) (hf:(fullS rows).length≤2000) :
  Calls Tryz.prog 67 #[.agg #[.slice a len cap],s.val] w fun e w'=>SpcGot e w w' a rows (fullS rows):=by
 refine (spaceOf_is a len cap rows s w hC h hV hp).mono fun e w' h=>?_
 rw [if_pos hf] at h
 exact h
theorem code_parts {rows:List (List I3)} (h:codeF rows=0):progOk rows=true∧(fullS rows).length≤2000:=by
 unfold codeF at h
 cases hp:progOk rows
 ·rw [hp] at h;simp at h
 ·rw [hp] at h
  by_cases hf:(fullS rows).length≤2000
  ·exact ⟨rfl,hf⟩
  ·rw [if_pos rfl,if_neg hf] at h
   simp at h
theorem rcC_one (cs:Sl × Sl × Sl) (r:Rec6 V4) {mv:Value} (h:mv.oneCell'=true):(rcC cs r mv).all (·.oneCell')=true:=by
 unfold rcC
 rw [List.all_cons,List.all_append,mach_one]
 simp only [List.all_cons,List.all_nil,h,Bool.and_true,Bool.and_self]
 rfl
theorem SpcD.mvone {w:World} {B nb:Nat} {vs:Value} {cs:Sl × Sl × Sl} {M:V4→List I4} {L:List (Rec6 V4 × Value)} (h:SpcD w B nb vs cs M L L.length) {j:Nat} {r:Rec6 V4} {mv:Value} (hr:L[j]?=some (r,mv)):mv.oneCell'=true:=by
 obtain ⟨a,k,c,rfl⟩:=own_slice6 (h.mvs j r mv (List.getElem?_eq_some_iff.1 hr).1 hr)
 rfl
theorem SpcD.strgrown {W W':World} {B B' nb d n e s:Nat} {vs v:Value} {cs:Sl × Sl × Sl} {M:V4→List I4} {L:List (Rec6 V4 × Value)} {xs:List Value} (h:SpcD W B nb vs cs M L d) (ho:W.ownsRow B' e s v n xs) (gr:W.grownBy W' v.ownBlock) (h1:111≠e:=by decide) (h2:192≠e:=by decide):SpcD W' B nb vs cs M L d:=by
 obtain ⟨D,hm,hn⟩:=h.map
 exact ⟨h.row.kept gr (Ap3.types h.row ho h1).or,⟨D,hm.kept gr (fun e=>map_own hm ho e.symm),hn⟩,fun i r mv' hi hr=>(h.mvs i r mv' hi hr).kept gr (Ap3.types (h.mvs i r mv' hi hr) ho h2).or,h.nil,h.low⟩
theorem keyT_at {cs:Sl × Sl × Sl} {r:Rec6 V4} {mv:Value}:(rcC cs r mv)[0]?=some (.string (keyT r.1)):=rfl

theorem implAllStates_not (a:Option Addr) (len cap:Nat) (rows:List (List I3)) (w:World) (hC:Codes w a len cap rows) (hV:VmShape w) (hc:codeF rows≠0) :
  Calls Tryz.prog 23 #[.agg #[.slice a len cap]] w fun e w'=>KeysGot e w' w.heap.size [] (codeF rows)∧Below w.heap.size w w':=by
 have kS:=fun (W:World) (b:Below w.heap.size w W) (t:S4) (h:Vmem W t zeroV)=>spaceOf_not a len cap rows t W (hC.below b) h (hV.below b) hc
 generalize codeF rows=c at *
 have hcn:(c != 0)=true:=by simpa using hc
 have fz:=(shape_fits9 zero_shape).1
 have kN:=implNewVm_is
 have bw:Below w.heap.size w (w.alloc (.cells #[.slice a len cap] 25)):=by go_grown
 have pP:Blk (w.alloc (.cells #[.slice a len cap] 25)) w.heap.size 25 [.slice a len cap]:=blkAt _ _ _ rfl
 go_enter Tryz.func23,Tryz.ntmps23
 go_wp2_with fail
 generalize w.alloc (.cells #[.slice a len cap] 25)=U at *
 go_cut [4,5] from 9 (fun s4 s5 W=>CutF w W c s4 s5)
 case first =>
  have hdr:Below U.heap.size U U.drew:=by go_grown
  refine wp_region_held_drew (S:=(fun w'=>w'.cell? ⟨w.heap.size,0,none⟩=some (.slice a len cap))) (by kernel_rfl) (by simpa using pP.cell 0) (fun hS0=>?_)
  refine tkm 0 10 (.agg #[.slice a len cap]) ?_
  have pP9:=pP.below hdr
  replace bw:=bel_trans bw hdr
  clear hdr
  generalize U.drew=V at *
  have bt:Below V.heap.size V V:=Below.refl _ _
  refine wpAnyH_ready (rs:=[1,6]) (by kernel_rfl) (by simp) ?_
  refine AllReadyH.cons (o:=⟨some 11,_,_,_,_,_⟩) rfl (fun K hK=>?_) (AllReadyH.cons (o:=⟨some 4,_,_,_,_,_⟩) rfl (fun K hK=>?_) AllReadyH.nil)
  ·go_simp
   refine (kN V).mono ?_
   rintro e V1 ⟨⟨⟨⟨t0a,t0n,t0c⟩,⟨t1a,t1n,t1c⟩,⟨t2a,t2n,t2c⟩,⟨t3a,t3n,t3c⟩⟩,rfl,hO⟩,hb1⟩
   have ut:S4.val ((t0a,t0n,t0c),(t1a,t1n,t1c),(t2a,t2n,t2c),(t3a,t3n,t3c))=.agg #[.slice t0a t0n t0c,.slice t1a t1n t1c,.slice t2a t2n t2c,.slice t3a t3n t3c]:=rfl
   rw [ut]
   have bt:=bel_trans bt hb1
   go_wp2_with fail
   refine hK.out _ _ (cells_kept bt _ _ hS0) (fun hS1=>?_)
   clear hK
   try simp only [Act.put,tka,tkb,tkc]
   refine wpAnyH_ready (rs:=[2,6]) (by kernel_rfl) (by simp) ?_
   refine AllReadyH.cons (o:=⟨some 12,_,_,_,_,_⟩) rfl (fun K hK=>?_) (AllReadyH.cons (o:=⟨some 4,_,_,_,_,_⟩) rfl (fun K hK=>?_) AllReadyH.nil)
   ·have kx:=kS V1 (bel_trans bw bt) ((t0a,t0n,t0c),(t1a,t1n,t1c),(t2a,t2n,t2c),(t3a,t3n,t3c)) (hO.mem fz)
    rw [ut] at kx
    go_simp
    refine kx.mono ?_
    rintro e V2 ⟨rfl,hb2⟩
    have bt:=bel_trans bt hb2
    go_wp2_with fail
    refine hK.out _ _ (cells_kept bt _ _ hS0) (fun hS2=>?_)
    clear hK kx
    try simp only [Act.put,tka,tkb,tkc]
    refine tkm 3 9 (.tuple #[.agg #[.slice none 0 0,.map none],.int .i64 c]) ?_
    refine tkm 4 13 (.agg #[.slice none 0 0,.map none]) ?_
    refine tkm 5 14 (.int .i64 c) ?_
    refine tkr 6 4 (fun K hK=>?_)
    have hb3:Below V2.heap.size V2 (V2.alloc (.cells #[.slice none 0 0,.map none] 106)):=by go_grown
    have pX:Blk (V2.alloc (.cells #[.slice none 0 0,.map none] 106)) V2.heap.size 106 [.slice none 0 0,.map none]:=blkAt _ _ _ rfl
    have hXB:w.heap.size≤V2.heap.size:=Nat.le_trans bw.size bt.size
    have bt:=bel_trans bt hb3
    go_simp
    refine hK.out _ _ (cells_kept bt _ _ hS0) (fun hS3=>?_)
    clear hK
    generalize (V2.alloc (.cells #[.slice none 0 0,.map none] 106))=V3 at *
    obtain ⟨X,hX⟩:∃ X,X=V2.heap.size:=⟨_,rfl⟩
    rw [← hX] at pX hXB ⊢
    clear hX
    try simp only [Act.put,tka,tkb,tkc]
    refine tkz 7 (fun K hK=>?_)
    refine step_store_blkD rfl 106 _ _ rfl X [.slice none 0 0,.map none] rfl rfl pX (by kernel_rfl) rfl rfl ?_
    intro V9 pX9 g9
    have bz:=(bel_trans bw bt).grown g9 (bel_trans bw bt).size (fun q e=>by cases e;exact hXB)
    have hXP:X≠w.heap.size:=blk_ne pX (pP9.below bt) (by decide)
    have c9:=cells_kept bt _ _ hS0
    refine hK.out _ _ (cell_grownB g9 c9 (by simp;omega)) (fun hS4=>?_)
    clear hK
    try simp only [Act.put,tka,tkb,tkc]
    refine tkm 8 5 (.int .i64 c) ?_
    refine wpAnyH_done (by kernel_rfl) ?_ _
    go_wp2_with fail
    go_meet
    case rel=>exact ⟨X,rfl,rfl,bz⟩
   ·have hb3:Below V1.heap.size V1 (V1.alloc (.cells #[.slice none 0 0,.map none] 106)):=by go_grown
    have pX:Blk (V1.alloc (.cells #[.slice none 0 0,.map none] 106)) V1.heap.size 106 [.slice none 0 0,.map none]:=blkAt _ _ _ rfl
    have hXB:w.heap.size≤V1.heap.size:=Nat.le_trans bw.size bt.size
    replace hO:=hO.below hb3
    have bt:=bel_trans bt hb3
    go_simp
    refine hK.out _ _ (cells_kept bt _ _ hS0) (fun hS3=>?_)
    clear hK
    generalize (V1.alloc (.cells #[.slice none 0 0,.map none] 106))=V2 at *
    obtain ⟨X,hX⟩:∃ X,X=V1.heap.size:=⟨_,rfl⟩
    rw [← hX] at pX hXB ⊢
    clear hX
    try simp only [Act.put,tka,tkb,tkc]
    refine tkr 2 12 (fun K hK=>?_)
    have kx:=kS V2 (bel_trans bw bt) ((t0a,t0n,t0c),(t1a,t1n,t1c),(t2a,t2n,t2c),(t3a,t3n,t3c)) (hO.mem fz)
    rw [ut] at kx
    go_simp
    refine kx.mono ?_
    rintro e V3 ⟨rfl,hb2⟩
    replace pX:=pX.below hb2
    have bt:=bel_trans bt hb2
    go_wp2_with fail
    refine hK.out _ _ (cells_kept bt _ _ hS0) (fun hS2=>?_)
    clear hK kx
    try simp only [Act.put,tka,tkb,tkc]
    refine tkm 3 9 (.tuple #[.agg #[.slice none 0 0,.map none],.int .i64 c]) ?_
    refine tkm 4 13 (.agg #[.slice none 0 0,.map none]) ?_
    refine tkm 5 14 (.int .i64 c) ?_
    refine tkz 7 (fun K hK=>?_)
    refine step_store_blkD rfl 106 _ _ rfl X [.slice none 0 0,.map none] rfl rfl pX (by kernel_rfl) rfl rfl ?_
    intro V9 pX9 g9
    have bz:=(bel_trans bw bt).grown g9 (bel_trans bw bt).size (fun q e=>by cases e;exact hXB)
    have hXP:X≠w.heap.size:=blk_ne pX (pP9.below bt) (by decide)
    have c9:=cells_kept bt _ _ hS0
    refine hK.out _ _ (cell_grownB g9 c9 (by simp;omega)) (fun hS4=>?_)
    clear hK
    try simp only [Act.put,tka,tkb,tkc]
    refine tkm 8 5 (.int .i64 c) ?_
    refine wpAnyH_done (by kernel_rfl) ?_ _
    go_wp2_with fail
    go_meet
    case rel=>exact ⟨X,rfl,rfl,bz⟩
  ·have hb3:Below V.heap.size V (V.alloc (.cells #[.slice none 0 0,.map none] 106)):=by go_grown
   have pX:Blk (V.alloc (.cells #[.slice none 0 0,.map none] 106)) V.heap.size 106 [.slice none 0 0,.map none]:=blkAt _ _ _ rfl
   have hXB:w.heap.size≤V.heap.size:=Nat.le_trans bw.size bt.size
   have bt:=bel_trans bt hb3
   go_simp
   refine hK.out _ _ (cells_kept bt _ _ hS0) (fun hS3=>?_)
   clear hK
   generalize (V.alloc (.cells #[.slice none 0 0,.map none] 106))=V1 at *
   obtain ⟨X,hX⟩:∃ X,X=V.heap.size:=⟨_,rfl⟩
   rw [← hX] at pX hXB ⊢
   clear hX
   try simp only [Act.put,tka,tkb,tkc]
   refine tkr 1 11 (fun K hK=>?_)
   go_simp
   refine (kN V1).mono ?_
   rintro e V2 ⟨⟨⟨⟨t0a,t0n,t0c⟩,⟨t1a,t1n,t1c⟩,⟨t2a,t2n,t2c⟩,⟨t3a,t3n,t3c⟩⟩,rfl,hO⟩,hb1⟩
   have ut:S4.val ((t0a,t0n,t0c),(t1a,t1n,t1c),(t2a,t2n,t2c),(t3a,t3n,t3c))=.agg #[.slice t0a t0n t0c,.slice t1a t1n t1c,.slice t2a t2n t2c,.slice t3a t3n t3c]:=rfl
   rw [ut]
   have bt:=bel_trans bt hb1
   go_wp2_with fail
   refine hK.out _ _ (cells_kept bt _ _ hS0) (fun hS1=>?_)
   clear hK
   try simp only [Act.put,tka,tkb,tkc]
   replace pX:=pX.below hb1
   refine tkr 2 12 (fun K hK=>?_)
   have kx:=kS V2 (bel_trans bw bt) ((t0a,t0n,t0c),(t1a,t1n,t1c),(t2a,t2n,t2c),(t3a,t3n,t3c)) (hO.mem fz)
   rw [ut] at kx
   go_simp
   refine kx.mono ?_
   rintro e V3 ⟨rfl,hb2⟩
   replace pX:=pX.below hb2
   have bt:=bel_trans bt hb2
   go_wp2_with fail
   refine hK.out _ _ (cells_kept bt _ _ hS0) (fun hS2=>?_)
   clear hK kx
   try simp only [Act.put,tka,tkb,tkc]
   refine tkm 3 9 (.tuple #[.agg #[.slice none 0 0,.map none],.int .i64 c]) ?_
   refine tkm 4 13 (.agg #[.slice none 0 0,.map none]) ?_
   refine tkm 5 14 (.int .i64 c) ?_
   refine tkz 7 (fun K hK=>?_)
   refine step_store_blkD rfl 106 _ _ rfl X [.slice none 0 0,.map none] rfl rfl pX (by kernel_rfl) rfl rfl ?_
   intro V9 pX9 g9
   have bz:=(bel_trans bw bt).grown g9 (bel_trans bw bt).size (fun q e=>by cases e;exact hXB)
   have hXP:X≠w.heap.size:=blk_ne pX (pP9.below bt) (by decide)
   have c9:=cells_kept bt _ _ hS0
   refine hK.out _ _ (cell_grownB g9 c9 (by simp;omega)) (fun hS4=>?_)
   clear hK
   try simp only [Act.put,tka,tkb,tkc]
   refine tkm 8 5 (.int .i64 c) ?_
   refine wpAnyH_done (by kernel_rfl) ?_ _
   go_wp2_with fail
   go_meet
   case rel=>exact ⟨X,rfl,rfl,bz⟩
 obtain ⟨X,rfl,rfl,bz⟩:=hcut
 clear kS kN bw pP fz
 have HK:Hid (∀ W,KeysGot (.returned (.tuple #[.slice none 0 0,.int .i64 c])) W w.heap.size [] c):=fun W=>⟨_,rfl,World.ownsRow_nil _ _ _ _⟩
 go_wp2
 refine bodyPost_ret (by simp [results,Tryz.results23,go_sem];try rfl) rfl ?_
 exact ⟨HK.out _,bz⟩

def OnK (w wr:World) (X nb:Nat) (va:Option Addr) (vc:Nat) (cs:Sl × Sl × Sl) (rows:List (List I3)) (L:List (Rec6 V4 × Value)) (j:Nat) (v:Value):Prop:=
 j≤L.length∧Blk wr X 106 [.slice va L.length vc,.map (some nb)]∧SpcD wr w.heap.size nb (.slice va L.length vc) cs (mvsOf rows (fullS rows)) L L.length∧wr.ownsRow w.heap.size 9 1 v ((keysL (L.map (·.1))).take j).length (((keysL (L.map (·.1))).take j).map Value.string)∧Below w.heap.size w wr
theorem implAllStates_ok (a:Option Addr) (len cap:Nat) (rows:List (List I3)) (w:World) (hC:Codes w a len cap rows) (hV:VmShape w) (hc:codeF rows=0) :
  Calls Tryz.prog 23 #[.agg #[.slice a len cap]] w fun e w'=>KeysGot e w' w.heap.size (keysL (fullS rows)) 0∧Below w.heap.size w w':=by
 obtain ⟨hp,hf⟩:=code_parts hc
 obtain ⟨i1,hi8,hy0,hy1,hy2⟩:=info_parts info_str6
 obtain ⟨cs,hR⟩:=rows_of_codes6 hC hp
 have kS:=fun (W:World) (b:Below w.heap.size w W) (t:S4) (h:Vmem W t zeroV)=>spaceOf_yes a len cap rows t W (hC.below b) h (hV.below b) hp hf
 clear hc
 have fz:=(shape_fits9 zero_shape).1
 have kN:=implNewVm_is
 have bw:Below w.heap.size w (w.alloc (.cells #[.slice a len cap] 25)):=by go_grown
 have pP:Blk (w.alloc (.cells #[.slice a len cap] 25)) w.heap.size 25 [.slice a len cap]:=blkAt _ _ _ rfl
 go_enter Tryz.func23,Tryz.ntmps23
 go_wp2_with fail
 generalize w.alloc (.cells #[.slice a len cap] 25)=U at *
 go_cut [4,5] from 9 (fun s4 s5 W=>CutK w W cs rows (fullS rows) s4 s5)
 case first =>
  have hdr:Below U.heap.size U U.drew:=by go_grown
  refine wp_region_held_drew (S:=(fun w'=>w'.cell? ⟨w.heap.size,0,none⟩=some (.slice a len cap))) (by kernel_rfl) (by simpa using pP.cell 0) (fun hS0=>?_)
  refine tkm 0 10 (.agg #[.slice a len cap]) ?_
  have pP9:=pP.below hdr
  replace bw:=bel_trans bw hdr
  clear hdr
  generalize U.drew=V at *
  have bt:Below V.heap.size V V:=Below.refl _ _
  refine wpAnyH_ready (rs:=[1,6]) (by kernel_rfl) (by simp) ?_
  refine AllReadyH.cons (o:=⟨some 11,_,_,_,_,_⟩) rfl (fun K hK=>?_) (AllReadyH.cons (o:=⟨some 4,_,_,_,_,_⟩) rfl (fun K hK=>?_) AllReadyH.nil)
  ·go_simp
   refine (kN V).mono ?_
   rintro e V1 ⟨⟨⟨⟨t0a,t0n,t0c⟩,⟨t1a,t1n,t1c⟩,⟨t2a,t2n,t2c⟩,⟨t3a,t3n,t3c⟩⟩,rfl,hO⟩,hb1⟩
   have ut:S4.val ((t0a,t0n,t0c),(t1a,t1n,t1c),(t2a,t2n,t2c),(t3a,t3n,t3c))=.agg #[.slice t0a t0n t0c,.slice t1a t1n t1c,.slice t2a t2n t2c,.slice t3a t3n t3c]:=rfl
   rw [ut]
   have bt:=bel_trans bt hb1
   go_wp2_with fail
   refine hK.out _ _ (cells_kept bt _ _ hS0) (fun hS1=>?_)
   clear hK
   try simp only [Act.put,tka,tkb,tkc]
   refine wpAnyH_ready (rs:=[2,6]) (by kernel_rfl) (by simp) ?_
   refine AllReadyH.cons (o:=⟨some 12,_,_,_,_,_⟩) rfl (fun K hK=>?_) (AllReadyH.cons (o:=⟨some 4,_,_,_,_,_⟩) rfl (fun K hK=>?_) AllReadyH.nil)
   ·have kx:=kS V1 (bel_trans bw bt) ((t0a,t0n,t0c),(t1a,t1n,t1c),(t2a,t2n,t2c),(t3a,t3n,t3c)) (hO.mem fz)
    rw [ut] at kx
    go_simp
    refine kx.mono ?_
    rintro e V2 ⟨va9,nb,cs',L,rfl,sp,hLF,hR',hb2⟩
    obtain rfl:=(hR.below (bel_trans bw bt)).uniq hR'
    have hBv:w.heap.size≤V1.heap.size:=Nat.le_trans bw.size bt.size
    obtain ⟨va8,vn8,vc8,hva⟩:=own_slice6 sp.row
    have bt:=bel_trans bt hb2
    go_wp2_with fail
    refine hK.out _ _ (cells_kept bt _ _ hS0) (fun hS2=>?_)
    clear hK kx
    try simp only [Act.put,tka,tkb,tkc]
    refine tkm 3 9 (.tuple #[.agg #[va9,.map (some nb)],.int .i64 0]) ?_
    refine tkm 4 13 (.agg #[va9,.map (some nb)]) ?_
    refine tkm 5 14 (.int .i64 0) ?_
    refine tkr 6 4 (fun K hK=>?_)
    have hb3:Below V2.heap.size V2 (V2.alloc (.cells #[.slice none 0 0,.map none] 106)):=by go_grown
    have pX:Blk (V2.alloc (.cells #[.slice none 0 0,.map none] 106)) V2.heap.size 106 [.slice none 0 0,.map none]:=blkAt _ _ _ rfl
    have hXB:w.heap.size≤V2.heap.size:=Nat.le_trans bw.size bt.size
    replace sp:=sp.below hb3
    have bt:=bel_trans bt hb3
    go_simp
    refine hK.out _ _ (cells_kept bt _ _ hS0) (fun hS3=>?_)
    clear hK
    generalize (V2.alloc (.cells #[.slice none 0 0,.map none] 106))=V3 at *
    obtain ⟨X,hX⟩:∃ X,X=V2.heap.size:=⟨_,rfl⟩
    rw [← hX] at pX hXB ⊢
    clear hX
    try simp only [Act.put,tka,tkb,tkc]
    subst hva
    refine tkz 7 (fun K hK=>?_)
    refine step_store_blkD rfl 106 _ _ rfl X [.slice va8 vn8 vc8,.map (some nb)] rfl rfl pX (by kernel_rfl) rfl rfl ?_
    intro V9 pX9 g9
    have bz:=(bel_trans bw bt).grown g9 (bel_trans bw bt).size (fun q e=>by cases e;exact hXB)
    replace sp:=sp.grown g9 pX (by decide) (by decide)
    have hXP:X≠w.heap.size:=blk_ne pX (pP9.below bt) (by decide)
    have c9:=cells_kept bt _ _ hS0
    refine hK.out _ _ (cell_grownB g9 c9 (by simp;omega)) (fun hS4=>?_)
    clear hK
    try simp only [Act.put,tka,tkb,tkc]
    refine tkm 8 5 (.int .i64 0) ?_
    refine wpAnyH_done (by kernel_rfl) ?_ _
    go_wp2_with fail
    go_meet
    case rel=>exact CutK.mk9 (va:=.slice none 0 0) rfl rfl pX9.out sp hLF hXB hBv bz
   ·have hb3:Below V1.heap.size V1 (V1.alloc (.cells #[.slice none 0 0,.map none] 106)):=by go_grown
    have pX:Blk (V1.alloc (.cells #[.slice none 0 0,.map none] 106)) V1.heap.size 106 [.slice none 0 0,.map none]:=blkAt _ _ _ rfl
    have hXB:w.heap.size≤V1.heap.size:=Nat.le_trans bw.size bt.size
    replace hO:=hO.below hb3
    have bt:=bel_trans bt hb3
    go_simp
    refine hK.out _ _ (cells_kept bt _ _ hS0) (fun hS3=>?_)
    clear hK
    generalize (V1.alloc (.cells #[.slice none 0 0,.map none] 106))=V2 at *
    obtain ⟨X,hX⟩:∃ X,X=V1.heap.size:=⟨_,rfl⟩
    rw [← hX] at pX hXB ⊢
    clear hX
    try simp only [Act.put,tka,tkb,tkc]
    refine tkr 2 12 (fun K hK=>?_)
    have kx:=kS V2 (bel_trans bw bt) ((t0a,t0n,t0c),(t1a,t1n,t1c),(t2a,t2n,t2c),(t3a,t3n,t3c)) (hO.mem fz)
    rw [ut] at kx
    go_simp
    refine kx.mono ?_
    rintro e V3 ⟨va9,nb,cs',L,rfl,sp,hLF,hR',hb2⟩
    obtain rfl:=(hR.below (bel_trans bw bt)).uniq hR'
    have hBv:w.heap.size≤V2.heap.size:=Nat.le_trans bw.size bt.size
    obtain ⟨va8,vn8,vc8,hva⟩:=own_slice6 sp.row
    replace pX:=pX.below hb2
    have bt:=bel_trans bt hb2
    go_wp2_with fail
    refine hK.out _ _ (cells_kept bt _ _ hS0) (fun hS2=>?_)
    clear hK kx
    try simp only [Act.put,tka,tkb,tkc]
    refine tkm 3 9 (.tuple #[.agg #[va9,.map (some nb)],.int .i64 0]) ?_
    refine tkm 4 13 (.agg #[va9,.map (some nb)]) ?_
    refine tkm 5 14 (.int .i64 0) ?_
    subst hva
    refine tkz 7 (fun K hK=>?_)
    refine step_store_blkD rfl 106 _ _ rfl X [.slice va8 vn8 vc8,.map (some nb)] rfl rfl pX (by kernel_rfl) rfl rfl ?_
    intro V9 pX9 g9
    have bz:=(bel_trans bw bt).grown g9 (bel_trans bw bt).size (fun q e=>by cases e;exact hXB)
    replace sp:=sp.grown g9 pX (by decide) (by decide)
    have hXP:X≠w.heap.size:=blk_ne pX (pP9.below bt) (by decide)
    have c9:=cells_kept bt _ _ hS0
    refine hK.out _ _ (cell_grownB g9 c9 (by simp;omega)) (fun hS4=>?_)
    clear hK
    try simp only [Act.put,tka,tkb,tkc]
    refine tkm 8 5 (.int .i64 0) ?_
    refine wpAnyH_done (by kernel_rfl) ?_ _
    go_wp2_with fail
    go_meet
    case rel=>exact CutK.mk9 (va:=.slice none 0 0) rfl rfl pX9.out sp hLF hXB hBv bz
  ·have hb3:Below V.heap.size V (V.alloc (.cells #[.slice none 0 0,.map none] 106)):=by go_grown
   have pX:Blk (V.alloc (.cells #[.slice none 0 0,.map none] 106)) V.heap.size 106 [.slice none 0 0,.map none]:=blkAt _ _ _ rfl
   have hXB:w.heap.size≤V.heap.size:=Nat.le_trans bw.size bt.size
   have bt:=bel_trans bt hb3
   go_simp
   refine hK.out _ _ (cells_kept bt _ _ hS0) (fun hS3=>?_)
   clear hK
   generalize (V.alloc (.cells #[.slice none 0 0,.map none] 106))=V1 at *
   obtain ⟨X,hX⟩:∃ X,X=V.heap.size:=⟨_,rfl⟩
   rw [← hX] at pX hXB ⊢
   clear hX
   try simp only [Act.put,tka,tkb,tkc]
   refine tkr 1 11 (fun K hK=>?_)
   go_simp
   refine (kN V1).mono ?_
   rintro e V2 ⟨⟨⟨⟨t0a,t0n,t0c⟩,⟨t1a,t1n,t1c⟩,⟨t2a,t2n,t2c⟩,⟨t3a,t3n,t3c⟩⟩,rfl,hO⟩,hb1⟩
   have ut:S4.val ((t0a,t0n,t0c),(t1a,t1n,t1c),(t2a,t2n,t2c),(t3a,t3n,t3c))=.agg #[.slice t0a t0n t0c,.slice t1a t1n t1c,.slice t2a t2n t2c,.slice t3a t3n t3c]:=rfl
   rw [ut]
   have bt:=bel_trans bt hb1
   go_wp2_with fail
   refine hK.out _ _ (cells_kept bt _ _ hS0) (fun hS1=>?_)
   clear hK
   try simp only [Act.put,tka,tkb,tkc]
   replace pX:=pX.below hb1
   refine tkr 2 12 (fun K hK=>?_)
   have kx:=kS V2 (bel_trans bw bt) ((t0a,t0n,t0c),(t1a,t1n,t1c),(t2a,t2n,t2c),(t3a,t3n,t3c)) (hO.mem fz)
   rw [ut] at kx
   go_simp
   refine kx.mono ?_
   rintro e V3 ⟨va9,nb,cs',L,rfl,sp,hLF,hR',hb2⟩
   obtain rfl:=(hR.below (bel_trans bw bt)).uniq hR'
   have hBv:w.heap.size≤V2.heap.size:=Nat.le_trans bw.size bt.size
   obtain ⟨va8,vn8,vc8,hva⟩:=own_slice6 sp.row
   replace pX:=pX.below hb2
   have bt:=bel_trans bt hb2
   go_wp2_with fail
   refine hK.out _ _ (cells_kept bt _ _ hS0) (fun hS2=>?_)
   clear hK kx
   try simp only [Act.put,tka,tkb,tkc]
   refine tkm 3 9 (.tuple #[.agg #[va9,.map (some nb)],.int .i64 0]) ?_
   refine tkm 4 13 (.agg #[va9,.map (some nb)]) ?_
   refine tkm 5 14 (.int .i64 0) ?_
   subst hva
   refine tkz 7 (fun K hK=>?_)
   refine step_store_blkD rfl 106 _ _ rfl X [.slice va8 vn8 vc8,.map (some nb)] rfl rfl pX (by kernel_rfl) rfl rfl ?_
   intro V9 pX9 g9
   have bz:=(bel_trans bw bt).grown g9 (bel_trans bw bt).size (fun q e=>by cases e;exact hXB)
   replace sp:=sp.grown g9 pX (by decide) (by decide)
   have hXP:X≠w.heap.size:=blk_ne pX (pP9.below bt) (by decide)
   have c9:=cells_kept bt _ _ hS0
   refine hK.out _ _ (cell_grownB g9 c9 (by simp;omega)) (fun hS4=>?_)
   clear hK
   try simp only [Act.put,tka,tkb,tkc]
   refine tkm 8 5 (.int .i64 0) ?_
   refine wpAnyH_done (by kernel_rfl) ?_ _
   go_wp2_with fail
   go_meet
   case rel=>exact CutK.mk9 (va:=.slice none 0 0) rfl rfl pX9.out sp hLF hXB hBv bz
 obtain ⟨X,va,vc,nb,L,rfl,rfl,pX,sp,hLF,hXB,bz⟩:=hcut
 clear kS kN bw pP fz
 have cX0:wc.cell? ⟨X,0,none⟩=some (.slice va L.length vc):=by simpa using pX.cell 0
 have hl2:L.length≤2000:=by
  have e:(L.map (·.1)).length=L.length:=by simp
  rw [hLF] at e
  omega
 have st:OnK w wc X nb va vc cs rows L 0 (.slice none 0 0):=⟨Nat.zero_le _,pX,sp,World.ownsRow_nil _ _ _ _,bz⟩
 have HLF:Hid (L.map (·.1)=fullS rows):=hLF
 clear hLF pX sp bz
 go_wp2_with fail
 go_loopw [6,21] (fun s6 s21 wr=>∃ j:Nat,s21=.int .i64 j∧OnK w wr X nb va vc cs rows L j s6) (fun _ s21 _=>L.length - (intOf s21).toNat)
 case atStart=>exact ⟨0,rfl,st⟩
 case round =>
  clear st cX0
  obtain ⟨j,rfl,hj,pX,sp,q,bw⟩:=hrel
  by_cases hlt:j<L.length
  ·obtain ⟨r,mv,hr⟩:∃ r mv,L[j]?=some (r,mv):=⟨L[j].1,L[j].2,by rw [List.getElem?_eq_getElem hlt]⟩
   obtain ⟨g,c,e9,hg,hrg⟩:=sp.at9 hr
   have hmv:=sp.mvone hr
   cases e9
   have hlt3:(j:Int)<(L.length:Int):=by omega
   have hj0:(0:Int)≤(j:Int):=by omega
   have hKe:(keysL (L.map (·.1))).take (j+1)=(keysL (L.map (·.1))).take j++[keyT r.1]:=by
    rw [List.take_add_one]
    unfold keysL
    rw [List.getElem?_map,List.getElem?_map,hr]
    rfl
   have hkl:((keysL (L.map (·.1))).take j).length≤2000:=by have:=List.length_take_le j (keysL (L.map (·.1)));omega
   have HKe:Hid ((keysL (L.map (·.1))).take (j+1)=(keysL (L.map (·.1))).take j++[keyT r.1]):=hKe
   clear hKe hr
   obtain ⟨ks,hks⟩:∃ ks,ks=(keysL (L.map (·.1))).take j:=⟨_,rfl⟩
   rw [← hks] at q hkl HKe
   clear hks
   have pN:=Blk.new wr 111 [.string ⟨#[]⟩,.slice none 0 0,.int .i64 0,.int .i64 0,.int .i64 0,.slice none 0 0,.int .i64 0,.int .i64 0,.int .i64 0,.slice none 0 0,.int .i64 0,.int .i64 0,.int .i64 0,.int .i64 0,.int .i64 0,.int .i64 0,.int .i64 0,.int .i64 0,.int .i64 0,.int .i64 0,.int .i64 0,.slice none 0 0]
   have hbN:Below wr.heap.size wr (wr.alloc (.cells #[.string ⟨#[]⟩,.slice none 0 0,.int .i64 0,.int .i64 0,.int .i64 0,.slice none 0 0,.int .i64 0,.int .i64 0,.int .i64 0,.slice none 0 0,.int .i64 0,.int .i64 0,.int .i64 0,.int .i64 0,.int .i64 0,.int .i64 0,.int .i64 0,.int .i64 0,.int .i64 0,.int .i64 0,.int .i64 0,.slice none 0 0] 111)):=by go_grown
   go_wp2_with (first | refine wpList_load_mid rfl 111 _ rfl g (j*22) rfl (rcC cs r mv) _ hrg Tryz.underlying111 rfl (by kernel_rfl) ?_ | refine wpList_store_blk rfl 111 _ _ rfl wr.heap.size (rcC cs r mv) rfl rfl pN (by kernel_rfl) rfl (rcC_one cs r hmv) ?_)
   intro w3 p3 g3
   have pE:=p3.out
   have b3:Below wr.heap.size wr w3:=hbN.grown g3 hbN.size (fun k e=>by cases e;exact Nat.le_refl _)
   have cE:w3.cell? ⟨wr.heap.size,0,none⟩=some (.string (keyT r.1)):=by rw [pE.cell];exact keyT_at
   replace pX:=pX.below b3
   replace sp:=sp.below b3
   replace q:=owns_below q b3
   replace bw:=bel_trans bw b3
   clear p3 g3 hbN pN b3 hrg pE
   generalize wr.heap.size=E at *
   generalize keyT r.1=key at *
   go_wp2_with (at_builtin;refine wpList_append_own_at _ rfl _ _ 47 rfl w.heap.size 9 i1 (.string ⟨#[]⟩) 1 16 Tryz.underlying47 hi8 hy0 hy1 hy2 rfl (by decide) _ _ _ rfl (q.alloc _) ⟨w3.heap.size,0,none⟩ 1 1 [.string key] rfl rfl (cell_one_new _ _ _) (one_str6 _) ?c3 ?c4 ?c5 ?_)
   case c3=>unfold maxLen;omega
   case c4=>omega
   case c5=>have:=bw.size;simp;omega
   intro v6 w4 q6 gr _ at6
   have ha:Below w3.heap.size w3 (w3.alloc (.cells #[.string key] 9)):=by go_grown
   have sp4:=(sp.below ha).strgrown (q.alloc _) gr
   have pX4:=(pX.below ha).kept gr (own_ne_blk9 (q.alloc _) (pX.below ha) (by decide))
   have bw4:=(bel_trans bw ha).grown gr (bel_trans bw ha).size (fun k e=>(own_lt3 (q.alloc (.cells #[.string key] 9)) e).1)
   have q7:w4.ownsRow w.heap.size 9 1 v6 ((keysL (L.map (·.1))).take (j+1)).length (((keysL (L.map (·.1))).take (j+1)).map Value.string):=by rw [HKe.out];exact row_str6 q6
   have st9:OnK w w4 X nb (some ⟨g,0,none⟩) vc cs rows L (j+1) v6:=⟨by omega,pX4,sp4,q7,bw4⟩
   clear sp4 pX4 bw4 q7 q6 gr at6 ha sp pX bw q cE HKe
   go_wp2
   go_roundw
   case rel=>exact ⟨j+1,by go_num,st9⟩
   case measure=>simp [intOf];omega
  ·have hlt3:¬ (j:Int)<(L.length:Int):=by omega
   obtain rfl:j=L.length:=by omega
   obtain ⟨ka,kn,kc,rfl⟩:=own_slice6 q
   have HG:Hid (KeysGot (.returned (.tuple #[.slice ka kn kc,.int .i64 0])) wr w.heap.size (keysL (fullS rows)) 0):=by
    rw [← HLF.out]
    rw [List.take_of_length_le (by rw [keysL_len];simp)] at q
    exact ⟨_,rfl,q⟩
   clear q sp pX
   go_wp2
   refine bodyPost_ret (by simp [results,Tryz.results23,go_sem];try rfl) rfl ?_
   exact ⟨HG.out,bw⟩
end Go.Proofs.YtifoggpohlegmaaGreatDoor
