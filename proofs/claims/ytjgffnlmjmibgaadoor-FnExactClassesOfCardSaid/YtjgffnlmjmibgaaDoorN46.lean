/-
  Joined: StsS, AstI, CntI, CntJ.
-/
import Derived.Deep.CutRange
import Derived.Test.YtjgffnlmjmibgaaDoorN45

namespace Go.Proofs.YtjgffnlmjmibgaaDoor
set_option maxRecDepth 100000
set_option maxHeartbeats 16000000
open Go.RowKit
set_option linter.unusedVariables false
set_option linter.unusedSimpArgs false

theorem info_str6:(Tryd.prog.info? 9).map (fun i=>(i.zero,i.size,i.bytes))=some (some (.string ⟨#[]⟩),1,16):=by kernel_rfl
theorem Off3.ownI {wi w w0:World} {v1 v2 v3 u1 u2 u3:Value} {B B0:Nat} {ts:List ByteArray} {fs bs zs:List Int} {s:Sl} (h:Off3 wi w v1 v2 v3 u1 u2 u3) (ho:OwnI wi B s zs) (hT:Tri w0 B0 v1 v2 v3 ts fs bs) (hB:w0.heap.size≤B):OwnI w B s zs:=
 Off3.row h ho (Ap3.fresh hT.ks ho hB).symm (Ap3.fresh hT.fr ho hB).symm (Ap3.fresh hT.bw ho hB).symm
theorem Off3.ownV {wi w w0:World} {v1 v2 v3 u1 u2 u3:Value} {B B0:Nat} {ts:List ByteArray} {fs bs:List Int} {s:S4} {m:V4} (h:Off3 wi w v1 v2 v3 u1 u2 u3) (ho:OwnV wi B s m) (hT:Tri w0 B0 v1 v2 v3 ts fs bs) (hB:w0.heap.size≤B):OwnV w B s m:=
 ⟨⟨h.ownI ho.1.1 hT hB,h.ownI ho.1.2.1 hT hB,h.ownI ho.1.2.2.1 hT hB,h.ownI ho.1.2.2.2 hT hB⟩,ho.2⟩
theorem Off3.blk {wi w:World} {v1 v2 v3 u1 u2 u3:Value} {B g t:Nat} {ts:List ByteArray} {fs bs:List Int} {cs:List Value} (h:Off3 wi w v1 v2 v3 u1 u2 u3) (p:Blk wi g t cs) (hT:Tri wi B v1 v2 v3 ts fs bs) (h1:9≠t) (h2:3≠t):Blk w g t cs:=
 (h.keep g p.lt (own_ne_blk hT.ks p h1) (own_ne_blk hT.fr p h2) (own_ne_blk hT.bw p h2)).trans p
theorem strs6 {w:World} {B g n c:Nat} {ts:List ByteArray} (h:w.ownsRow B 9 1 (.slice (some ⟨g,0,none⟩) n c) n (ts.map Value.string)):Strs w (some ⟨g,0,none⟩) n c ts:=by
 obtain ⟨a,cap,e,hT⟩:=OwnT.of_owns h
 cases e
 exact hT.strs
theorem one_str6 (t:ByteArray):∀ u ∈ [Value.string t],u.oneCell'=true:=by intro u hu;simp at hu;subst hu;rfl
theorem one_int6 (x:Int):∀ u ∈ [Value.int .i64 x],u.oneCell'=true:=by intro u hu;simp at hu;subst hu;rfl
theorem row_str6 {w:World} {B:Nat} {v:Value} {ts:List ByteArray} {t:ByteArray} (h:w.ownsRow B 9 1 v (ts.length+1) (ts.map Value.string++[.string t])):w.ownsRow B 9 1 v (ts++[t]).length ((ts++[t]).map Value.string):=by simpa using h
theorem row_int6 {w:World} {B:Nat} {v:Value} {zs:List Int} {z:Int} (h:w.ownsRow B 3 1 v (zs.length+1) (zs.map (Value.int .i64)++[.int .i64 z])):w.ownsRow B 3 1 v (zs++[z]).length ((zs++[z]).map (Value.int .i64)):=by simpa using h

def StsGot (e:Ending) (w:World) (B:Nat) (F:List (Rec6 V4)):Prop:=∃ (v1 v2 v3:Value) (ts:List ByteArray) (fs bs:List Int),e=.returned (.tuple #[v1,v2,v3,.bool (decide (F.length≤2000))])∧Tri w B v1 v2 v3 ts fs bs∧(F.length≤2000→ts=keysL F∧fs=fromL F∧bs=byL F)
def OnO (w wr:World) (a9:Option Addr) (cap:Nat) (rows:List (List I3)) (i:Nat) (S:List (Rec6 V4)) (v1 v2 v3:Value):Prop:=
 Out6 rows i S∧Tri wr w.heap.size v1 v2 v3 (keysL S) (fromL S) (byL S)∧Below w.heap.size w wr∧Blk wr w.heap.size 25 [.slice a9 3 cap]

def OnI (w wi wr:World) (a9:Option Addr) (cap:Nat) (rows:List (List I3)) (i j:Nat) (m:V4) (S:List (Rec6 V4)) (v1 v2 v3 u1 u2 u3:Value):Prop:=
 In6 rows i j m S∧Tri wr w.heap.size u1 u2 u3 (keysL S) (fromL S) (byL S)∧Off3 wi wr v1 v2 v3 u1 u2 u3∧Below w.heap.size w wr

theorem l06States_is {w:World} {a9:Option Addr} {cap:Nat} {cs:Sl × Sl × Sl} {rows:List (List I3)} (hR:RowsAt w a9 cs rows) (hp:progOk rows=true) :
  Calls Tryd.prog 80 #[.agg #[.slice a9 3 cap]] w fun e w'=>StsGot e w' w.heap.size (fullS rows)∧Below w.heap.size w w':=by
 have fz:=(shape_fits9 zero_shape).1
 have kN:=specNewVm_is
 have kK:=fun (W:World) (t:S4) (h:Vmem W t zeroV)=>l03Key_is t zeroV W h zero_shape
 have bw:Below w.heap.size w (w.alloc (.cells #[.slice a9 3 cap] 25)):=by go_grown
 have pP:Blk (w.alloc (.cells #[.slice a9 3 cap] 25)) w.heap.size 25 [.slice a9 3 cap]:=blkAt _ _ _ rfl
 go_enter Tryd.func80,Tryd.ntmps80
 go_wp2_with fail
 generalize w.alloc (.cells #[.slice a9 3 cap] 25)=U at *
 refine (kN _).mono ?_
 rintro e w1 ⟨⟨⟨⟨t0a,t0n,t0c⟩,⟨t1a,t1n,t1c⟩,⟨t2a,t2n,t2c⟩,⟨t3a,t3n,t3c⟩⟩,rfl,hO⟩,hb⟩
 have ut:S4.val ((t0a,t0n,t0c),(t1a,t1n,t1c),(t2a,t2n,t2c),(t3a,t3n,t3c))=.agg #[.slice t0a t0n t0c,.slice t1a t1n t1c,.slice t2a t2n t2c,.slice t3a t3n t3c]:=rfl
 replace bw:=bel_trans bw hb
 replace pP:=pP.below hb
 have kKx:=kK w1 _ (hO.mem fz)
 rw [ut] at kKx ⊢
 clear hb kN kK ut hO fz
 go_wp2_with fail
 refine kKx.mono ?_
 rintro e w2 ⟨rfl,hb⟩
 replace bw:=bel_trans bw hb
 replace pP:=pP.below hb
 clear hb kKx
 have hb:Below w2.heap.size w2 (((w2.alloc (.cells #[.string (keyT zeroV)] 9)).alloc (.cells #[.int .i64 (-1)] 3)).alloc (.cells #[.int .i64 (-1)] 3)):=by go_grown
 have hbs:=bw.size
 have q1:((w2.alloc (.cells #[.string (keyT zeroV)] 9)).alloc (.cells #[.int .i64 (-1)] 3)).alloc (.cells #[.int .i64 (-1)] 3) |>.ownsRow w.heap.size 9 1 (.slice (some ⟨w2.heap.size,0,none⟩) 1 1) 1 [.string (keyT zeroV)]:=
  ((World.ownsRow_lit w2 #[.string (keyT zeroV)] 1 hbs (by unfold maxLen;omega) (by simp)).alloc _).alloc _
 have q2:((w2.alloc (.cells #[.string (keyT zeroV)] 9)).alloc (.cells #[.int .i64 (-1)] 3)).alloc (.cells #[.int .i64 (-1)] 3) |>.ownsRow w.heap.size 3 1 (.slice (some ⟨w2.heap.size+1,0,none⟩) 1 1) 1 [.int .i64 (-1)]:=by
  have h9:=(World.ownsRow_lit (base:=w.heap.size) (e:=3) (size:=1) (w2.alloc (.cells #[.string (keyT zeroV)] 9)) #[.int .i64 (-1)] 1 (by simp;omega) (by unfold maxLen;omega) (by simp)).alloc (.cells #[.int .i64 (-1)] 3)
  simpa using h9
 have q3:((w2.alloc (.cells #[.string (keyT zeroV)] 9)).alloc (.cells #[.int .i64 (-1)] 3)).alloc (.cells #[.int .i64 (-1)] 3) |>.ownsRow w.heap.size 3 1 (.slice (some ⟨w2.heap.size+1+1,0,none⟩) 1 1) 1 [.int .i64 (-1)]:=by
  have h9:=World.ownsRow_lit (base:=w.heap.size) (e:=3) (size:=1) ((w2.alloc (.cells #[.string (keyT zeroV)] 9)).alloc (.cells #[.int .i64 (-1)] 3)) #[.int .i64 (-1)] 1 (by simp;omega) (by unfold maxLen;omega) (by simp)
  simpa using h9
 have st:OnO w (((w2.alloc (.cells #[.string (keyT zeroV)] 9)).alloc (.cells #[.int .i64 (-1)] 3)).alloc (.cells #[.int .i64 (-1)] 3)) a9 cap rows 0 [(zeroV,0,0)] (.slice (some ⟨w2.heap.size,0,none⟩) 1 1) (.slice (some ⟨w2.heap.size+1,0,none⟩) 1 1) (.slice (some ⟨w2.heap.size+1+1,0,none⟩) 1 1):=
  ⟨Out6.start rows,⟨q1,q2,q3,fun g hg h2=>by simp [Value.ownBlock] at hg h2;omega⟩,bel_trans bw hb,pP.below hb⟩
 clear q1 q2 q3 hb hbs bw pP
 go_wp2_with fail
 go_loopw [6,7,8,9] (fun s6 s7 s8 s9 wr=>∃ (i:Nat) (S:List (Rec6 V4)),s9=.int .i64 i∧OnO w wr a9 cap rows i S s6 s7 s8) (fun _ _ _ s9 _=>2001 - (intOf s9).toNat)
 case atStart=>exact ⟨0,_,rfl,st⟩
 case round =>
  clear st
  obtain ⟨i,S,rfl,hO6,hT,bw,pP⟩:=hrel
  obtain ⟨i0,hi9,hz0,hz1,hz2⟩:=info_parts info_int
  obtain ⟨i1,hi8,hy0,hy1,hy2⟩:=info_parts info_str6
  have hS0:0<S.length:=List.length_pos_iff.2 hO6.pos
  obtain ⟨g1,c1,rfl,hc1,_⟩:=own_some6 hT.ks (by rw [keysL_len];exact hS0)
  obtain ⟨g2,c2,rfl,hc2,_⟩:=own_some6 hT.fr (by rw [fromL_len];exact hS0)
  obtain ⟨g3,c3,rfl,hc3,_⟩:=own_some6 hT.bw (by rw [byL_len];exact hS0)
  have hl2:=hO6.len
  have HEI:Hid ((keysL S).length=S.length):=keysL_len S
  by_cases hlt:i<S.length
  ·obtain ⟨m,hm⟩:∃ m,m=(S[i]'hlt).1:=⟨_,rfl⟩
   have hI6:=hO6.go hlt
   rw [← hm] at hI6
   have hs:shapeOk m=true:=by rw [hm];exact hO6.shp _ (List.getElem_mem hlt)
   have hkm:(keysL S)[i]?=some (keyT m):=by unfold keysL;rw [List.getElem?_map,List.getElem?_eq_getElem hlt,hm];rfl
   have hc:=str_cell6 hT.ks (by have:=HEI.out;omega) hkm
   have hlt1:(i:Int)<((keysL S).length:Int):=by have:=HEI.out;omega
   have hi0:(0:Int)≤(i:Int):=by omega
   have kO:=l03Of_back hs wr
   have hT0:=hT
   clear hm hkm
   go_wp2_with fail
   refine kO.mono ?_
   rintro e w3 ⟨⟨⟨⟨t0a,t0n,t0c⟩,⟨t1a,t1n,t1c⟩,⟨t2a,t2n,t2c⟩,⟨t3a,t3n,t3c⟩⟩,rfl,hV⟩,hb⟩
   have ut:S4.val ((t0a,t0n,t0c),(t1a,t1n,t1c),(t2a,t2n,t2c),(t3a,t3n,t3c))=.agg #[.slice t0a t0n t0c,.slice t1a t1n t1c,.slice t2a t2n t2c,.slice t3a t3n t3c]:=rfl
   rw [ut]
   replace bw:=bel_trans bw hb
   replace pP:=pP.below hb
   replace hT:=hT.below hb
   clear hb kO hc
   have pN:=Blk.new w3 30 [.slice none 0 0,.slice none 0 0,.slice none 0 0,.slice none 0 0]
   have hbN:Below w3.heap.size w3 (w3.alloc (.cells #[.slice none 0 0,.slice none 0 0,.slice none 0 0,.slice none 0 0] 30)):=by go_grown
   go_wp2_with (refine wpList_store_blk rfl 30 _ _ rfl w3.heap.size [.slice t0a t0n t0c,.slice t1a t1n t1c,.slice t2a t2n t2c,.slice t3a t3n t3c] rfl rfl pN (by kernel_rfl) rfl rfl ?_)
   intro w4 pS4 g4
   have pS:=pS4.out
   have hb4:Below w3.heap.size w3 w4:=hbN.grown g4 hbN.size (fun k e=>by cases e;exact Nat.le_refl _)
   replace bw:=bel_trans bw hb4
   replace pP:=pP.below hb4
   replace hT:=hT.below hb4
   replace hV:=hV.below hb4
   clear pS4 g4 hbN pN hb4
   have fm:=(shape_fits9 hs).1
   have hT4:=hT
   have kE:=l03Enabled_is a9 3 cap rows ((t0a,t0n,t0c),(t1a,t1n,t1c),(t2a,t2n,t2c),(t3a,t3n,t3c)) m cs w4 rfl (hR.below bw) (hV.mem fm) hp hs
   rw [ut] at kE
   generalize w3.heap.size=X at *
   go_wp2_with (first | refine wpList_load_blk rfl 25 _ rfl w.heap.size rfl pP _ Tryd.underlying25 rfl (by kernel_rfl) ?_ | refine wpList_load_blk rfl 30 _ rfl X rfl pS _ Tryd.underlying30 rfl (by kernel_rfl) ?_)
   refine kE.mono ?_
   rintro e wi ⟨⟨⟨la,ln,lc⟩,rfl,hL⟩,hb⟩
   replace bw:=bel_trans bw hb
   replace pP:=pP.below hb
   replace pS:=pS.below hb
   replace hT:=hT.below hb
   replace hV:=hV.below hb
   clear hb kE
   have hLn:(enabM rows m 3).length=ln:=by have:=hL.1;simpa using this
   have st2:OnI w wi wi a9 cap rows i 0 m S (.slice (some ⟨g1,0,none⟩) (keysL S).length c1) (.slice (some ⟨g2,0,none⟩) (fromL S).length c2) (.slice (some ⟨g3,0,none⟩) (byL S).length c3) (.slice (some ⟨g1,0,none⟩) (keysL S).length c1) (.slice (some ⟨g2,0,none⟩) (fromL S).length c2) (.slice (some ⟨g3,0,none⟩) (byL S).length c3):=⟨hI6,hT,Off3.refl _ _ _ _,bw⟩
   go_wp2_with fail
   go_loopw [6,7,8,13] (fun s6 s7 s8 s13 wq=>∃ (j:Nat) (S':List (Rec6 V4)),s13=.int .i64 j∧OnI w wi wq a9 cap rows i j m S' (.slice (some ⟨g1,0,none⟩) (keysL S).length c1) (.slice (some ⟨g2,0,none⟩) (fromL S).length c2) (.slice (some ⟨g3,0,none⟩) (byL S).length c3) s6 s7 s8) (fun _ _ _ s13 _=>ln - (intOf s13).toNat)
   case atStart=>exact ⟨0,_,rfl,st2⟩
   case round =>
    clear st2 hI6 hO6
    obtain ⟨j,S',rfl,hJ6,hT9,hOf,bw9⟩:=hrel
    have hL0:=hL
    have hT40:=hT4
    replace hL:=hOf.ownI hL hT4 (Nat.le_refl _)
    replace hV:=hOf.ownV hV hT0 (Nat.le_refl _)
    replace pP:=hOf.blk pP hT (by decide) (by decide)
    replace pS:=hOf.blk pS hT (by decide) (by decide)
    clear bw hT0 hT4
    have bw:=bw9
    clear bw9
    have hS9:0<S'.length:=Nat.lt_of_le_of_lt (Nat.zero_le _) hJ6.at9
    have hl9:=hJ6.len
    obtain ⟨d1,e1,rfl,he1,_⟩:=own_some6 hT9.ks (by rw [keysL_len];exact hS9)
    obtain ⟨d2,e2,rfl,he2,_⟩:=own_some6 hT9.fr (by rw [fromL_len];exact hS9)
    obtain ⟨d3,e3,rfl,he3,_⟩:=own_some6 hT9.bw (by rw [byL_len];exact hS9)
    by_cases hlt2:j<ln
    ·have hkj:(enabM rows m 3)[j]?=some ((enabM rows m 3).getD j 0):=by rw [List.getD,List.getElem?_eq_getElem (by omega)];rfl
     have hz:=enab_halt (List.mem_of_getElem? hkj)
     obtain ⟨h0k,h2k,hd,_⟩:=halt_can hz
     obtain ⟨k,hk⟩:∃ k:Nat,(enabM rows m 3).getD j 0=(k:Int):=⟨_,(Int.toNat_of_nonneg h0k).symm⟩
     obtain ⟨lb,lo,rfl,hc,hlb⟩:=ints_cellS hL.ints (show j<ln from hlt2)
     rw [hk] at hkj hz hd h0k h2k hc
     rw [Int.toNat_natCast] at hd
     have hk3:k<3:=by omega
     have HKK:Hid ((enabM rows m 3).getD j 0=(k:Int)):=hk
     clear hk hlb
     have hx:=goM_shape hp hs hz
     have HO:Hid (keyT (goM rows m (k:Int)).1 ∈ keysL S'→In6 rows i (j+1) m S'):=fun h=>hJ6.old hkj hx h
     have HN:Hid (keyT (goM rows m (k:Int)).1 ∉ keysL S'→S'.length≠2000→In6 rows i (j+1) m (S'++[((goM rows m (k:Int)).1,i,(k:Int))])):=fun h h2=>hJ6.new hkj hx h h2
     have HL:Hid (keyT (goM rows m (k:Int)).1 ∉ keysL S'→S'.length=2000→2000<(fullS rows).length):=fun h h2=>hJ6.full hkj hx h h2
     have kP:=fun (W:World) (b:Below w.heap.size w W) (h:Vmem W ((t0a,t0n,t0c),(t1a,t1n,t1c),(t2a,t2n,t2c),(t3a,t3n,t3c)) m)=>l03Step_is (cap:=cap) rfl (hR.below b) h hp hs hk3 hd
     rw [← goM_nat,ut] at kP
     generalize goM rows m (k:Int)=zf at *
     obtain ⟨z,f⟩:=zf
     simp only at kP HO HN HL hx
     have hlt3:(j:Int)<(ln:Int):=by omega
     have hj0:(0:Int)≤(j:Int):=by omega
     have hj9:j<10:=by have:=enabM_len rows m 3;omega
     clear hkj hz hd hLn hJ6
     go_wp2_with fail
     have hb9:Below wr.heap.size wr wr.drew:=by go_grown
     refine wp_region_held_drew (S:=(fun w'=>w'.cell? ⟨w.heap.size,0,none⟩=some (.slice a9 3 cap)∧w'.cell? ⟨X,0,none⟩=some (.slice t0a t0n t0c)∧w'.cell? ⟨X,1,none⟩=some (.slice t1a t1n t1c)∧w'.cell? ⟨X,2,none⟩=some (.slice t2a t2n t2c)∧w'.cell? ⟨X,3,none⟩=some (.slice t3a t3n t3c)∧w'.cell? ⟨lb,lo+j,none⟩=some (.int .i64 (k:Int)))) (by kernel_rfl) ⟨by simpa using pP.cell 0,by simpa using pS.cell 0,by simpa using pS.cell 1,by simpa using pS.cell 2,by simpa using pS.cell 3,hc⟩ (fun hS0=>?_)
     refine tkm 0 46 (.agg #[.slice a9 3 cap]) ?_
     refine tkm 1 47 (.agg #[.slice t0a t0n t0c,.slice t1a t1n t1c,.slice t2a t2n t2c,.slice t3a t3n t3c]) ?_
     refine tkm 2 48 (.slice (some ⟨lb,lo,none⟩) ln lc) ?_
     refine tkm 3 49 (.int .i64 (j:Int)) ?_
     refine tkm 4 50 (.pointer (some ⟨lb,lo+j,none⟩)) ?_
     refine tkm 5 51 (.int .i64 (k:Int)) ?_
     replace bw:=bel_trans bw hb9
     replace pP:=pP.below hb9
     replace pS:=pS.below hb9
     replace hV:=hV.below hb9
     replace hT9:=hT9.below hb9
     replace hOf:=hOf.below hb9
     replace hL:=hL.below hb9
     replace hc:=cells_kept hb9 _ _ hc
     clear hb9
     generalize wr.drew=V at *
     refine wpAnyH_ready (rs:=[6,10]) (by kernel_rfl) (by simp) ?_
     refine AllReadyH.cons (o:=⟨some 52,_,_,_,_,_⟩) rfl (fun K hK=>?_) (AllReadyH.cons (o:=⟨some 14,_,_,_,_,_⟩) rfl (fun K hK=>?_) AllReadyH.nil)
     ·have kPx:=kP V bw (hV.mem fm)
      go_simp
      refine kPx.mono ?_
      rintro e V1 ⟨⟨⟨⟨z0a,z0n,z0c⟩,⟨z1a,z1n,z1c⟩,⟨z2a,z2n,z2c⟩,⟨z3a,z3n,z3c⟩⟩,rfl,hO2⟩,hb1⟩
      have uz:S4.val ((z0a,z0n,z0c),(z1a,z1n,z1c),(z2a,z2n,z2c),(z3a,z3n,z3c))=.agg #[.slice z0a z0n z0c,.slice z1a z1n z1c,.slice z2a z2n z2c,.slice z3a z3n z3c]:=rfl
      rw [uz]
      clear uz
      go_wp2_with fail
      refine hK.out _ _ ⟨cells_kept hb1 _ _ hS0.1,cells_kept hb1 _ _ hS0.2.1,cells_kept hb1 _ _ hS0.2.2.1,cells_kept hb1 _ _ hS0.2.2.2.1,cells_kept hb1 _ _ hS0.2.2.2.2.1,cells_kept hb1 _ _ hS0.2.2.2.2.2⟩ (fun hS5=>?_)
      clear hK kPx
      try simp only [Act.put,tka,tkb,tkc]
      refine tkm 7 45 (.tuple #[.agg #[.slice z0a z0n z0c,.slice z1a z1n z1c,.slice z2a z2n z2c,.slice z3a z3n z3c],.int .i64 f]) ?_
      refine tkm 8 53 (.agg #[.slice z0a z0n z0c,.slice z1a z1n z1c,.slice z2a z2n z2c,.slice z3a z3n z3c]) ?_
      refine tkm 9 54 (.int .i64 f) ?_
      refine tkr 10 14 (fun K hK=>?_)
      have hb2:Below V1.heap.size V1 (V1.alloc (.cells #[.slice none 0 0,.slice none 0 0,.slice none 0 0,.slice none 0 0] 30)):=by go_grown
      have pX:Blk (V1.alloc (.cells #[.slice none 0 0,.slice none 0 0,.slice none 0 0,.slice none 0 0] 30)) V1.heap.size 30 [.slice none 0 0,.slice none 0 0,.slice none 0 0,.slice none 0 0]:=blkAt _ _ _ rfl
      replace hO2:=hO2.below hb2
      have hbA:=bel_trans hb1 hb2
      have hYV:V.heap.size≤V1.heap.size:=hb1.size
      go_simp
      refine hK.out _ _ ⟨cells_kept hbA _ _ hS0.1,cells_kept hbA _ _ hS0.2.1,cells_kept hbA _ _ hS0.2.2.1,cells_kept hbA _ _ hS0.2.2.2.1,cells_kept hbA _ _ hS0.2.2.2.2.1,cells_kept hbA _ _ hS0.2.2.2.2.2⟩ (fun hS6=>?_)
      clear hK hb1 hb2
      generalize (V1.alloc (.cells #[.slice none 0 0,.slice none 0 0,.slice none 0 0,.slice none 0 0] 30))=V2 at *
      generalize V1.heap.size=Y at *
      try simp only [Act.put,tka,tkb,tkc]
      refine tkz 11 (fun K hK=>?_)
      refine step_store_blkD rfl 30 _ _ rfl Y [.slice z0a z0n z0c,.slice z1a z1n z1c,.slice z2a z2n z2c,.slice z3a z3n z3c] rfl rfl pX (by kernel_rfl) rfl rfl ?_
      intro V8 pX8 g8
      replace hO2:=hO2.kept9 g8 pX (by decide)
      have hbig:=hbA.grown g8 hbA.size (fun q hq=>by cases hq;exact hYV)
      refine hK.out _ _ ⟨cells_kept hbig _ _ hS0.1,cells_kept hbig _ _ hS0.2.1,cells_kept hbig _ _ hS0.2.2.1,cells_kept hbig _ _ hS0.2.2.2.1,cells_kept hbig _ _ hS0.2.2.2.2.1,cells_kept hbig _ _ hS0.2.2.2.2.2⟩ (fun hS7=>?_)
      clear hK pX g8 hbA hYV
      have pX:=pX8.out
      clear pX8
      try simp only [Act.put,tka,tkb,tkc]
      refine tkm 12 15 (.int .i64 f) ?_
      refine wpAnyH_done (by kernel_rfl) ?_ _
      replace bw:=bel_trans bw hbig
      replace hT9:=hT9.below hbig
      replace hOf:=hOf.below hbig
      clear hbig hS0 hS5 hS6 hS7 pP pS hV kP hc
      have fz:=(shape_fits9 hx).1
      have kK:=l03Key_is ((z0a,z0n,z0c),(z1a,z1n,z1c),(z2a,z2n,z2c),(z3a,z3n,z3c)) z V8 (hO2.mem fz) hx
      have uz:S4.val ((z0a,z0n,z0c),(z1a,z1n,z1c),(z2a,z2n,z2c),(z3a,z3n,z3c))=.agg #[.slice z0a z0n z0c,.slice z1a z1n z1c,.slice z2a z2n z2c,.slice z3a z3n z3c]:=rfl
      rw [uz] at kK
      clear uz
      go_wp2_with (first | refine wpList_load_blk rfl 30 _ rfl Y rfl pX _ Tryd.underlying30 rfl (by kernel_rfl) ?_)
      refine kK.mono ?_
      rintro e Va ⟨rfl,hb⟩
      replace bw:=bel_trans bw hb
      replace hT9:=hT9.below hb
      replace hOf:=hOf.below hb
      clear hb kK pX hO2 fz hx
      have HKA:Hid (keysL (S'++[(z,i,(k:Int))])=keysL S'++[keyT z]):=keysL_app _ _
      have HFA:Hid (fromL (S'++[(z,i,(k:Int))])=fromL S'++[(i:Int)]):=fromL_app (List.length_pos_iff.1 hS9) _
      have HBA:Hid (byL (S'++[(z,i,(k:Int))])=byL S'++[(k:Int)]):=byL_app (List.length_pos_iff.1 hS9) _
      generalize S'++[(z,i,(k:Int))]=S2 at *
      generalize keyT z=key at *
      have kF:=l06Find_is (some ⟨d1,0,none⟩) (keysL S').length e1 (keysL S') key Va (strs6 hT9.ks) (by rw [keysL_len];omega)
      have hfi:=findT_iff (ts:=keysL S') (t:=key) (keysL S').length (Nat.le_refl _)
      rw [List.take_length] at hfi
      generalize findT (keysL S') key (keysL S').length=fd at *
      have KL:Hid ((keysL S').length=S'.length):=keysL_len _
      have FL:Hid ((fromL S').length=S'.length):=fromL_len _
      have BL:Hid ((byL S').length=S'.length):=byL_len _
      go_wp2_with fail
      refine kF.mono ?_
      rintro e Vb ⟨rfl,rfl⟩
      clear kF
      by_cases hmem:key ∈ keysL S'
      ·have hfd:0≤fd:=hfi.2 hmem
       have st3:OnI w wi Va a9 cap rows i (j+1) m S' (.slice (some ⟨g1,0,none⟩) (keysL S).length c1) (.slice (some ⟨g2,0,none⟩) (fromL S).length c2) (.slice (some ⟨g3,0,none⟩) (byL S).length c3) (.slice (some ⟨d1,0,none⟩) (keysL S').length e1) (.slice (some ⟨d2,0,none⟩) (fromL S').length e2) (.slice (some ⟨d3,0,none⟩) (byL S').length e3):=⟨HO.out hmem,hT9,hOf,bw⟩
       clear hfi hmem HO HN HL HKA HFA HBA hT9 hOf bw KL FL BL hS9 hl9
       go_wp2
       go_roundw
       case rel=>exact ⟨j+1,_,by go_num,st3⟩
       case measure=>simp [intOf];omega
      ·by_cases hfull:S'.length=2000
       ·have hfd:¬ 0≤fd:=fun h=>hmem (hfi.1 h)
        have hln:2000<(fullS rows).length:=HL.out hmem hfull
        have hdd:decide ((fullS rows).length≤2000)=false:=decide_eq_false (by omega)
        have hq1:(((keysL S').length:Int) == 2000)=true:=by rw [KL.out,hfull];rfl
        have hq2:decide (((keysL S').length:Int)=2000)=true:=by rw [KL.out,hfull];rfl
        have HG:StsGot (.returned (.tuple #[.slice (some ⟨d1,0,none⟩) (keysL S').length e1,.slice (some ⟨d2,0,none⟩) (fromL S').length e2,.slice (some ⟨d3,0,none⟩) (byL S').length e3,.bool false])) Va w.heap.size (fullS rows):=⟨_,_,_,_,_,_,by rw [hdd],hT9,fun h9=>by omega⟩
        clear hfi hmem HO HN HL HKA HFA HBA hT9 hOf hln hdd hfull KL FL BL hS9 hl9
        go_wp2
        refine bodyPost_ret (by simp [results,Tryd.results80,go_sem];try rfl) rfl ?_
        exact ⟨HG,bw⟩
       ·have hfd:¬ 0≤fd:=fun h=>hmem (hfi.1 h)
        have hq1:(((keysL S').length:Int) == 2000)=false:=by rw [KL.out];exact beq_false_of_ne (by omega)
        have hq2:decide (((keysL S').length:Int)=2000)=false:=decide_eq_false (by rw [KL.out];omega)
        have HM:Hid (In6 rows i (j+1) m S2):=HN.out hmem hfull
        clear HO HN HL hfi hmem hfull
        go_wp2_with (at_builtin;refine wpList_append_own_at _ rfl _ _ 135 rfl w.heap.size 9 i1 (.string ⟨#[]⟩) 1 16 Tryd.underlying135 hi8 hy0 hy1 hy2 rfl (by decide) _ _ _ rfl (hT9.ks.alloc _) ⟨Va.heap.size,0,none⟩ 1 1 [.string key] rfl rfl (cell_one_new _ _ _) (one_str6 _) ?c3 ?c4 ?c5 ?_)
        case c3=>rw [KL.out];unfold maxLen;omega
        case c4=>rw [KL.out];omega
        case c5=>have:=bw.size;simp;omega
        intro v1 Vc q1 gr1 nil1 at1
        have ha:Below Va.heap.size Va (Va.alloc (.cells #[.string key] 9)):=by go_grown
        have blo:=fun g e=>(own_lt3 hT9.ks (g:=g) e).1
        replace bw:=(bel_trans bw ha).grown gr1 (bel_trans bw ha).size (fun g e=>blo g e)
        have at1':v1.ownBlock=(Value.slice (some ⟨d1,0,none⟩) (keysL S').length e1).ownBlock∨v1.ownBlock=some (Va.alloc (.cells #[.string key] 9)).heap.size:=by rw [World.size_alloc];exact at1
        replace hOf:=(hOf.below ha).put1 gr1 at1'
        replace hT9:=(hT9.below ha).put1 (row_str6 q1) gr1
        clear ha blo q1 gr1 nil1 at1 at1'
        clear hfd hq1 hq2
        go_wp2_with (at_builtin;refine wpList_append_own_at _ rfl _ _ 27 rfl w.heap.size 3 i0 (.int .i64 0) 1 8 Tryd.underlying27 hi9 hz0 hz1 hz2 rfl (by decide) _ _ _ rfl (hT9.fr.alloc _) ⟨Vc.heap.size,0,none⟩ 1 1 [.int .i64 (i:Int)] rfl rfl (cell_one_new _ _ _) (one_int6 _) ?c3 ?c4 ?c5 ?_)
        case c3=>rw [FL.out];unfold maxLen;omega
        case c4=>rw [FL.out];omega
        case c5=>have:=bw.size;simp;omega
        intro v2 Vd q2 gr2 nil2 at2
        have ha:Below Vc.heap.size Vc (Vc.alloc (.cells #[.int .i64 (i:Int)] 3)):=by go_grown
        have blo:=fun g e=>(own_lt3 hT9.fr (g:=g) e).1
        replace bw:=(bel_trans bw ha).grown gr2 (bel_trans bw ha).size (fun g e=>blo g e)
        have at2':v2.ownBlock=(Value.slice (some ⟨d2,0,none⟩) (fromL S').length e2).ownBlock∨v2.ownBlock=some (Vc.alloc (.cells #[.int .i64 (i:Int)] 3)).heap.size:=by rw [World.size_alloc];exact at2
        replace hOf:=(hOf.below ha).put2 gr2 at2'
        replace hT9:=(hT9.below ha).put2 (row_int6 q2) gr2 at2'
        clear ha blo q2 gr2 nil2 at2 at2'
        obtain ⟨lb9,lo9,e9,hc,hlb⟩:=ints_cellS (hOf.ownI hL0 hT40 (Nat.le_refl _)).ints (show j<ln from hlt2)
        cases e9
        rw [HKK.out] at hc
        clear hlb
        go_wp2_with (at_builtin;refine wpList_append_own_at _ rfl _ _ 27 rfl w.heap.size 3 i0 (.int .i64 0) 1 8 Tryd.underlying27 hi9 hz0 hz1 hz2 rfl (by decide) _ _ _ rfl (hT9.bw.alloc _) ⟨Vd.heap.size,0,none⟩ 1 1 [.int .i64 (k:Int)] rfl rfl (cell_one_new _ _ _) (one_int6 _) ?c3 ?c4 ?c5 ?_)
        case c3=>rw [BL.out];unfold maxLen;omega
        case c4=>rw [BL.out];omega
        case c5=>have:=bw.size;simp;omega
        intro v3 Ve q3 gr3 nil3 at3
        have ha:Below Vd.heap.size Vd (Vd.alloc (.cells #[.int .i64 (k:Int)] 3)):=by go_grown
        have blo:=fun g e=>(own_lt3 hT9.bw (g:=g) e).1
        replace bw:=(bel_trans bw ha).grown gr3 (bel_trans bw ha).size (fun g e=>blo g e)
        have at3':v3.ownBlock=(Value.slice (some ⟨d3,0,none⟩) (byL S').length e3).ownBlock∨v3.ownBlock=some (Vd.alloc (.cells #[.int .i64 (k:Int)] 3)).heap.size:=by rw [World.size_alloc];exact at3
        replace hOf:=(hOf.below ha).put3 gr3 at3'
        replace hT9:=(hT9.below ha).put3 (row_int6 q3) gr3 at3'
        clear ha blo q3 gr3 nil3 at3 at3'
        rw [← HKA.out,← HFA.out,← HBA.out] at hT9
        have st3:OnI w wi Ve a9 cap rows i (j+1) m S2 (.slice (some ⟨g1,0,none⟩) (keysL S).length c1) (.slice (some ⟨g2,0,none⟩) (fromL S).length c2) (.slice (some ⟨g3,0,none⟩) (byL S).length c3) v1 v2 v3:=⟨HM.out,hT9,hOf,bw⟩
        clear hT9 hOf bw HM HKA HFA HBA KL FL BL hc hS9 hl9
        go_wp2
        go_roundw
        case rel=>exact ⟨j+1,_,by go_num,st3⟩
        case measure=>simp [intOf];omega
     ·have hb1:Below V.heap.size V (V.alloc (.cells #[.slice none 0 0,.slice none 0 0,.slice none 0 0,.slice none 0 0] 30)):=by go_grown
      have pX:Blk (V.alloc (.cells #[.slice none 0 0,.slice none 0 0,.slice none 0 0,.slice none 0 0] 30)) V.heap.size 30 [.slice none 0 0,.slice none 0 0,.slice none 0 0,.slice none 0 0]:=blkAt _ _ _ rfl
      have hYV:V.heap.size≤V.heap.size:=Nat.le_refl _
      go_simp
      refine hK.out _ _ ⟨cells_kept hb1 _ _ hS0.1,cells_kept hb1 _ _ hS0.2.1,cells_kept hb1 _ _ hS0.2.2.1,cells_kept hb1 _ _ hS0.2.2.2.1,cells_kept hb1 _ _ hS0.2.2.2.2.1,cells_kept hb1 _ _ hS0.2.2.2.2.2⟩ (fun hS6=>?_)
      clear hK
      have kPx:=kP _ (bel_trans bw hb1) ((hV.below hb1).mem fm)
      generalize (V.alloc (.cells #[.slice none 0 0,.slice none 0 0,.slice none 0 0,.slice none 0 0] 30))=V2 at *
      obtain ⟨Y,hY⟩:∃ Y,Y=V.heap.size:=⟨_,rfl⟩
      rw [← hY] at pX hYV ⊢
      replace hYV:V.heap.size≤Y:=by omega
      clear hY
      try simp only [Act.put,tka,tkb,tkc]
      refine tkr 6 52 (fun K hK=>?_)
      go_simp
      refine kPx.mono ?_
      rintro e V3 ⟨⟨⟨⟨z0a,z0n,z0c⟩,⟨z1a,z1n,z1c⟩,⟨z2a,z2n,z2c⟩,⟨z3a,z3n,z3c⟩⟩,rfl,hO2⟩,hb2⟩
      have uz:S4.val ((z0a,z0n,z0c),(z1a,z1n,z1c),(z2a,z2n,z2c),(z3a,z3n,z3c))=.agg #[.slice z0a z0n z0c,.slice z1a z1n z1c,.slice z2a z2n z2c,.slice z3a z3n z3c]:=rfl
      rw [uz]
      clear uz
      go_wp2_with fail
      have hbA:=bel_trans hb1 hb2
      replace pX:=pX.below hb2
      refine hK.out _ _ ⟨cells_kept hbA _ _ hS0.1,cells_kept hbA _ _ hS0.2.1,cells_kept hbA _ _ hS0.2.2.1,cells_kept hbA _ _ hS0.2.2.2.1,cells_kept hbA _ _ hS0.2.2.2.2.1,cells_kept hbA _ _ hS0.2.2.2.2.2⟩ (fun hS5=>?_)
      clear hK kPx hb1 hb2
      try simp only [Act.put,tka,tkb,tkc]
      refine tkm 7 45 (.tuple #[.agg #[.slice z0a z0n z0c,.slice z1a z1n z1c,.slice z2a z2n z2c,.slice z3a z3n z3c],.int .i64 f]) ?_
      refine tkm 8 53 (.agg #[.slice z0a z0n z0c,.slice z1a z1n z1c,.slice z2a z2n z2c,.slice z3a z3n z3c]) ?_
      refine tkm 9 54 (.int .i64 f) ?_
      refine tkz 11 (fun K hK=>?_)
      refine step_store_blkD rfl 30 _ _ rfl Y [.slice z0a z0n z0c,.slice z1a z1n z1c,.slice z2a z2n z2c,.slice z3a z3n z3c] rfl rfl pX (by kernel_rfl) rfl rfl ?_
      intro V8 pX8 g8
      replace hO2:=hO2.kept9 g8 pX (by decide)
      have hbig:=hbA.grown g8 hbA.size (fun q hq=>by cases hq;exact hYV)
      refine hK.out _ _ ⟨cells_kept hbig _ _ hS0.1,cells_kept hbig _ _ hS0.2.1,cells_kept hbig _ _ hS0.2.2.1,cells_kept hbig _ _ hS0.2.2.2.1,cells_kept hbig _ _ hS0.2.2.2.2.1,cells_kept hbig _ _ hS0.2.2.2.2.2⟩ (fun hS7=>?_)
      clear hK pX g8 hbA hYV
      have pX:=pX8.out
      clear pX8
      try simp only [Act.put,tka,tkb,tkc]
      refine tkm 12 15 (.int .i64 f) ?_
      refine wpAnyH_done (by kernel_rfl) ?_ _
      replace bw:=bel_trans bw hbig
      replace hT9:=hT9.below hbig
      replace hOf:=hOf.below hbig
      clear hbig hS0 hS5 hS6 hS7 pP pS hV kP hc
      have fz:=(shape_fits9 hx).1
      have kK:=l03Key_is ((z0a,z0n,z0c),(z1a,z1n,z1c),(z2a,z2n,z2c),(z3a,z3n,z3c)) z V8 (hO2.mem fz) hx
      have uz:S4.val ((z0a,z0n,z0c),(z1a,z1n,z1c),(z2a,z2n,z2c),(z3a,z3n,z3c))=.agg #[.slice z0a z0n z0c,.slice z1a z1n z1c,.slice z2a z2n z2c,.slice z3a z3n z3c]:=rfl
      rw [uz] at kK
      clear uz
      go_wp2_with (first | refine wpList_load_blk rfl 30 _ rfl Y rfl pX _ Tryd.underlying30 rfl (by kernel_rfl) ?_)
      refine kK.mono ?_
      rintro e Va ⟨rfl,hb⟩
      replace bw:=bel_trans bw hb
      replace hT9:=hT9.below hb
      replace hOf:=hOf.below hb
      clear hb kK pX hO2 fz hx
      have HKA:Hid (keysL (S'++[(z,i,(k:Int))])=keysL S'++[keyT z]):=keysL_app _ _
      have HFA:Hid (fromL (S'++[(z,i,(k:Int))])=fromL S'++[(i:Int)]):=fromL_app (List.length_pos_iff.1 hS9) _
      have HBA:Hid (byL (S'++[(z,i,(k:Int))])=byL S'++[(k:Int)]):=byL_app (List.length_pos_iff.1 hS9) _
      generalize S'++[(z,i,(k:Int))]=S2 at *
      generalize keyT z=key at *
      have kF:=l06Find_is (some ⟨d1,0,none⟩) (keysL S').length e1 (keysL S') key Va (strs6 hT9.ks) (by rw [keysL_len];omega)
      have hfi:=findT_iff (ts:=keysL S') (t:=key) (keysL S').length (Nat.le_refl _)
      rw [List.take_length] at hfi
      generalize findT (keysL S') key (keysL S').length=fd at *
      have KL:Hid ((keysL S').length=S'.length):=keysL_len _
      have FL:Hid ((fromL S').length=S'.length):=fromL_len _
      have BL:Hid ((byL S').length=S'.length):=byL_len _
      go_wp2_with fail
      refine kF.mono ?_
      rintro e Vb ⟨rfl,rfl⟩
      clear kF
      by_cases hmem:key ∈ keysL S'
      ·have hfd:0≤fd:=hfi.2 hmem
       have st3:OnI w wi Va a9 cap rows i (j+1) m S' (.slice (some ⟨g1,0,none⟩) (keysL S).length c1) (.slice (some ⟨g2,0,none⟩) (fromL S).length c2) (.slice (some ⟨g3,0,none⟩) (byL S).length c3) (.slice (some ⟨d1,0,none⟩) (keysL S').length e1) (.slice (some ⟨d2,0,none⟩) (fromL S').length e2) (.slice (some ⟨d3,0,none⟩) (byL S').length e3):=⟨HO.out hmem,hT9,hOf,bw⟩
       clear hfi hmem HO HN HL HKA HFA HBA hT9 hOf bw KL FL BL hS9 hl9
       go_wp2
       go_roundw
       case rel=>exact ⟨j+1,_,by go_num,st3⟩
       case measure=>simp [intOf];omega
      ·by_cases hfull:S'.length=2000
       ·have hfd:¬ 0≤fd:=fun h=>hmem (hfi.1 h)
        have hln:2000<(fullS rows).length:=HL.out hmem hfull
        have hdd:decide ((fullS rows).length≤2000)=false:=decide_eq_false (by omega)
        have hq1:(((keysL S').length:Int) == 2000)=true:=by rw [KL.out,hfull];rfl
        have hq2:decide (((keysL S').length:Int)=2000)=true:=by rw [KL.out,hfull];rfl
        have HG:StsGot (.returned (.tuple #[.slice (some ⟨d1,0,none⟩) (keysL S').length e1,.slice (some ⟨d2,0,none⟩) (fromL S').length e2,.slice (some ⟨d3,0,none⟩) (byL S').length e3,.bool false])) Va w.heap.size (fullS rows):=⟨_,_,_,_,_,_,by rw [hdd],hT9,fun h9=>by omega⟩
        clear hfi hmem HO HN HL HKA HFA HBA hT9 hOf hln hdd hfull KL FL BL hS9 hl9
        go_wp2
        refine bodyPost_ret (by simp [results,Tryd.results80,go_sem];try rfl) rfl ?_
        exact ⟨HG,bw⟩
       ·have hfd:¬ 0≤fd:=fun h=>hmem (hfi.1 h)
        have hq1:(((keysL S').length:Int) == 2000)=false:=by rw [KL.out];exact beq_false_of_ne (by omega)
        have hq2:decide (((keysL S').length:Int)=2000)=false:=decide_eq_false (by rw [KL.out];omega)
        have HM:Hid (In6 rows i (j+1) m S2):=HN.out hmem hfull
        clear HO HN HL hfi hmem hfull
        go_wp2_with (at_builtin;refine wpList_append_own_at _ rfl _ _ 135 rfl w.heap.size 9 i1 (.string ⟨#[]⟩) 1 16 Tryd.underlying135 hi8 hy0 hy1 hy2 rfl (by decide) _ _ _ rfl (hT9.ks.alloc _) ⟨Va.heap.size,0,none⟩ 1 1 [.string key] rfl rfl (cell_one_new _ _ _) (one_str6 _) ?c3 ?c4 ?c5 ?_)
        case c3=>rw [KL.out];unfold maxLen;omega
        case c4=>rw [KL.out];omega
        case c5=>have:=bw.size;simp;omega
        intro v1 Vc q1 gr1 nil1 at1
        have ha:Below Va.heap.size Va (Va.alloc (.cells #[.string key] 9)):=by go_grown
        have blo:=fun g e=>(own_lt3 hT9.ks (g:=g) e).1
        replace bw:=(bel_trans bw ha).grown gr1 (bel_trans bw ha).size (fun g e=>blo g e)
        have at1':v1.ownBlock=(Value.slice (some ⟨d1,0,none⟩) (keysL S').length e1).ownBlock∨v1.ownBlock=some (Va.alloc (.cells #[.string key] 9)).heap.size:=by rw [World.size_alloc];exact at1
        replace hOf:=(hOf.below ha).put1 gr1 at1'
        replace hT9:=(hT9.below ha).put1 (row_str6 q1) gr1
        clear ha blo q1 gr1 nil1 at1 at1'
        clear hfd hq1 hq2
        go_wp2_with (at_builtin;refine wpList_append_own_at _ rfl _ _ 27 rfl w.heap.size 3 i0 (.int .i64 0) 1 8 Tryd.underlying27 hi9 hz0 hz1 hz2 rfl (by decide) _ _ _ rfl (hT9.fr.alloc _) ⟨Vc.heap.size,0,none⟩ 1 1 [.int .i64 (i:Int)] rfl rfl (cell_one_new _ _ _) (one_int6 _) ?c3 ?c4 ?c5 ?_)
        case c3=>rw [FL.out];unfold maxLen;omega
        case c4=>rw [FL.out];omega
        case c5=>have:=bw.size;simp;omega
        intro v2 Vd q2 gr2 nil2 at2
        have ha:Below Vc.heap.size Vc (Vc.alloc (.cells #[.int .i64 (i:Int)] 3)):=by go_grown
        have blo:=fun g e=>(own_lt3 hT9.fr (g:=g) e).1
        replace bw:=(bel_trans bw ha).grown gr2 (bel_trans bw ha).size (fun g e=>blo g e)
        have at2':v2.ownBlock=(Value.slice (some ⟨d2,0,none⟩) (fromL S').length e2).ownBlock∨v2.ownBlock=some (Vc.alloc (.cells #[.int .i64 (i:Int)] 3)).heap.size:=by rw [World.size_alloc];exact at2
        replace hOf:=(hOf.below ha).put2 gr2 at2'
        replace hT9:=(hT9.below ha).put2 (row_int6 q2) gr2 at2'
        clear ha blo q2 gr2 nil2 at2 at2'
        obtain ⟨lb9,lo9,e9,hc,hlb⟩:=ints_cellS (hOf.ownI hL0 hT40 (Nat.le_refl _)).ints (show j<ln from hlt2)
        cases e9
        rw [HKK.out] at hc
        clear hlb
        go_wp2_with (at_builtin;refine wpList_append_own_at _ rfl _ _ 27 rfl w.heap.size 3 i0 (.int .i64 0) 1 8 Tryd.underlying27 hi9 hz0 hz1 hz2 rfl (by decide) _ _ _ rfl (hT9.bw.alloc _) ⟨Vd.heap.size,0,none⟩ 1 1 [.int .i64 (k:Int)] rfl rfl (cell_one_new _ _ _) (one_int6 _) ?c3 ?c4 ?c5 ?_)
        case c3=>rw [BL.out];unfold maxLen;omega
        case c4=>rw [BL.out];omega
        case c5=>have:=bw.size;simp;omega
        intro v3 Ve q3 gr3 nil3 at3
        have ha:Below Vd.heap.size Vd (Vd.alloc (.cells #[.int .i64 (k:Int)] 3)):=by go_grown
        have blo:=fun g e=>(own_lt3 hT9.bw (g:=g) e).1
        replace bw:=(bel_trans bw ha).grown gr3 (bel_trans bw ha).size (fun g e=>blo g e)
        have at3':v3.ownBlock=(Value.slice (some ⟨d3,0,none⟩) (byL S').length e3).ownBlock∨v3.ownBlock=some (Vd.alloc (.cells #[.int .i64 (k:Int)] 3)).heap.size:=by rw [World.size_alloc];exact at3
        replace hOf:=(hOf.below ha).put3 gr3 at3'
        replace hT9:=(hT9.below ha).put3 (row_int6 q3) gr3 at3'
        clear ha blo q3 gr3 nil3 at3 at3'
        rw [← HKA.out,← HFA.out,← HBA.out] at hT9
        have st3:OnI w wi Ve a9 cap rows i (j+1) m S2 (.slice (some ⟨g1,0,none⟩) (keysL S).length c1) (.slice (some ⟨g2,0,none⟩) (fromL S).length c2) (.slice (some ⟨g3,0,none⟩) (byL S).length c3) v1 v2 v3:=⟨HM.out,hT9,hOf,bw⟩
        clear hT9 hOf bw HM HKA HFA HBA KL FL BL hc hS9 hl9
        go_wp2
        go_roundw
        case rel=>exact ⟨j+1,_,by go_num,st3⟩
        case measure=>simp [intOf];omega
    ·have hge2:¬ (j:Int)<(ln:Int):=by omega
     have hO7:=hJ6.fin (show (enabM rows m 3).length≤j by omega)
     have st4:OnO w wr a9 cap rows (i+1) S' (.slice (some ⟨d1,0,none⟩) (keysL S').length e1) (.slice (some ⟨d2,0,none⟩) (fromL S').length e2) (.slice (some ⟨d3,0,none⟩) (byL S').length e3):=⟨hO7,hT9,bw,pP⟩
     clear hO7 hT9 bw pP pS hV hL hJ6 hOf hT
     go_wp2
     go_roundw
     case rel=>exact ⟨i+1,_,by go_num,st4⟩
     case measure=>simp [intOf];omega
  ·have hfe:=hO6.fin (by omega)
   have hge:¬ (i:Int)<((keysL S).length:Int):=by have:=HEI.out;omega
   have hd:decide ((fullS rows).length≤2000)=true:=by rw [hfe];exact decide_eq_true hl2
   have HG:StsGot (.returned (.tuple #[.slice (some ⟨g1,0,none⟩) (keysL S).length c1,.slice (some ⟨g2,0,none⟩) (fromL S).length c2,.slice (some ⟨g3,0,none⟩) (byL S).length c3,.bool true])) wr w.heap.size (fullS rows):=⟨_,_,_,_,_,_,by rw [hd],hT,fun _=>by rw [hfe];exact ⟨rfl,rfl,rfl⟩⟩
   clear hfe hd hT hO6 pP HEI hl2 hc1 hc2 hc3 hS0 hlt
   go_wp2
   refine bodyPost_ret (by simp [results,Tryd.results80,go_sem];try rfl) rfl ?_
   exact ⟨HG,bw⟩

def CutF (w W:World) (c:Int) (s4 s5:Value):Prop:=∃ X,s4=.pointer (some ⟨X,0,none⟩)∧s5=.int .i64 c∧Below w.heap.size w W
def CutK (w W:World) (cs:Sl × Sl × Sl) (rows:List (List I3)) (F:List (Rec6 V4)) (s4 s5:Value):Prop:=
 ∃ X va vc nb L,s4=.pointer (some ⟨X,0,none⟩)∧s5=.int .i64 0∧Blk W X 147 [.slice va L.length vc,.map (some nb)]∧SpcD W w.heap.size nb (.slice va L.length vc) cs (mvsOf rows F) L L.length∧L.map (·.1)=F∧w.heap.size≤X∧Below w.heap.size w W
theorem SpcD.lower {w:World} {B B' nb d:Nat} {vs:Value} {cs:Sl × Sl × Sl} {M:V4→List I4} {L:List (Rec6 V4 × Value)} (h:SpcD w B nb vs cs M L d) (hB:B'≤B):SpcD w B' nb vs cs M L d:=
 ⟨own_lower h.row hB,h.map,fun i r mv h1 h2=>own_lower (h.mvs i r mv h1 h2) hB,h.nil,Nat.le_trans hB h.low⟩
theorem CutK.mk9 {w W:World} {cs:Sl × Sl × Sl} {rows:List (List I3)} {F:List (Rec6 V4)} {s4 s5 va vs:Value} {X nb B:Nat} {L:List (Rec6 V4 × Value)} (h4:s4=.pointer (some ⟨X,0,none⟩)) (h5:s5=.int .i64 0) (hX:Blk W X 147 [vs,.map (some nb)]) (sp:SpcD W B nb vs cs (mvsOf rows F) L L.length) (hL:L.map (·.1)=F) (hBX:w.heap.size≤X) (hB:w.heap.size≤B) (b:Below w.heap.size w W):CutK w W cs rows F s4 s5:=by
 obtain ⟨va,vn,vc,rfl⟩:=own_slice6 sp.row
 obtain rfl:vn=L.length:=by
  rcases sp.row.2 with ⟨h1,h2⟩ | ⟨gq,cq,cur,h1,_⟩
  ·cases h1;exact h2.symm
  ·cases h1;rfl
 exact ⟨X,va,vc,nb,L,h4,h5,hX,sp.lower hB,hL,hBX,b⟩

def codeF (rows:List (List I3)):Int:=if progOk rows then (if (fullS rows).length≤2000 then 0 else 15) else 1
theorem spaceOf_not (a:Option Addr) (len cap:Nat) (rows:List (List I3)) (s:S4) (w:World) (hC:Codes w a len cap rows) (h:Vmem w s zeroV) (hV:VmShape w) (hc:codeF rows≠0) :
  Calls Tryd.prog 88 #[.agg #[.slice a len cap],s.val] w fun e w'=>e=.returned (.tuple #[.agg #[.slice none 0 0,.map none],.int .i64 (codeF rows)])∧Below w.heap.size w w':=by
 unfold codeF at hc ⊢
 cases hp:progOk rows
 ·exact spaceOf_bad a len cap rows s zeroV w hC h hV (by rw [hp];rfl)
 ·rw [hp] at hc
  by_cases hf:(fullS rows).length≤2000
  ·rw [if_pos rfl,if_pos hf] at hc
   exact absurd rfl hc
  ·rw [if_pos rfl,if_neg hf]
   refine (spaceOf_is a len cap rows s w hC h hV hp).mono fun e w' h=>?_
   rw [if_neg hf] at h
   exact h
theorem spaceOf_yes (a:Option Addr) (len cap:Nat) (rows:List (List I3)) (s:S4) (w:World) (hC:Codes w a len cap rows) (h:Vmem w s zeroV) (hV:VmShape w) (hp:progOk rows=true) (hf:(fullS rows).length≤2000) :
  Calls Tryd.prog 88 #[.agg #[.slice a len cap],s.val] w fun e w'=>SpcGot e w w' a rows (fullS rows):=by
 refine (spaceOf_is a len cap rows s w hC h hV hp).mono fun e w' h=>?_
 rw [if_pos hf] at h
 exact h
theorem code_parts {rows:List (List I3)} (h:codeF rows=0):progOk rows=true∧(fullS rows).length≤2000:=by
 unfold codeF at h
 cases hp:progOk rows
 ·rw [hp] at h;simp at h
 ·rw [hp] at h
  by_cases hf:(fullS rows).length≤2000
  ·exact ⟨rfl,hf⟩
  ·rw [if_pos rfl,if_neg hf] at h
   simp at h
theorem SpcD.strgrown {W W':World} {B B' nb d n e s:Nat} {vs v:Value} {cs:Sl × Sl × Sl} {M:V4→List I4} {L:List (Rec6 V4 × Value)} {xs:List Value} (h:SpcD W B nb vs cs M L d) (ho:W.ownsRow B' e s v n xs) (gr:W.grownBy W' v.ownBlock) (h1:183≠e:=by decide) (h2:185≠e:=by decide):SpcD W' B nb vs cs M L d:=by
 obtain ⟨D,hm,hn⟩:=h.map
 exact ⟨h.row.kept gr (Ap3.types h.row ho h1).or,⟨D,hm.kept gr (fun e=>map_own hm ho e.symm),hn⟩,fun i r mv' hi hr=>(h.mvs i r mv' hi hr).kept gr (Ap3.types (h.mvs i r mv' hi hr) ho h2).or,h.nil,h.low⟩


def CtOk (rows:List (List I3)) (L:List (Rec6 V4 × Value)) (cts:List Int):Prop:=cts.length=L.length∧∀ i r mv,L[i]?=some (r,mv)→cts.getD i 0=0∨cts.getD i 0=(cntM rows r.1:Int)
theorem CtOk.put {rows:List (List I3)} {L:List (Rec6 V4 × Value)} {cts:List Int} (h:CtOk rows L cts) {at9:Nat} {r:Rec6 V4} {mv:Value} (hr:L[at9]?=some (r,mv)):CtOk rows L (cts.set at9 (cntM rows r.1:Int)):=by
 have hl:at9<L.length:=(List.getElem?_eq_some_iff.1 hr).1
 refine ⟨by simp [h.1],fun i r' mv' hi=>?_⟩
 by_cases e:at9=i
 ·subst e
  rw [hr] at hi
  cases hi
  right
  simp [List.getD,h.1,hl]
 ·have:=h.2 i r' mv' hi
  simp only [List.getD,List.getElem?_set_ne e] at this ⊢
  exact this
def RunsGot (e:Ending) (w w':World) (rows:List (List I3)) (L:List (Rec6 V4 × Value)) (Bc g c:Nat) (m:V4):Prop:=
 ∃ cts',e=.returned (.int .i64 (cntM rows m:Int))∧OwnI w' Bc (some ⟨g,0,none⟩,L.length,c) cts'∧CtOk rows L cts'∧w.grownBy w' (some g)
def RunsC (rows:List (List I3)) (L:List (Rec6 V4 × Value)) (X nb vc B Bc g c:Nat) (va:Option Addr) (cs:Sl × Sl × Sl) (at9:Nat) (m:V4):Prop:=∀ (w:World) (cts:List Int),SpcD w B nb (.slice va L.length vc) cs (mvsOf rows (L.map (·.1))) L L.length→Blk w X 147 [.slice va L.length vc,.map (some nb)]→OwnI w Bc (some ⟨g,0,none⟩,L.length,c) cts→CtOk rows L cts →
 Calls Tryd.prog 89 #[.pointer (some ⟨X,0,none⟩),.int .i64 at9,.slice (some ⟨g,0,none⟩) L.length c] w fun e w'=>RunsGot e w w' rows L Bc g c m
def sumC (rows:List (List I3)) (m:V4) (j:Nat):Nat:=((enabM rows m 3).take j).foldl (fun s k=>capN (s+cntM rows (goM rows m k).1)) 0
theorem sumC_zero (rows:List (List I3)) (m:V4):sumC rows m 0=0:=by simp [sumC]
theorem sumC_succ {rows:List (List I3)} {m:V4} {j:Nat} {k:Int} (h:(enabM rows m 3)[j]?=some k):sumC rows m (j+1)=capN (sumC rows m j+cntM rows (goM rows m k).1):=by
 unfold sumC
 rw [List.take_add_one,h]
 simp [List.foldl_append]
theorem sumC_all {rows:List (List I3)} (hp:progOk rows=true) {m:V4} (hs:shapeOk m=true) (hne:enabM rows m 3≠[]) {j:Nat} (hj:(enabM rows m 3).length≤j):sumC rows m j=cntM rows m:=by
 unfold sumC
 rw [List.take_of_length_le hj,cap_fold _ _ _ (by decide),cnt_eq hp hs,if_neg hne,Nat.zero_add]
theorem sumC_le (rows:List (List I3)) (m:V4) (j:Nat):sumC rows m j≤1000000:=by
 cases j with
 | zero=>rw [sumC_zero];omega
 | succ j =>
  cases h:(enabM rows m 3)[j]? with
  | some k=>rw [sumC_succ h];exact capN_le _
  | none =>
   have e:sumC rows m (j+1)=sumC rows m j:=by unfold sumC;rw [List.take_add_one,h];simp
   rw [e]
   exact sumC_le rows m j
theorem move_at {rows:List (List I3)} {F:List (Rec6 V4)} {m:V4} {j:Nat} {k:Int} (h:(enabM rows m 3)[j]?=some k):(mvsOf rows F m)[j]?=some (mvOf rows F m k):=by
 unfold mvsOf
 rw [List.getElem?_map,h]
 rfl
theorem range_move {w:World} {B G cap:Nat} {xs:List I4} (h:w.ownsRow B 185 4 (.slice (some ⟨G,0,none⟩) xs.length cap) xs.length (flat4 xs)) {j:Nat} {x:I4} (hx:xs[j]?=some x):w.rangeAt G (j*4) [.int .i64 x.1,.int .i64 x.2.1,.int .i64 x.2.2.1,.int .i64 x.2.2.2]:=by
 have hl:j<xs.length:=(List.getElem?_eq_some_iff.1 hx).1
 have hg:xs.getD j (0,0,0,0)=x:=by simp [List.getD,hx]
 obtain ⟨f0,f1,f2,f3⟩:=flat4_at xs j hl
 rw [hg] at f0 f1 f2 f3
 intro q v hq
 have hq4:q<4:=by have:=(List.getElem?_eq_some_iff.1 hq).1;simpa using this
 rw [h.cellAt (j*4+q) (by omega)]
 match q,hq4 with
 | 0,_=>simp at hq;subst hq;exact f0
 | 1,_=>simp at hq;subst hq;exact f1
 | 2,_=>simp at hq;subst hq;exact f2
 | 3,_=>simp at hq;subst hq;exact f3
theorem SpcD.mvrow {w:World} {B nb d:Nat} {vs:Value} {cs:Sl × Sl × Sl} {M:V4→List I4} {L:List (Rec6 V4 × Value)} (h:SpcD w B nb vs cs M L d) {i:Nat} {r:Rec6 V4} {mv:Value} (hi:i<d) (hr:L[i]?=some (r,mv)):∃ ma mc,mv=.slice ma (M r.1).length mc:=by
 rcases (h.mvs i r mv hi hr).2 with ⟨h1,h2⟩ | ⟨gq,cq,cur,h1,_⟩
 ·exact ⟨none,0,by rw [h1,h2]⟩
 ·exact ⟨_,_,h1⟩
theorem cnt_int {a b s:Nat} (ha:a≤1000000) (hb:b≤1000000) (hs:s=capN (a+b)):min (wrap64 ((a:Int)+(b:Int))) 1000000=(s:Int):=by
 rw [hs,capN_eq]
 unfold wrap64
 omega

theorem runs_step (rows:List (List I3)) (L:List (Rec6 V4 × Value)) (X nb vc B Bc g c:Nat) (va:Option Addr) (cs:Sl × Sl × Sl) (hp:progOk rows=true) (hsh:Shaped (L.map (·.1))) (hcl:∀ r ∈ L.map (·.1),∀ t ∈ nxM rows r.1,t.2 ∈ (L.map (·.1)).map (·.1)) (hl:L.length≤2000) {at9:Nat} {r:Rec6 V4} {mv:Value} (hr:L[at9]?=some (r,mv))
  (ih:∀ at' r' mv',L[at']?=some (r',mv')→leftN rows r'.1<leftN rows r.1→RunsC rows L X nb vc B Bc g c va cs at' r'.1):RunsC rows L X nb vc B Bc g c va cs at9 r.1:=by
 intro w cts sp bx ho hct
 have hla:at9<L.length:=(List.getElem?_eq_some_iff.1 hr).1
 have hrm:r ∈ L.map (·.1):=List.mem_map.2 ⟨_,List.mem_of_getElem? hr,rfl⟩
 have hs:=hsh r hrm
 obtain ⟨g1,c1,e1,hg1,hrg⟩:=sp.at9 hr
 cases e1
 obtain ⟨ma,mc,rfl⟩:=sp.mvrow hla hr
 have cX0:w.cell? ⟨X,0,none⟩=some (.slice (some ⟨g1,0,none⟩) L.length vc):=by simpa using bx.cell 0
 have cM:=hrg 21 _ rfl
 have hlt:(at9:Int)<(L.length:Int):=by omega
 have ha0:(0:Int)≤(at9:Int):=by omega
 have hml:(mvsOf rows (L.map (·.1)) r.1).length=(enabM rows r.1 3).length:=by simp [mvsOf]
 have hen:=enabM_len rows r.1 3
 by_cases hne:enabM rows r.1 3=[]
 ·have h0:(mvsOf rows (L.map (·.1)) r.1).length=0:=by rw [hml,hne];rfl
  have hc1:cntM rows r.1=1:=by rw [cnt_eq hp hs,if_pos hne]
  have HG:Hid (RunsGot (.returned (.int .i64 1)) w w rows L Bc g c r.1):=⟨cts,by rw [hc1];rfl,ho,hct,World.grownBy.refl _ _⟩
  rw [h0] at cM
  clear hc1 hne hml hrg ih hcl hsh hct h0
  go_enter Tryd.func89,Tryd.ntmps89
  go_wp2
  go_ret
  exact HG.out
 ·have hn1:0<(enabM rows r.1 3).length:=List.length_pos_iff.2 hne
  have mvr:=sp.mvs at9 r _ hla hr
  rw [hml] at cM mvr
  have HC:Hid (cts.getD at9 0=0∨cts.getD at9 0=(cntM rows r.1:Int)):=hct.2 at9 r _ hr
  have hcb:=cnt_bounds hp (leftN rows r.1) r.1 hs (Nat.le_refl _)
  have cC:=ho.at9 hla
  obtain ⟨n,hn⟩:∃ n,n=(enabM rows r.1 3).length:=⟨_,rfl⟩
  rw [← hn] at cM mvr hn1 hen
  have HN:Hid (n=(enabM rows r.1 3).length):=hn
  have hnz:((n:Int) == 0)=false:=beq_false_of_ne (by omega)
  have hnz2:decide ((n:Int)=0)=false:=decide_eq_false (by omega)
  obtain ⟨G,mc',e2,_⟩:=own_some6 mvr hn1
  cases e2
  clear hn hml hrg
  by_cases hcz:cts.getD at9 0=0
  ·rw [hcz] at cC
   have HPut:=hct.put hr
   have hmr:∀ j k,(enabM rows r.1 3)[j]?=some k→w.rangeAt G (j*4) [.int .i64 (goM rows r.1 k).2,.int .i64 k,.int .i64 (r.1.1.getD k.toNat 0),.int .i64 (ixS (L.map (·.1)) (goM rows r.1 k).1:Int)]:=by
    have hmv2:w.ownsRow B 185 4 (.slice (some ⟨G,0,none⟩) (mvsOf rows (L.map (·.1)) r.1).length mc) (mvsOf rows (L.map (·.1)) r.1).length (flat4 (mvsOf rows (L.map (·.1)) r.1)):=by
     have e3:(mvsOf rows (L.map (·.1)) r.1).length=n:=by rw [HN.out];simp [mvsOf]
     rw [e3]
     exact mvr
    exact fun j k h=>range_move hmv2 (move_at h)
   have HGG:Hid (G≠g):=fun e=>(Ap3.types mvr ho (by decide)) G rfl (by rw [e];rfl)
   have st:OwnI w Bc (some ⟨g,0,none⟩,L.length,c) cts∧CtOk rows L cts∧w.grownBy w (some g):=⟨ho,hct,World.grownBy.refl _ _⟩
   have hsz0:=sumC_zero rows r.1
   go_enter Tryd.func89,Tryd.ntmps89
   go_wp2_with fail
   go_loopw [8,29] (fun s8 s29 wr=>∃ (j:Nat) (cts':List Int),s29=.int .i64 j∧j≤n∧s8=.int .i64 (sumC rows r.1 j:Int)∧OwnI wr Bc (some ⟨g,0,none⟩,L.length,c) cts'∧CtOk rows L cts'∧w.grownBy wr (some g)) (fun _ s29 _=>n - (intOf s29).toNat)
   case atStart=>exact ⟨0,cts,rfl,Nat.zero_le _,by rw [hsz0];rfl,st⟩
   case round =>
    clear st hsz0 cC hcz
    obtain ⟨j,cts',rfl,hjn,rfl,ho',hct',gr⟩:=hrel
    by_cases hlt2:j<n
    ·have hkj:(enabM rows r.1 3)[j]?=some ((enabM rows r.1 3).getD j 0):=by rw [List.getD,List.getElem?_eq_getElem (by rw [← HN.out];exact hlt2)];rfl
     generalize (enabM rows r.1 3).getD j 0=k at hkj
     have hz:=enab_halt (List.mem_of_getElem? hkj)
     have hx:=goM_shape hp hs hz
     have hlf:=left_step hp hs hz
     have hnm:(goM rows r.1 k).1 ∈ (L.map (·.1)).map (·.1):=hcl r hrm _ (List.mem_map.2 ⟨k,List.mem_of_getElem? hkj,rfl⟩)
     obtain ⟨r',hr',he'⟩:=ixS_get hnm
     obtain ⟨mv',hL'⟩:∃ mv',L[ixS (L.map (·.1)) (goM rows r.1 k).1]?=some (r',mv'):=by
      rw [List.getElem?_map] at hr'
      obtain ⟨y,hy,rfl⟩:=Option.map_eq_some_iff.1 hr'
      exact ⟨y.2,by rw [hy]⟩
     have kR:=ih _ r' mv' hL' (by rw [he'];omega)
     rw [he'] at kR
     have hsu:=sumC_succ hkj
     have hcb2:=cnt_bounds hp _ _ hx (Nat.le_refl _)
     have hsl:=sumC_le rows r.1 j
     have hsl2:=sumC_le rows r.1 (j+1)
     have hmid:=hmr j k hkj
     have hrw:wr.rangeAt G (j*4) [.int .i64 (goM rows r.1 k).2,.int .i64 k,.int .i64 (r.1.1.getD k.toNat 0),.int .i64 (ixS (L.map (·.1)) (goM rows r.1 k).1:Int)]:=fun q v hq=>by
      have h1:=hmid q v hq
      exact cell_grownB gr h1 (fun e=>HGG.out (by cases e;rfl))
     generalize ixS (L.map (·.1)) (goM rows r.1 k).1=ix at *
     have hcn:=hcb2.2
     generalize (goM rows r.1 k).2=f at *
     generalize r.1.1.getD k.toNat 0=pc at *
     have HSU:Hid (min (wrap64 ((sumC rows r.1 j:Int)+(cntM rows (goM rows r.1 k).1:Int))) 1000000=(sumC rows r.1 (j+1):Int)):=cnt_int hsl hcn hsu
     have hlt3:(j:Int)<(n:Int):=by omega
     have hj0:(0:Int)≤(j:Int):=by omega
     clear hsu hkj hz hx hlf hnm hr' he' hL' hmid hmr
     have pN:=Blk.new wr 185 [.int .i64 0,.int .i64 0,.int .i64 0,.int .i64 0]
     have hbN:Below wr.heap.size wr (wr.alloc (.cells #[.int .i64 0,.int .i64 0,.int .i64 0,.int .i64 0] 185)):=by go_grown
     go_wp2_with (first | refine wpList_load_mid rfl 185 _ rfl G (j*4) rfl [.int .i64 f,.int .i64 k,.int .i64 pc,.int .i64 (ix:Int)] _ hrw Tryd.underlying185 rfl (by kernel_rfl) ?_ | refine wpList_store_blk rfl 185 _ _ rfl wr.heap.size [.int .i64 f,.int .i64 k,.int .i64 pc,.int .i64 (ix:Int)] rfl rfl pN (by kernel_rfl) rfl rfl ?_)
     intro w3 p3 g3
     have b3:Below wr.heap.size wr w3:=hbN.grown g3 hbN.size (fun q e=>by cases e;exact Nat.le_refl _)
     have cE:w3.cell? ⟨wr.heap.size,3,none⟩=some (.int .i64 (ix:Int)):=by simpa using p3.out.cell 3
     have gr3:w.grownBy w3 (some g):=grown_tr gr (grown_new b3)
     have ho3:=ho'.below b3
     have sp3:=sp.strgrown ho gr3 (by decide) (by decide)
     have bx3:=bx.kept gr3 (own_ne_blk9 ho bx (by decide))
     have kRx:=kR w3 cts' sp3 bx3 ho3 hct'
     clear p3 g3 pN hbN b3 hrw kR gr ho' sp3 bx3 ho3
     generalize wr.heap.size=E at *
     go_wp2_with fail
     refine kRx.mono ?_
     rintro e w4 ⟨cts4,rfl,ho4,hct4,g4⟩
     have gr4:=grown_tr gr3 g4
     clear kRx gr3 g4 cE
     have st9:∃ (j9:Nat) (cts':List Int),(Value.int .i64 ((j:Int)+1))=.int .i64 (j9:Int)∧j9≤n∧(Value.int .i64 (min (wrap64 ((sumC rows r.1 j:Int)+(cntM rows (goM rows r.1 k).1:Int))) 1000000))=.int .i64 (sumC rows r.1 j9:Int)∧OwnI w4 Bc (some ⟨g,0,none⟩,L.length,c) cts'∧CtOk rows L cts'∧w.grownBy w4 (some g):=⟨j+1,cts4,by go_num,by omega,by rw [HSU.out],ho4,hct4,gr4⟩
     clear ho4 hct4 gr4 HSU hcb hcb2 hsl hsl2 hcn HPut HC
     go_wp2
     exact ⟨st9,by simp [intOf];omega⟩
    ·have hjn2:j=n:=by omega
     have hlt3:¬ (j:Int)<(n:Int):=by omega
     have hsa:sumC rows r.1 j=cntM rows r.1:=sumC_all hp hs hne (by rw [← HN.out];omega)
     rw [hsa]
     have cC:=ho'.at9 hla
     have fC:=ho'.frz9 at9
     have ho9:=ho'.set9 at9 (cntM rows r.1:Int)
     have gr9:=grown_tr gr (grown_cell wr g at9 (.int .i64 (cntM rows r.1:Int)))
     have cD:=ho9.at9 hla
     have hct9:=hct'.put hr
     have e9:(cts'.set at9 (cntM rows r.1:Int)).getD at9 0=(cntM rows r.1:Int):=by simp [List.getD,hct'.1,hla]
     rw [e9] at cD
     have HG:Hid (RunsGot (.returned (.int .i64 (cntM rows r.1:Int))) w (wr.setCell ⟨g,at9,none⟩ (.int .i64 (cntM rows r.1:Int))) rows L Bc g c r.1):=⟨_,rfl,ho9,hct9,gr9⟩
     generalize cts'.getD at9 0=old at cC
     generalize cntM rows r.1=cn at *
     clear ho' ho9 gr9 hct9 e9 hsa hjn2 gr hct' hmr ih hcl hsh HPut HC hcb
     go_wp2
     go_ret
     exact HG.out
  ·have hcv:cts.getD at9 0=(cntM rows r.1:Int):=HC.out.resolve_left hcz
   rw [hcv] at cC hcz
   have HG:Hid (RunsGot (.returned (.int .i64 (cntM rows r.1:Int))) w w rows L Bc g c r.1):=⟨cts,rfl,ho,hct,World.grownBy.refl _ _⟩
   have hc1:((cntM rows r.1:Int) == 0)=false:=beq_false_of_ne hcz
   have hc2:decide ((cntM rows r.1:Int)=0)=false:=decide_eq_false hcz
   generalize cntM rows r.1=cn at *
   clear HC hcz hcv hct ih hcl hsh mvr
   go_enter Tryd.func89,Tryd.ntmps89
   go_wp2
   go_ret
   exact HG.out


theorem runs_all (rows:List (List I3)) (L:List (Rec6 V4 × Value)) (X nb vc B Bc g c:Nat) (va:Option Addr) (cs:Sl × Sl × Sl) (hp:progOk rows=true) (hsh:Shaped (L.map (·.1))) (hcl:∀ r ∈ L.map (·.1),∀ t ∈ nxM rows r.1,t.2 ∈ (L.map (·.1)).map (·.1)) (hl:L.length≤2000) :
  ∀ (n at9:Nat) (r:Rec6 V4) (mv:Value),L[at9]?=some (r,mv)→leftN rows r.1<n→RunsC rows L X nb vc B Bc g c va cs at9 r.1
 | 0,_,_,_,_,h=>by omega
 | n+1,at9,r,mv,hr,h=>runs_step rows L X nb vc B Bc g c va cs hp hsh hcl hl hr (fun at' r' mv' hr' h'=>runs_all rows L X nb vc B Bc g c va cs hp hsh hcl hl n at' r' mv' hr' (by omega))
def countV (rows:List (List I3)):Int:=if codeF rows=0 then (cntM rows zeroV:Int) else 0
theorem ctOk_zero (rows:List (List I3)) (L:List (Rec6 V4 × Value)):CtOk rows L (List.replicate L.length 0):=⟨by simp,fun i r mv h=>by
 left
 have hl:i<L.length:=(List.getElem?_eq_some_iff.1 h).1
 simp [List.getD,hl]⟩

theorem implCountRuns_not (a:Option Addr) (len cap:Nat) (rows:List (List I3)) (w:World) (hC:Codes w a len cap rows) (hV:VmShape w) (hc:codeF rows≠0) :
  Calls Tryd.prog 49 #[.agg #[.slice a len cap]] w fun e w'=>e=.returned (.tuple #[.int .i64 0,.int .i64 (codeF rows)])∧Below w.heap.size w w':=by
 have kS:=fun (W:World) (b:Below w.heap.size w W) (t:S4) (h:Vmem W t zeroV)=>spaceOf_not a len cap rows t W (hC.below b) h (hV.below b) hc
 generalize codeF rows=c at *
 have hcn:(c != 0)=true:=by simpa using hc
 have fz:=(shape_fits9 zero_shape).1
 have kN:=implNewVm_is
 have bw:Below w.heap.size w (w.alloc (.cells #[.slice a len cap] 25)):=by go_grown
 have pP:Blk (w.alloc (.cells #[.slice a len cap] 25)) w.heap.size 25 [.slice a len cap]:=blkAt _ _ _ rfl
 go_enter Tryd.func49,Tryd.ntmps49
 go_wp2_with fail
 generalize (w.alloc (.cells #[.slice a len cap] 25))=U at *
 go_cut [4,5] from 6 (fun s4 s5 W=>CutF w W c s4 s5)
 case first =>
  have hdr:Below U.heap.size U U.drew:=by go_grown
  refine wp_region_held_drew (S:=(fun w'=>w'.cell? ⟨w.heap.size,0,none⟩=some (.slice a len cap))) (by kernel_rfl) (by simpa using pP.cell 0) (fun hS0=>?_)
  refine tkm 0 7 (.agg #[.slice a len cap]) ?_
  have pP9:=pP.below hdr
  replace bw:=bel_trans bw hdr
  clear hdr
  generalize U.drew=V at *
  have bt:Below V.heap.size V V:=Below.refl _ _
  refine wpAnyH_ready (rs:=[1,6]) (by kernel_rfl) (by simp) ?_
  refine AllReadyH.cons (o:=⟨some 8,_,_,_,_,_⟩) rfl (fun K hK=>?_) (AllReadyH.cons (o:=⟨some 4,_,_,_,_,_⟩) rfl (fun K hK=>?_) AllReadyH.nil)
  ·go_simp
   refine (kN V).mono ?_
   rintro e V1 ⟨⟨⟨⟨t0a,t0n,t0c⟩,⟨t1a,t1n,t1c⟩,⟨t2a,t2n,t2c⟩,⟨t3a,t3n,t3c⟩⟩,rfl,hO⟩,hb1⟩
   have ut:S4.val ((t0a,t0n,t0c),(t1a,t1n,t1c),(t2a,t2n,t2c),(t3a,t3n,t3c))=.agg #[.slice t0a t0n t0c,.slice t1a t1n t1c,.slice t2a t2n t2c,.slice t3a t3n t3c]:=rfl
   rw [ut]
   have bt:=bel_trans bt hb1
   go_wp2_with fail
   refine hK.out _ _ (cells_kept bt _ _ hS0) (fun hS1=>?_)
   clear hK
   try simp only [Act.put,tka,tkb,tkc]
   refine wpAnyH_ready (rs:=[2,6]) (by kernel_rfl) (by simp) ?_
   refine AllReadyH.cons (o:=⟨some 9,_,_,_,_,_⟩) rfl (fun K hK=>?_) (AllReadyH.cons (o:=⟨some 4,_,_,_,_,_⟩) rfl (fun K hK=>?_) AllReadyH.nil)
   ·have kx:=kS V1 (bel_trans bw bt) ((t0a,t0n,t0c),(t1a,t1n,t1c),(t2a,t2n,t2c),(t3a,t3n,t3c)) (hO.mem fz)
    rw [ut] at kx
    go_simp
    refine kx.mono ?_
    rintro e V2 ⟨rfl,hb2⟩
    have bt:=bel_trans bt hb2
    go_wp2_with fail
    refine hK.out _ _ (cells_kept bt _ _ hS0) (fun hS2=>?_)
    clear hK kx
    try simp only [Act.put,tka,tkb,tkc]
    refine tkm 3 6 (.tuple #[.agg #[.slice none 0 0,.map none],.int .i64 c]) ?_
    refine tkm 4 10 (.agg #[.slice none 0 0,.map none]) ?_
    refine tkm 5 11 (.int .i64 c) ?_
    refine tkr 6 4 (fun K hK=>?_)
    have hb3:Below V2.heap.size V2 (V2.alloc (.cells #[.slice none 0 0,.map none] 147)):=by go_grown
    have pX:Blk (V2.alloc (.cells #[.slice none 0 0,.map none] 147)) V2.heap.size 147 [.slice none 0 0,.map none]:=blkAt _ _ _ rfl
    have hXB:w.heap.size≤V2.heap.size:=Nat.le_trans bw.size bt.size
    have bt:=bel_trans bt hb3
    go_simp
    refine hK.out _ _ (cells_kept bt _ _ hS0) (fun hS3=>?_)
    clear hK
    generalize (V2.alloc (.cells #[.slice none 0 0,.map none] 147))=V3 at *
    obtain ⟨X,hX⟩:∃ X,X=V2.heap.size:=⟨_,rfl⟩
    rw [← hX] at pX hXB ⊢
    clear hX
    try simp only [Act.put,tka,tkb,tkc]
    refine tkz 7 (fun K hK=>?_)
    refine step_store_blkD rfl 147 _ _ rfl X [.slice none 0 0,.map none] rfl rfl pX (by kernel_rfl) rfl rfl ?_
    intro V9 pX9 g9
    have bz:=(bel_trans bw bt).grown g9 (bel_trans bw bt).size (fun q e=>by cases e;exact hXB)
    have hXP:X≠w.heap.size:=blk_ne pX (pP9.below bt) (by decide)
    have c9:=cells_kept bt _ _ hS0
    refine hK.out _ _ (cell_grownB g9 c9 (by simp;omega)) (fun hS4=>?_)
    clear hK
    try simp only [Act.put,tka,tkb,tkc]
    refine tkm 8 5 (.int .i64 c) ?_
    refine wpAnyH_done (by kernel_rfl) ?_ _
    go_wp2_with fail
    go_meet
    case rel=>exact ⟨X,rfl,rfl,bz⟩
   ·have hb3:Below V1.heap.size V1 (V1.alloc (.cells #[.slice none 0 0,.map none] 147)):=by go_grown
    have pX:Blk (V1.alloc (.cells #[.slice none 0 0,.map none] 147)) V1.heap.size 147 [.slice none 0 0,.map none]:=blkAt _ _ _ rfl
    have hXB:w.heap.size≤V1.heap.size:=Nat.le_trans bw.size bt.size
    replace hO:=hO.below hb3
    have bt:=bel_trans bt hb3
    go_simp
    refine hK.out _ _ (cells_kept bt _ _ hS0) (fun hS3=>?_)
    clear hK
    generalize (V1.alloc (.cells #[.slice none 0 0,.map none] 147))=V2 at *
    obtain ⟨X,hX⟩:∃ X,X=V1.heap.size:=⟨_,rfl⟩
    rw [← hX] at pX hXB ⊢
    clear hX
    try simp only [Act.put,tka,tkb,tkc]
    refine tkr 2 9 (fun K hK=>?_)
    have kx:=kS V2 (bel_trans bw bt) ((t0a,t0n,t0c),(t1a,t1n,t1c),(t2a,t2n,t2c),(t3a,t3n,t3c)) (hO.mem fz)
    rw [ut] at kx
    go_simp
    refine kx.mono ?_
    rintro e V3 ⟨rfl,hb2⟩
    replace pX:=pX.below hb2
    have bt:=bel_trans bt hb2
    go_wp2_with fail
    refine hK.out _ _ (cells_kept bt _ _ hS0) (fun hS2=>?_)
    clear hK kx
    try simp only [Act.put,tka,tkb,tkc]
    refine tkm 3 6 (.tuple #[.agg #[.slice none 0 0,.map none],.int .i64 c]) ?_
    refine tkm 4 10 (.agg #[.slice none 0 0,.map none]) ?_
    refine tkm 5 11 (.int .i64 c) ?_
    refine tkz 7 (fun K hK=>?_)
    refine step_store_blkD rfl 147 _ _ rfl X [.slice none 0 0,.map none] rfl rfl pX (by kernel_rfl) rfl rfl ?_
    intro V9 pX9 g9
    have bz:=(bel_trans bw bt).grown g9 (bel_trans bw bt).size (fun q e=>by cases e;exact hXB)
    have hXP:X≠w.heap.size:=blk_ne pX (pP9.below bt) (by decide)
    have c9:=cells_kept bt _ _ hS0
    refine hK.out _ _ (cell_grownB g9 c9 (by simp;omega)) (fun hS4=>?_)
    clear hK
    try simp only [Act.put,tka,tkb,tkc]
    refine tkm 8 5 (.int .i64 c) ?_
    refine wpAnyH_done (by kernel_rfl) ?_ _
    go_wp2_with fail
    go_meet
    case rel=>exact ⟨X,rfl,rfl,bz⟩
  ·have hb3:Below V.heap.size V (V.alloc (.cells #[.slice none 0 0,.map none] 147)):=by go_grown
   have pX:Blk (V.alloc (.cells #[.slice none 0 0,.map none] 147)) V.heap.size 147 [.slice none 0 0,.map none]:=blkAt _ _ _ rfl
   have hXB:w.heap.size≤V.heap.size:=Nat.le_trans bw.size bt.size
   have bt:=bel_trans bt hb3
   go_simp
   refine hK.out _ _ (cells_kept bt _ _ hS0) (fun hS3=>?_)
   clear hK
   generalize (V.alloc (.cells #[.slice none 0 0,.map none] 147))=V1 at *
   obtain ⟨X,hX⟩:∃ X,X=V.heap.size:=⟨_,rfl⟩
   rw [← hX] at pX hXB ⊢
   clear hX
   try simp only [Act.put,tka,tkb,tkc]
   refine tkr 1 8 (fun K hK=>?_)
   go_simp
   refine (kN V1).mono ?_
   rintro e V2 ⟨⟨⟨⟨t0a,t0n,t0c⟩,⟨t1a,t1n,t1c⟩,⟨t2a,t2n,t2c⟩,⟨t3a,t3n,t3c⟩⟩,rfl,hO⟩,hb1⟩
   have ut:S4.val ((t0a,t0n,t0c),(t1a,t1n,t1c),(t2a,t2n,t2c),(t3a,t3n,t3c))=.agg #[.slice t0a t0n t0c,.slice t1a t1n t1c,.slice t2a t2n t2c,.slice t3a t3n t3c]:=rfl
   rw [ut]
   have bt:=bel_trans bt hb1
   go_wp2_with fail
   refine hK.out _ _ (cells_kept bt _ _ hS0) (fun hS1=>?_)
   clear hK
   try simp only [Act.put,tka,tkb,tkc]
   replace pX:=pX.below hb1
   refine tkr 2 9 (fun K hK=>?_)
   have kx:=kS V2 (bel_trans bw bt) ((t0a,t0n,t0c),(t1a,t1n,t1c),(t2a,t2n,t2c),(t3a,t3n,t3c)) (hO.mem fz)
   rw [ut] at kx
   go_simp
   refine kx.mono ?_
   rintro e V3 ⟨rfl,hb2⟩
   replace pX:=pX.below hb2
   have bt:=bel_trans bt hb2
   go_wp2_with fail
   refine hK.out _ _ (cells_kept bt _ _ hS0) (fun hS2=>?_)
   clear hK kx
   try simp only [Act.put,tka,tkb,tkc]
   refine tkm 3 6 (.tuple #[.agg #[.slice none 0 0,.map none],.int .i64 c]) ?_
   refine tkm 4 10 (.agg #[.slice none 0 0,.map none]) ?_
   refine tkm 5 11 (.int .i64 c) ?_
   refine tkz 7 (fun K hK=>?_)
   refine step_store_blkD rfl 147 _ _ rfl X [.slice none 0 0,.map none] rfl rfl pX (by kernel_rfl) rfl rfl ?_
   intro V9 pX9 g9
   have bz:=(bel_trans bw bt).grown g9 (bel_trans bw bt).size (fun q e=>by cases e;exact hXB)
   have hXP:X≠w.heap.size:=blk_ne pX (pP9.below bt) (by decide)
   have c9:=cells_kept bt _ _ hS0
   refine hK.out _ _ (cell_grownB g9 c9 (by simp;omega)) (fun hS4=>?_)
   clear hK
   try simp only [Act.put,tka,tkb,tkc]
   refine tkm 8 5 (.int .i64 c) ?_
   refine wpAnyH_done (by kernel_rfl) ?_ _
   go_wp2_with fail
   go_meet
   case rel=>exact ⟨X,rfl,rfl,bz⟩
 obtain ⟨X,rfl,rfl,bz⟩:=hcut
 clear kS kN bw pP fz
 go_wp2
 refine bodyPost_ret (by simp [results,Tryd.results49,go_sem];try rfl) rfl ?_
 exact ⟨rfl,bz⟩

theorem implCountRuns_ok (a:Option Addr) (len cap:Nat) (rows:List (List I3)) (w:World) (hC:Codes w a len cap rows) (hV:VmShape w) (hc:codeF rows=0) :
  Calls Tryd.prog 49 #[.agg #[.slice a len cap]] w fun e w'=>e=.returned (.tuple #[.int .i64 (cntM rows zeroV:Int),.int .i64 0])∧Below w.heap.size w w':=by
 obtain ⟨hp,hf⟩:=code_parts hc
 obtain ⟨i0,hi9,hz0,hz1,hz2⟩:=info_parts info_int
 obtain ⟨cs,hR⟩:=rows_of_codes6 hC hp
 have kS:=fun (W:World) (b:Below w.heap.size w W) (t:S4) (h:Vmem W t zeroV)=>spaceOf_yes a len cap rows t W (hC.below b) h (hV.below b) hp hf
 clear hc
 have fz:=(shape_fits9 zero_shape).1
 have kN:=implNewVm_is
 have bw:Below w.heap.size w (w.alloc (.cells #[.slice a len cap] 25)):=by go_grown
 have pP:Blk (w.alloc (.cells #[.slice a len cap] 25)) w.heap.size 25 [.slice a len cap]:=blkAt _ _ _ rfl
 go_enter Tryd.func49,Tryd.ntmps49
 go_wp2_with fail
 generalize (w.alloc (.cells #[.slice a len cap] 25))=U at *
 go_cut [4,5] from 6 (fun s4 s5 W=>CutK w W cs rows (fullS rows) s4 s5)
 case first =>
  have hdr:Below U.heap.size U U.drew:=by go_grown
  refine wp_region_held_drew (S:=(fun w'=>w'.cell? ⟨w.heap.size,0,none⟩=some (.slice a len cap))) (by kernel_rfl) (by simpa using pP.cell 0) (fun hS0=>?_)
  refine tkm 0 7 (.agg #[.slice a len cap]) ?_
  have pP9:=pP.below hdr
  replace bw:=bel_trans bw hdr
  clear hdr
  generalize U.drew=V at *
  have bt:Below V.heap.size V V:=Below.refl _ _
  refine wpAnyH_ready (rs:=[1,6]) (by kernel_rfl) (by simp) ?_
  refine AllReadyH.cons (o:=⟨some 8,_,_,_,_,_⟩) rfl (fun K hK=>?_) (AllReadyH.cons (o:=⟨some 4,_,_,_,_,_⟩) rfl (fun K hK=>?_) AllReadyH.nil)
  ·go_simp
   refine (kN V).mono ?_
   rintro e V1 ⟨⟨⟨⟨t0a,t0n,t0c⟩,⟨t1a,t1n,t1c⟩,⟨t2a,t2n,t2c⟩,⟨t3a,t3n,t3c⟩⟩,rfl,hO⟩,hb1⟩
   have ut:S4.val ((t0a,t0n,t0c),(t1a,t1n,t1c),(t2a,t2n,t2c),(t3a,t3n,t3c))=.agg #[.slice t0a t0n t0c,.slice t1a t1n t1c,.slice t2a t2n t2c,.slice t3a t3n t3c]:=rfl
   rw [ut]
   have bt:=bel_trans bt hb1
   go_wp2_with fail
   refine hK.out _ _ (cells_kept bt _ _ hS0) (fun hS1=>?_)
   clear hK
   try simp only [Act.put,tka,tkb,tkc]
   refine wpAnyH_ready (rs:=[2,6]) (by kernel_rfl) (by simp) ?_
   refine AllReadyH.cons (o:=⟨some 9,_,_,_,_,_⟩) rfl (fun K hK=>?_) (AllReadyH.cons (o:=⟨some 4,_,_,_,_,_⟩) rfl (fun K hK=>?_) AllReadyH.nil)
   ·have kx:=kS V1 (bel_trans bw bt) ((t0a,t0n,t0c),(t1a,t1n,t1c),(t2a,t2n,t2c),(t3a,t3n,t3c)) (hO.mem fz)
    rw [ut] at kx
    go_simp
    refine kx.mono ?_
    rintro e V2 ⟨va9,nb,cs',L,rfl,sp,hLF,hR',hb2⟩
    obtain rfl:=(hR.below (bel_trans bw bt)).uniq hR'
    have hBv:w.heap.size≤V1.heap.size:=Nat.le_trans bw.size bt.size
    obtain ⟨va8,vn8,vc8,hva⟩:=own_slice6 sp.row
    have bt:=bel_trans bt hb2
    go_wp2_with fail
    refine hK.out _ _ (cells_kept bt _ _ hS0) (fun hS2=>?_)
    clear hK kx
    try simp only [Act.put,tka,tkb,tkc]
    refine tkm 3 6 (.tuple #[.agg #[va9,.map (some nb)],.int .i64 0]) ?_
    refine tkm 4 10 (.agg #[va9,.map (some nb)]) ?_
    refine tkm 5 11 (.int .i64 0) ?_
    refine tkr 6 4 (fun K hK=>?_)
    have hb3:Below V2.heap.size V2 (V2.alloc (.cells #[.slice none 0 0,.map none] 147)):=by go_grown
    have pX:Blk (V2.alloc (.cells #[.slice none 0 0,.map none] 147)) V2.heap.size 147 [.slice none 0 0,.map none]:=blkAt _ _ _ rfl
    have hXB:w.heap.size≤V2.heap.size:=Nat.le_trans bw.size bt.size
    replace sp:=sp.below hb3
    have bt:=bel_trans bt hb3
    go_simp
    refine hK.out _ _ (cells_kept bt _ _ hS0) (fun hS3=>?_)
    clear hK
    generalize (V2.alloc (.cells #[.slice none 0 0,.map none] 147))=V3 at *
    obtain ⟨X,hX⟩:∃ X,X=V2.heap.size:=⟨_,rfl⟩
    rw [← hX] at pX hXB ⊢
    clear hX
    try simp only [Act.put,tka,tkb,tkc]
    subst hva
    refine tkz 7 (fun K hK=>?_)
    refine step_store_blkD rfl 147 _ _ rfl X [.slice va8 vn8 vc8,.map (some nb)] rfl rfl pX (by kernel_rfl) rfl rfl ?_
    intro V9 pX9 g9
    have bz:=(bel_trans bw bt).grown g9 (bel_trans bw bt).size (fun q e=>by cases e;exact hXB)
    replace sp:=sp.grown g9 pX (by decide) (by decide)
    have hXP:X≠w.heap.size:=blk_ne pX (pP9.below bt) (by decide)
    have c9:=cells_kept bt _ _ hS0
    refine hK.out _ _ (cell_grownB g9 c9 (by simp;omega)) (fun hS4=>?_)
    clear hK
    try simp only [Act.put,tka,tkb,tkc]
    refine tkm 8 5 (.int .i64 0) ?_
    refine wpAnyH_done (by kernel_rfl) ?_ _
    go_wp2_with fail
    go_meet
    case rel=>exact CutK.mk9 (va:=.slice none 0 0) rfl rfl pX9.out sp hLF hXB hBv bz
   ·have hb3:Below V1.heap.size V1 (V1.alloc (.cells #[.slice none 0 0,.map none] 147)):=by go_grown
    have pX:Blk (V1.alloc (.cells #[.slice none 0 0,.map none] 147)) V1.heap.size 147 [.slice none 0 0,.map none]:=blkAt _ _ _ rfl
    have hXB:w.heap.size≤V1.heap.size:=Nat.le_trans bw.size bt.size
    replace hO:=hO.below hb3
    have bt:=bel_trans bt hb3
    go_simp
    refine hK.out _ _ (cells_kept bt _ _ hS0) (fun hS3=>?_)
    clear hK
    generalize (V1.alloc (.cells #[.slice none 0 0,.map none] 147))=V2 at *
    obtain ⟨X,hX⟩:∃ X,X=V1.heap.size:=⟨_,rfl⟩
    rw [← hX] at pX hXB ⊢
    clear hX
    try simp only [Act.put,tka,tkb,tkc]
    refine tkr 2 9 (fun K hK=>?_)
    have kx:=kS V2 (bel_trans bw bt) ((t0a,t0n,t0c),(t1a,t1n,t1c),(t2a,t2n,t2c),(t3a,t3n,t3c)) (hO.mem fz)
    rw [ut] at kx
    go_simp
    refine kx.mono ?_
    rintro e V3 ⟨va9,nb,cs',L,rfl,sp,hLF,hR',hb2⟩
    obtain rfl:=(hR.below (bel_trans bw bt)).uniq hR'
    have hBv:w.heap.size≤V2.heap.size:=Nat.le_trans bw.size bt.size
    obtain ⟨va8,vn8,vc8,hva⟩:=own_slice6 sp.row
    replace pX:=pX.below hb2
    have bt:=bel_trans bt hb2
    go_wp2_with fail
    refine hK.out _ _ (cells_kept bt _ _ hS0) (fun hS2=>?_)
    clear hK kx
    try simp only [Act.put,tka,tkb,tkc]
    refine tkm 3 6 (.tuple #[.agg #[va9,.map (some nb)],.int .i64 0]) ?_
    refine tkm 4 10 (.agg #[va9,.map (some nb)]) ?_
    refine tkm 5 11 (.int .i64 0) ?_
    subst hva
    refine tkz 7 (fun K hK=>?_)
    refine step_store_blkD rfl 147 _ _ rfl X [.slice va8 vn8 vc8,.map (some nb)] rfl rfl pX (by kernel_rfl) rfl rfl ?_
    intro V9 pX9 g9
    have bz:=(bel_trans bw bt).grown g9 (bel_trans bw bt).size (fun q e=>by cases e;exact hXB)
    replace sp:=sp.grown g9 pX (by decide) (by decide)
    have hXP:X≠w.heap.size:=blk_ne pX (pP9.below bt) (by decide)
    have c9:=cells_kept bt _ _ hS0
    refine hK.out _ _ (cell_grownB g9 c9 (by simp;omega)) (fun hS4=>?_)
    clear hK
    try simp only [Act.put,tka,tkb,tkc]
    refine tkm 8 5 (.int .i64 0) ?_
    refine wpAnyH_done (by kernel_rfl) ?_ _
    go_wp2_with fail
    go_meet
    case rel=>exact CutK.mk9 (va:=.slice none 0 0) rfl rfl pX9.out sp hLF hXB hBv bz
  ·have hb3:Below V.heap.size V (V.alloc (.cells #[.slice none 0 0,.map none] 147)):=by go_grown
   have pX:Blk (V.alloc (.cells #[.slice none 0 0,.map none] 147)) V.heap.size 147 [.slice none 0 0,.map none]:=blkAt _ _ _ rfl
   have hXB:w.heap.size≤V.heap.size:=Nat.le_trans bw.size bt.size
   have bt:=bel_trans bt hb3
   go_simp
   refine hK.out _ _ (cells_kept bt _ _ hS0) (fun hS3=>?_)
   clear hK
   generalize (V.alloc (.cells #[.slice none 0 0,.map none] 147))=V1 at *
   obtain ⟨X,hX⟩:∃ X,X=V.heap.size:=⟨_,rfl⟩
   rw [← hX] at pX hXB ⊢
   clear hX
   try simp only [Act.put,tka,tkb,tkc]
   refine tkr 1 8 (fun K hK=>?_)
   go_simp
   refine (kN V1).mono ?_
   rintro e V2 ⟨⟨⟨⟨t0a,t0n,t0c⟩,⟨t1a,t1n,t1c⟩,⟨t2a,t2n,t2c⟩,⟨t3a,t3n,t3c⟩⟩,rfl,hO⟩,hb1⟩
   have ut:S4.val ((t0a,t0n,t0c),(t1a,t1n,t1c),(t2a,t2n,t2c),(t3a,t3n,t3c))=.agg #[.slice t0a t0n t0c,.slice t1a t1n t1c,.slice t2a t2n t2c,.slice t3a t3n t3c]:=rfl
   rw [ut]
   have bt:=bel_trans bt hb1
   go_wp2_with fail
   refine hK.out _ _ (cells_kept bt _ _ hS0) (fun hS1=>?_)
   clear hK
   try simp only [Act.put,tka,tkb,tkc]
   replace pX:=pX.below hb1
   refine tkr 2 9 (fun K hK=>?_)
   have kx:=kS V2 (bel_trans bw bt) ((t0a,t0n,t0c),(t1a,t1n,t1c),(t2a,t2n,t2c),(t3a,t3n,t3c)) (hO.mem fz)
   rw [ut] at kx
   go_simp
   refine kx.mono ?_
   rintro e V3 ⟨va9,nb,cs',L,rfl,sp,hLF,hR',hb2⟩
   obtain rfl:=(hR.below (bel_trans bw bt)).uniq hR'
   have hBv:w.heap.size≤V2.heap.size:=Nat.le_trans bw.size bt.size
   obtain ⟨va8,vn8,vc8,hva⟩:=own_slice6 sp.row
   replace pX:=pX.below hb2
   have bt:=bel_trans bt hb2
   go_wp2_with fail
   refine hK.out _ _ (cells_kept bt _ _ hS0) (fun hS2=>?_)
   clear hK kx
   try simp only [Act.put,tka,tkb,tkc]
   refine tkm 3 6 (.tuple #[.agg #[va9,.map (some nb)],.int .i64 0]) ?_
   refine tkm 4 10 (.agg #[va9,.map (some nb)]) ?_
   refine tkm 5 11 (.int .i64 0) ?_
   subst hva
   refine tkz 7 (fun K hK=>?_)
   refine step_store_blkD rfl 147 _ _ rfl X [.slice va8 vn8 vc8,.map (some nb)] rfl rfl pX (by kernel_rfl) rfl rfl ?_
   intro V9 pX9 g9
   have bz:=(bel_trans bw bt).grown g9 (bel_trans bw bt).size (fun q e=>by cases e;exact hXB)
   replace sp:=sp.grown g9 pX (by decide) (by decide)
   have hXP:X≠w.heap.size:=blk_ne pX (pP9.below bt) (by decide)
   have c9:=cells_kept bt _ _ hS0
   refine hK.out _ _ (cell_grownB g9 c9 (by simp;omega)) (fun hS4=>?_)
   clear hK
   try simp only [Act.put,tka,tkb,tkc]
   refine tkm 8 5 (.int .i64 0) ?_
   refine wpAnyH_done (by kernel_rfl) ?_ _
   go_wp2_with fail
   go_meet
   case rel=>exact CutK.mk9 (va:=.slice none 0 0) rfl rfl pX9.out sp hLF hXB hBv bz
 obtain ⟨X,va,vc,nb,L,rfl,rfl,pX,sp,hLF,hXB,bz⟩:=hcut
 clear kS kN bw pP fz
 have cX0:wc.cell? ⟨X,0,none⟩=some (.slice va L.length vc):=by simpa using pX.cell 0
 have hl2:L.length≤2000:=by
  have e:(L.map (·.1)).length=L.length:=by simp
  rw [hLF] at e
  omega
 obtain ⟨mv,hr⟩:∃ mv,L[0]?=some ((zeroV,0,0),mv):=by
  have e:=fullS_head rows
  rw [← hLF,List.getElem?_map] at e
  obtain ⟨y,hy,e2⟩:=Option.map_eq_some_iff.1 e
  exact ⟨y.2,by rw [hy,← e2]⟩
 have hbz:=bz.size
 have kR:=runs_all rows L X nb vc w.heap.size w.heap.size wc.heap.size L.length va cs hp (by rw [hLF];exact fullS_shaped hp) (by rw [hLF];exact fullS_closed hf) hl2 (leftN rows zeroV+1) 0 (zeroV,0,0) mv hr (Nat.lt_succ_self _)
 rw [← hLF] at sp
 have hc0:=ctOk_zero rows L
 clear hLF hr hXB
 go_wp2_with (at_make;refine wpList_make_full _ rfl _ _ 27 rfl w.heap.size 3 i0 (.int .i64 0) 1 Tryd.underlying27 hi9 hz0 hz1 _ _ _ _ L.length rfl rfl (by omega) (by omega) ?b2 ?b3 (by first | exact hbz | exact Nat.le_refl _) ?_)
 case b2=>first | omega | (rw [hz2];omega)
 case b3=>unfold maxLen;omega
 intro w5 hown hgrow
 rw [made_ints] at hown
 have b5:Below wc.heap.size wc w5:=⟨hgrow.os,hgrow.tape,hgrow.output,hgrow.size,fun k hk=>hgrow.block k hk (by simp)⟩
 have hO:OwnI w5 w.heap.size (some ⟨wc.heap.size,0,none⟩,L.length,L.length) (List.replicate L.length 0):=hown
 have kRx:=kR w5 _ (sp.below b5) (pX.below b5) hO hc0
 have b6:=bel_trans bz b5
 have hgB:w.heap.size≤wc.heap.size:=hbz
 clear kR hown hgrow hO hc0 sp pX cX0 bz b5
 generalize wc.heap.size=g at *
 go_wp2_with fail
 refine kRx.mono ?_
 rintro e w7 ⟨cts,rfl,ho7,hct7,g7⟩
 have b7:=b6.grown g7 b6.size (fun k e=>by cases e;exact hgB)
 clear kRx ho7 hct7 g7 b6
 have HCN:Hid (0=0):=rfl
 go_wp2
 refine bodyPost_ret (by simp [results,Tryd.results49,go_sem];try rfl) rfl ?_
 exact ⟨rfl,b7⟩
end Go.Proofs.YtjgffnlmjmibgaaDoor
