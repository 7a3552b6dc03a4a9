/-
  Joined: StsS.
-/
import Derived.Test.YtmhlokahmblboaaGreatDoorK32
import Derived.Test.YtmhlokahmblboaaGreatDoorK35

namespace Go.Proofs.YtmhlokahmblboaaGreatDoor
set_option maxRecDepth 100000
set_option maxHeartbeats 16000000
open Go.RowKit
set_option linter.unusedVariables false
set_option linter.unusedSimpArgs false

theorem Kq:(Tryz.prog.info? 9).map (fun i=>(i.zero,i.size,i.bytes))=some (some (.string ⟨#[]⟩),1,16):=by kernel_rfl
theorem Wj.ownI {wi w w0:World} {v1 v2 v3 u1 u2 u3:Value} {B B0:Nat} {ts:List ByteArray} {fs bs zs:List Int} {s:Sl} (h:Wj wi w v1 v2 v3 u1 u2 u3) (ho:ZG wi B s zs) (hT:Tri w0 B0 v1 v2 v3 ts fs bs) (hB:w0.heap.size≤B):ZG w B s zs:=
 Wj.row h ho (Ap3.fresh hT.ks ho hB).symm (Ap3.fresh hT.fr ho hB).symm (Ap3.fresh hT.bw ho hB).symm
theorem Wj.ownV {wi w w0:World} {v1 v2 v3 u1 u2 u3:Value} {B B0:Nat} {ts:List ByteArray} {fs bs:List Int} {s:S4} {m:V4} (h:Wj wi w v1 v2 v3 u1 u2 u3) (ho:ZP wi B s m) (hT:Tri w0 B0 v1 v2 v3 ts fs bs) (hB:w0.heap.size≤B):ZP w B s m:=
 ⟨⟨h.ownI ho.1.1 hT hB,h.ownI ho.1.2.1 hT hB,h.ownI ho.1.2.2.1 hT hB,h.ownI ho.1.2.2.2 hT hB⟩,ho.2⟩
theorem Wj.blk {wi w:World} {v1 v2 v3 u1 u2 u3:Value} {B g t:Nat} {ts:List ByteArray} {fs bs:List Int} {cs:List Value} (h:Wj wi w v1 v2 v3 u1 u2 u3) (p:Blk wi g t cs) (hT:Tri wi B v1 v2 v3 ts fs bs) (h1:9≠t) (h2:3≠t):Blk w g t cs:=
 (h.keep g p.lt (Z4 hT.ks p h1) (Z4 hT.fr p h2) (Z4 hT.bw p h2)).trans p
theorem LT {w:World} {B g n c:Nat} {ts:List ByteArray} (h:w.ownsRow B 9 1 (.slice (some ⟨g,0,none⟩) n c) n (ts.map Value.string)):Strs w (some ⟨g,0,none⟩) n c ts:=by
 obtain ⟨a,cap,e,hT⟩:=JG.of_owns h
 cases e
 exact hT.strs
theorem NT (t:ByteArray):∀ u ∈ [Value.string t],u.oneCell'=true:=by intro u hu;simp at hu;subst hu;rfl
theorem TC (x:Int):∀ u ∈ [Value.int .i64 x],u.oneCell'=true:=by intro u hu;simp at hu;subst hu;rfl
theorem N6 {w:World} {B:Nat} {v:Value} {ts:List ByteArray} {t:ByteArray} (h:w.ownsRow B 9 1 v (ts.length+1) (ts.map Value.string++[.string t])):w.ownsRow B 9 1 v (ts++[t]).length ((ts++[t]).map Value.string):=by simpa using h
theorem TP {w:World} {B:Nat} {v:Value} {zs:List Int} {z:Int} (h:w.ownsRow B 3 1 v (zs.length+1) (zs.map (Value.int .i64)++[.int .i64 z])):w.ownsRow B 3 1 v (zs++[z]).length ((zs++[z]).map (Value.int .i64)):=by simpa using h

def Pn (e:Ending) (w:World) (B:Nat) (F:List (Zp V4)):Prop:=∃ (v1 v2 v3:Value) (ts:List ByteArray) (fs bs:List Int),e=.returned (.tuple #[v1,v2,v3,.bool (decide (F.length≤2000))])∧Tri w B v1 v2 v3 ts fs bs∧(F.length≤2000→ts=Zy F∧fs=YQ F∧bs=byL F)
def OnO (w wr:World) (a9:Option Addr) (cap:Nat) (rows:List (List I3)) (i:Nat) (S:List (Zp V4)) (v1 v2 v3:Value):Prop:=
 Pl rows i S∧Tri wr w.heap.size v1 v2 v3 (Zy S) (YQ S) (byL S)∧Below w.heap.size w wr∧Blk wr w.heap.size 25 [.slice a9 3 cap]

def OnI (w wi wr:World) (a9:Option Addr) (cap:Nat) (rows:List (List I3)) (i j:Nat) (m:V4) (S:List (Zp V4)) (v1 v2 v3 u1 u2 u3:Value):Prop:=
 In6 rows i j m S∧Tri wr w.heap.size u1 u2 u3 (Zy S) (YQ S) (byL S)∧Wj wi wr v1 v2 v3 u1 u2 u3∧Below w.heap.size w wr

theorem PK {w:World} {a9:Option Addr} {cap:Nat} {cs:Sl × Sl × Sl} {rows:List (List I3)} (hR:Z6 w a9 cs rows) (hp:Zn rows=true) :
  Calls Tryz.prog 75 #[.agg #[.slice a9 3 cap]] w fun e w'=>Pn e w' w.heap.size (Yd rows)∧Below w.heap.size w w':=by
 have fz:=(ZO ZH).1
 have kN:=XV
 have kK:=fun (W:World) (t:S4) (h:Yk W t Zl)=>Vo t Zl W h ZH
 have bw:Below w.heap.size w (w.alloc (.cells #[.slice a9 3 cap] 25)):=by go_grown
 have pP:Blk (w.alloc (.cells #[.slice a9 3 cap] 25)) w.heap.size 25 [.slice a9 3 cap]:=Zo _ _ _ rfl
 go_enter Tryz.func75,Tryz.ntmps75
 go_wp2_with fail
 generalize w.alloc (.cells #[.slice a9 3 cap] 25)=U at *
 refine (kN _).mono ?_
 rintro e w1 ⟨⟨⟨⟨t0a,t0n,t0c⟩,⟨t1a,t1n,t1c⟩,⟨t2a,t2n,t2c⟩,⟨t3a,t3n,t3c⟩⟩,rfl,hO⟩,hb⟩
 have ut:S4.val ((t0a,t0n,t0c),(t1a,t1n,t1c),(t2a,t2n,t2c),(t3a,t3n,t3c))=.agg #[.slice t0a t0n t0c,.slice t1a t1n t1c,.slice t2a t2n t2c,.slice t3a t3n t3c]:=rfl
 replace bw:=Zb bw hb
 replace pP:=pP.below hb
 have kKx:=kK w1 _ (hO.mem fz)
 rw [ut] at kKx ⊢
 clear hb kN kK ut hO fz
 go_wp2_with fail
 refine kKx.mono ?_
 rintro e w2 ⟨rfl,hb⟩
 replace bw:=Zb bw hb
 replace pP:=pP.below hb
 clear hb kKx
 have hb:Below w2.heap.size w2 (((w2.alloc (.cells #[.string (Ye Zl)] 9)).alloc (.cells #[.int .i64 (-1)] 3)).alloc (.cells #[.int .i64 (-1)] 3)):=by go_grown
 have hbs:=bw.size
 have q1:((w2.alloc (.cells #[.string (Ye Zl)] 9)).alloc (.cells #[.int .i64 (-1)] 3)).alloc (.cells #[.int .i64 (-1)] 3) |>.ownsRow w.heap.size 9 1 (.slice (some ⟨w2.heap.size,0,none⟩) 1 1) 1 [.string (Ye Zl)]:=
  ((World.ownsRow_lit w2 #[.string (Ye Zl)] 1 hbs (by unfold maxLen;omega) (by simp)).alloc _).alloc _
 have q2:((w2.alloc (.cells #[.string (Ye Zl)] 9)).alloc (.cells #[.int .i64 (-1)] 3)).alloc (.cells #[.int .i64 (-1)] 3) |>.ownsRow w.heap.size 3 1 (.slice (some ⟨w2.heap.size+1,0,none⟩) 1 1) 1 [.int .i64 (-1)]:=by
  have h9:=(World.ownsRow_lit (base:=w.heap.size) (e:=3) (size:=1) (w2.alloc (.cells #[.string (Ye Zl)] 9)) #[.int .i64 (-1)] 1 (by simp;omega) (by unfold maxLen;omega) (by simp)).alloc (.cells #[.int .i64 (-1)] 3)
  simpa using h9
 have q3:((w2.alloc (.cells #[.string (Ye Zl)] 9)).alloc (.cells #[.int .i64 (-1)] 3)).alloc (.cells #[.int .i64 (-1)] 3) |>.ownsRow w.heap.size 3 1 (.slice (some ⟨w2.heap.size+1+1,0,none⟩) 1 1) 1 [.int .i64 (-1)]:=by
  have h9:=World.ownsRow_lit (base:=w.heap.size) (e:=3) (size:=1) ((w2.alloc (.cells #[.string (Ye Zl)] 9)).alloc (.cells #[.int .i64 (-1)] 3)) #[.int .i64 (-1)] 1 (by simp;omega) (by unfold maxLen;omega) (by simp)
  simpa using h9
 have st:OnO w (((w2.alloc (.cells #[.string (Ye Zl)] 9)).alloc (.cells #[.int .i64 (-1)] 3)).alloc (.cells #[.int .i64 (-1)] 3)) a9 cap rows 0 [(Zl,0,0)] (.slice (some ⟨w2.heap.size,0,none⟩) 1 1) (.slice (some ⟨w2.heap.size+1,0,none⟩) 1 1) (.slice (some ⟨w2.heap.size+1+1,0,none⟩) 1 1):=
  ⟨Pl.start rows,⟨q1,q2,q3,fun g hg h2=>by simp [Value.ownBlock] at hg h2;omega⟩,Zb bw hb,pP.below hb⟩
 clear q1 q2 q3 hb hbs bw pP
 go_wp2_with fail
 go_loopw [6,7,8,9] (fun s6 s7 s8 s9 wr=>∃ (i:Nat) (S:List (Zp V4)),s9=.int .i64 i∧OnO w wr a9 cap rows i S s6 s7 s8) (fun _ _ _ s9 _=>2001 - (intOf s9).toNat)
 case atStart=>exact ⟨0,_,rfl,st⟩
 case round =>
  clear st
  obtain ⟨i,S,rfl,hO6,hT,bw,pP⟩:=hrel
  obtain ⟨i0,hi9,hz0,hz1,hz2⟩:=info_parts Xc
  obtain ⟨i1,hi8,hy0,hy1,hy2⟩:=info_parts Kq
  have hS0:0<S.length:=List.length_pos_iff.2 hO6.pos
  obtain ⟨g1,c1,rfl,hc1,_⟩:=XG hT.ks (by rw [Xe];exact hS0)
  obtain ⟨g2,c2,rfl,hc2,_⟩:=XG hT.fr (by rw [Up];exact hS0)
  obtain ⟨g3,c3,rfl,hc3,_⟩:=XG hT.bw (by rw [SY];exact hS0)
  have hl2:=hO6.len
  have HEI:Hid ((Zy S).length=S.length):=Xe S
  by_cases hlt:i<S.length
  ·obtain ⟨m,hm⟩:∃ m,m=(S[i]'hlt).1:=⟨_,rfl⟩
   have hI6:=hO6.go hlt
   rw [← hm] at hI6
   have hs:Zk m=true:=by rw [hm];exact hO6.shp _ (List.getElem_mem hlt)
   have hkm:(Zy S)[i]?=some (Ye m):=by unfold Zy;rw [List.getElem?_map,List.getElem?_eq_getElem hlt,hm];rfl
   have hc:=Pc hT.ks (by have:=HEI.out;omega) hkm
   have hlt1:(i:Int)<((Zy S).length:Int):=by have:=HEI.out;omega
   have hi0:(0:Int)≤(i:Int):=by omega
   have kO:=RM hs wr
   have hT0:=hT
   clear hm hkm
   go_wp2_with fail
   refine kO.mono ?_
   rintro e w3 ⟨⟨⟨⟨t0a,t0n,t0c⟩,⟨t1a,t1n,t1c⟩,⟨t2a,t2n,t2c⟩,⟨t3a,t3n,t3c⟩⟩,rfl,hV⟩,hb⟩
   have ut:S4.val ((t0a,t0n,t0c),(t1a,t1n,t1c),(t2a,t2n,t2c),(t3a,t3n,t3c))=.agg #[.slice t0a t0n t0c,.slice t1a t1n t1c,.slice t2a t2n t2c,.slice t3a t3n t3c]:=rfl
   rw [ut]
   replace bw:=Zb bw hb
   replace pP:=pP.below hb
   replace hT:=hT.below hb
   clear hb kO hc
   have pN:=Blk.new w3 74 [.slice none 0 0,.slice none 0 0,.slice none 0 0,.slice none 0 0]
   have hbN:Below w3.heap.size w3 (w3.alloc (.cells #[.slice none 0 0,.slice none 0 0,.slice none 0 0,.slice none 0 0] 74)):=by go_grown
   go_wp2_with (refine Zd rfl 74 _ _ rfl w3.heap.size [.slice t0a t0n t0c,.slice t1a t1n t1c,.slice t2a t2n t2c,.slice t3a t3n t3c] rfl rfl pN (by kernel_rfl) rfl rfl ?_)
   intro w4 pS4 g4
   have pS:=pS4.out
   have hb4:Below w3.heap.size w3 w4:=hbN.grown g4 hbN.size (fun k e=>by cases e;exact Nat.le_refl _)
   replace bw:=Zb bw hb4
   replace pP:=pP.below hb4
   replace hT:=hT.below hb4
   replace hV:=hV.below hb4
   clear pS4 g4 hbN pN hb4
   have fm:=(ZO hs).1
   have hT4:=hT
   have kE:=Xw a9 3 cap rows ((t0a,t0n,t0c),(t1a,t1n,t1c),(t2a,t2n,t2c),(t3a,t3n,t3c)) m cs w4 rfl (hR.below bw) (hV.mem fm) hp hs
   rw [ut] at kE
   generalize w3.heap.size=X at *
   go_wp2_with (first | refine Zc rfl 25 _ rfl w.heap.size rfl pP _ Tryz.underlying25 rfl (by kernel_rfl) ?_ | refine Zc rfl 74 _ rfl X rfl pS _ Tryz.underlying74 rfl (by kernel_rfl) ?_)
   refine kE.mono ?_
   rintro e wi ⟨⟨⟨la,ln,lc⟩,rfl,hL⟩,hb⟩
   replace bw:=Zb bw hb
   replace pP:=pP.below hb
   replace pS:=pS.below hb
   replace hT:=hT.below hb
   replace hV:=hV.below hb
   clear hb kE
   have hLn:(Zj rows m 3).length=ln:=by have:=hL.1;simpa using this
   have st2:OnI w wi wi a9 cap rows i 0 m S (.slice (some ⟨g1,0,none⟩) (Zy S).length c1) (.slice (some ⟨g2,0,none⟩) (YQ S).length c2) (.slice (some ⟨g3,0,none⟩) (byL S).length c3) (.slice (some ⟨g1,0,none⟩) (Zy S).length c1) (.slice (some ⟨g2,0,none⟩) (YQ S).length c2) (.slice (some ⟨g3,0,none⟩) (byL S).length c3):=⟨hI6,hT,Wj.refl _ _ _ _,bw⟩
   go_wp2_with fail
   go_loopw [6,7,8,13] (fun s6 s7 s8 s13 wq=>∃ (j:Nat) (S':List (Zp V4)),s13=.int .i64 j∧OnI w wi wq a9 cap rows i j m S' (.slice (some ⟨g1,0,none⟩) (Zy S).length c1) (.slice (some ⟨g2,0,none⟩) (YQ S).length c2) (.slice (some ⟨g3,0,none⟩) (byL S).length c3) s6 s7 s8) (fun _ _ _ s13 _=>ln - (intOf s13).toNat)
   case atStart=>exact ⟨0,_,rfl,st2⟩
   case round =>
    clear st2 hI6 hO6
    obtain ⟨j,S',rfl,hJ6,hT9,hOf,bw9⟩:=hrel
    have hL0:=hL
    have hT40:=hT4
    replace hL:=hOf.ownI hL hT4 (Nat.le_refl _)
    replace hV:=hOf.ownV hV hT0 (Nat.le_refl _)
    replace pP:=hOf.blk pP hT (by decide) (by decide)
    replace pS:=hOf.blk pS hT (by decide) (by decide)
    clear bw hT0 hT4
    have bw:=bw9
    clear bw9
    have hS9:0<S'.length:=Nat.lt_of_le_of_lt (Nat.zero_le _) hJ6.at9
    have hl9:=hJ6.len
    obtain ⟨d1,e1,rfl,he1,_⟩:=XG hT9.ks (by rw [Xe];exact hS9)
    obtain ⟨d2,e2,rfl,he2,_⟩:=XG hT9.fr (by rw [Up];exact hS9)
    obtain ⟨d3,e3,rfl,he3,_⟩:=XG hT9.bw (by rw [SY];exact hS9)
    by_cases hlt2:j<ln
    ·have hkj:(Zj rows m 3)[j]?=some ((Zj rows m 3).getD j 0):=by rw [List.getD,List.getElem?_eq_getElem (by omega)];rfl
     have hz:=Ya (List.mem_of_getElem? hkj)
     obtain ⟨h0k,h2k,hd,_⟩:=ZX hz
     obtain ⟨k,hk⟩:∃ k:Nat,(Zj rows m 3).getD j 0=(k:Int):=⟨_,(Int.toNat_of_nonneg h0k).symm⟩
     obtain ⟨lb,lo,rfl,hc,hlb⟩:=Y8 hL.ints (show j<ln from hlt2)
     rw [hk] at hkj hz hd h0k h2k hc
     rw [Int.toNat_natCast] at hd
     have hk3:k<3:=by omega
     have HKK:Hid ((Zj rows m 3).getD j 0=(k:Int)):=hk
     clear hk hlb
     have hx:=ZV hp hs hz
     have HO:Hid (Ye (goM rows m (k:Int)).1 ∈ Zy S'→In6 rows i (j+1) m S'):=fun h=>hJ6.old hkj hx h
     have HN:Hid (Ye (goM rows m (k:Int)).1 ∉ Zy S'→S'.length≠2000→In6 rows i (j+1) m (S'++[((goM rows m (k:Int)).1,i,(k:Int))])):=fun h h2=>hJ6.new hkj hx h h2
     have HL:Hid (Ye (goM rows m (k:Int)).1 ∉ Zy S'→S'.length=2000→2000<(Yd rows).length):=fun h h2=>hJ6.full hkj hx h h2
     have kP:=fun (W:World) (b:Below w.heap.size w W) (h:Yk W ((t0a,t0n,t0c),(t1a,t1n,t1c),(t2a,t2n,t2c),(t3a,t3n,t3c)) m)=>WJ (cap:=cap) rfl (hR.below b) h hp hs hk3 hd
     rw [← Wq,ut] at kP
     generalize goM rows m (k:Int)=zf at *
     obtain ⟨z,f⟩:=zf
     simp only at kP HO HN HL hx
     have hlt3:(j:Int)<(ln:Int):=by omega
     have hj0:(0:Int)≤(j:Int):=by omega
     have hj9:j<10:=by have:=YD rows m 3;omega
     clear hkj hz hd hLn hJ6
     go_wp2_with fail
     have hb9:Below wr.heap.size wr wr.drew:=by go_grown
     refine wp_region_held_drew (S:=(fun w'=>w'.cell? ⟨w.heap.size,0,none⟩=some (.slice a9 3 cap)∧w'.cell? ⟨X,0,none⟩=some (.slice t0a t0n t0c)∧w'.cell? ⟨X,1,none⟩=some (.slice t1a t1n t1c)∧w'.cell? ⟨X,2,none⟩=some (.slice t2a t2n t2c)∧w'.cell? ⟨X,3,none⟩=some (.slice t3a t3n t3c)∧w'.cell? ⟨lb,lo+j,none⟩=some (.int .i64 (k:Int)))) (by kernel_rfl) ⟨by simpa using pP.cell 0,by simpa using pS.cell 0,by simpa using pS.cell 1,by simpa using pS.cell 2,by simpa using pS.cell 3,hc⟩ (fun hS0=>?_)
     refine tkm 0 46 (.agg #[.slice a9 3 cap]) ?_
     refine tkm 1 47 (.agg #[.slice t0a t0n t0c,.slice t1a t1n t1c,.slice t2a t2n t2c,.slice t3a t3n t3c]) ?_
     refine tkm 2 48 (.slice (some ⟨lb,lo,none⟩) ln lc) ?_
     refine tkm 3 49 (.int .i64 (j:Int)) ?_
     refine tkm 4 50 (.pointer (some ⟨lb,lo+j,none⟩)) ?_
     refine tkm 5 51 (.int .i64 (k:Int)) ?_
     replace bw:=Zb bw hb9
     replace pP:=pP.below hb9
     replace pS:=pS.below hb9
     replace hV:=hV.below hb9
     replace hT9:=hT9.below hb9
     replace hOf:=hOf.below hb9
     replace hL:=hL.below hb9
     replace hc:=Za hb9 _ _ hc
     clear hb9
     generalize wr.drew=V at *
     refine wpAnyH_ready (rs:=[6,10]) (by kernel_rfl) (by simp) ?_
     refine AllReadyH.cons (o:=⟨some 52,_,_,_,_,_⟩) rfl (fun K hK=>?_) (AllReadyH.cons (o:=⟨some 14,_,_,_,_,_⟩) rfl (fun K hK=>?_) AllReadyH.nil)
     ·have kPx:=kP V bw (hV.mem fm)
      go_simp
      refine kPx.mono ?_
      rintro e V1 ⟨⟨⟨⟨z0a,z0n,z0c⟩,⟨z1a,z1n,z1c⟩,⟨z2a,z2n,z2c⟩,⟨z3a,z3n,z3c⟩⟩,rfl,hO2⟩,hb1⟩
      have uz:S4.val ((z0a,z0n,z0c),(z1a,z1n,z1c),(z2a,z2n,z2c),(z3a,z3n,z3c))=.agg #[.slice z0a z0n z0c,.slice z1a z1n z1c,.slice z2a z2n z2c,.slice z3a z3n z3c]:=rfl
      rw [uz]
      clear uz
      go_wp2_with fail
      refine hK.out _ _ ⟨Za hb1 _ _ hS0.1,Za hb1 _ _ hS0.2.1,Za hb1 _ _ hS0.2.2.1,Za hb1 _ _ hS0.2.2.2.1,Za hb1 _ _ hS0.2.2.2.2.1,Za hb1 _ _ hS0.2.2.2.2.2⟩ (fun hS5=>?_)
      clear hK kPx
      try simp only [Act.put,tka,tkb,tkc]
      refine tkm 7 45 (.tuple #[.agg #[.slice z0a z0n z0c,.slice z1a z1n z1c,.slice z2a z2n z2c,.slice z3a z3n z3c],.int .i64 f]) ?_
      refine tkm 8 53 (.agg #[.slice z0a z0n z0c,.slice z1a z1n z1c,.slice z2a z2n z2c,.slice z3a z3n z3c]) ?_
      refine tkm 9 54 (.int .i64 f) ?_
      refine tkr 10 14 (fun K hK=>?_)
      have hb2:Below V1.heap.size V1 (V1.alloc (.cells #[.slice none 0 0,.slice none 0 0,.slice none 0 0,.slice none 0 0] 74)):=by go_grown
      have pX:Blk (V1.alloc (.cells #[.slice none 0 0,.slice none 0 0,.slice none 0 0,.slice none 0 0] 74)) V1.heap.size 74 [.slice none 0 0,.slice none 0 0,.slice none 0 0,.slice none 0 0]:=Zo _ _ _ rfl
      replace hO2:=hO2.below hb2
      have hbA:=Zb hb1 hb2
      have hYV:V.heap.size≤V1.heap.size:=hb1.size
      go_simp
      refine hK.out _ _ ⟨Za hbA _ _ hS0.1,Za hbA _ _ hS0.2.1,Za hbA _ _ hS0.2.2.1,Za hbA _ _ hS0.2.2.2.1,Za hbA _ _ hS0.2.2.2.2.1,Za hbA _ _ hS0.2.2.2.2.2⟩ (fun hS6=>?_)
      clear hK hb1 hb2
      generalize (V1.alloc (.cells #[.slice none 0 0,.slice none 0 0,.slice none 0 0,.slice none 0 0] 74))=V2 at *
      generalize V1.heap.size=Y at *
      try simp only [Act.put,tka,tkb,tkc]
      refine tkz 11 (fun K hK=>?_)
      refine Zt rfl 74 _ _ rfl Y [.slice z0a z0n z0c,.slice z1a z1n z1c,.slice z2a z2n z2c,.slice z3a z3n z3c] rfl rfl pX (by kernel_rfl) rfl rfl ?_
      intro V8 pX8 g8
      replace hO2:=hO2.kept9 g8 pX (by decide)
      have hbig:=hbA.grown g8 hbA.size (fun q hq=>by cases hq;exact hYV)
      refine hK.out _ _ ⟨Za hbig _ _ hS0.1,Za hbig _ _ hS0.2.1,Za hbig _ _ hS0.2.2.1,Za hbig _ _ hS0.2.2.2.1,Za hbig _ _ hS0.2.2.2.2.1,Za hbig _ _ hS0.2.2.2.2.2⟩ (fun hS7=>?_)
      clear hK pX g8 hbA hYV
      have pX:=pX8.out
      clear pX8
      try simp only [Act.put,tka,tkb,tkc]
      refine tkm 12 15 (.int .i64 f) ?_
      refine wpAnyH_done (by kernel_rfl) ?_ _
      replace bw:=Zb bw hbig
      replace hT9:=hT9.below hbig
      replace hOf:=hOf.below hbig
      clear hbig hS0 hS5 hS6 hS7 pP pS hV kP hc
      have fz:=(ZO hx).1
      have kK:=Vo ((z0a,z0n,z0c),(z1a,z1n,z1c),(z2a,z2n,z2c),(z3a,z3n,z3c)) z V8 (hO2.mem fz) hx
      have uz:S4.val ((z0a,z0n,z0c),(z1a,z1n,z1c),(z2a,z2n,z2c),(z3a,z3n,z3c))=.agg #[.slice z0a z0n z0c,.slice z1a z1n z1c,.slice z2a z2n z2c,.slice z3a z3n z3c]:=rfl
      rw [uz] at kK
      clear uz
      go_wp2_with (first | refine Zc rfl 74 _ rfl Y rfl pX _ Tryz.underlying74 rfl (by kernel_rfl) ?_)
      refine kK.mono ?_
      rintro e Va ⟨rfl,hb⟩
      replace bw:=Zb bw hb
      replace hT9:=hT9.below hb
      replace hOf:=hOf.below hb
      clear hb kK pX hO2 fz hx
      have HKA:Hid (Zy (S'++[(z,i,(k:Int))])=Zy S'++[Ye z]):=Sa _ _
      have HFA:Hid (YQ (S'++[(z,i,(k:Int))])=YQ S'++[(i:Int)]):=QI (List.length_pos_iff.1 hS9) _
      have HBA:Hid (byL (S'++[(z,i,(k:Int))])=byL S'++[(k:Int)]):=Lg (List.length_pos_iff.1 hS9) _
      generalize S'++[(z,i,(k:Int))]=S2 at *
      generalize Ye z=key at *
      have kF:=VD (some ⟨d1,0,none⟩) (Zy S').length e1 (Zy S') key Va (LT hT9.ks) (by rw [Xe];omega)
      have hfi:=T4 (ts:=Zy S') (t:=key) (Zy S').length (Nat.le_refl _)
      rw [List.take_length] at hfi
      generalize Wm (Zy S') key (Zy S').length=fd at *
      have KL:Hid ((Zy S').length=S'.length):=Xe _
      have FL:Hid ((YQ S').length=S'.length):=Up _
      have BL:Hid ((byL S').length=S'.length):=SY _
      go_wp2_with fail
      refine kF.mono ?_
      rintro e Vb ⟨rfl,rfl⟩
      clear kF
      by_cases hmem:key ∈ Zy S'
      ·have hfd:0≤fd:=hfi.2 hmem
       have st3:OnI w wi Va a9 cap rows i (j+1) m S' (.slice (some ⟨g1,0,none⟩) (Zy S).length c1) (.slice (some ⟨g2,0,none⟩) (YQ S).length c2) (.slice (some ⟨g3,0,none⟩) (byL S).length c3) (.slice (some ⟨d1,0,none⟩) (Zy S').length e1) (.slice (some ⟨d2,0,none⟩) (YQ S').length e2) (.slice (some ⟨d3,0,none⟩) (byL S').length e3):=⟨HO.out hmem,hT9,hOf,bw⟩
       clear hfi hmem HO HN HL HKA HFA HBA hT9 hOf bw KL FL BL hS9 hl9
       go_wp2
       go_roundw
       case rel=>exact ⟨j+1,_,by go_num,st3⟩
       case measure=>simp [intOf];omega
      by_cases hfull:S'.length=2000
      ·have hfd:¬ 0≤fd:=fun h=>hmem (hfi.1 h)
       have hln:2000<(Yd rows).length:=HL.out hmem hfull
       have hdd:decide ((Yd rows).length≤2000)=false:=decide_eq_false (by omega)
       have hq1:(((Zy S').length:Int) == 2000)=true:=by rw [KL.out,hfull];rfl
       have hq2:decide (((Zy S').length:Int)=2000)=true:=by rw [KL.out,hfull];rfl
       have HG:Pn (.returned (.tuple #[.slice (some ⟨d1,0,none⟩) (Zy S').length e1,.slice (some ⟨d2,0,none⟩) (YQ S').length e2,.slice (some ⟨d3,0,none⟩) (byL S').length e3,.bool false])) Va w.heap.size (Yd rows):=⟨_,_,_,_,_,_,by rw [hdd],hT9,fun h9=>by omega⟩
       clear hfi hmem HO HN HL HKA HFA HBA hT9 hOf hln hdd hfull KL FL BL hS9 hl9
       go_wp2
       refine bodyPost_ret (by simp [results,Tryz.results75,go_sem];try rfl) rfl ?_
       exact ⟨HG,bw⟩
      have hfd:¬ 0≤fd:=fun h=>hmem (hfi.1 h)
      have hq1:(((Zy S').length:Int) == 2000)=false:=by rw [KL.out];exact beq_false_of_ne (by omega)
      have hq2:decide (((Zy S').length:Int)=2000)=false:=decide_eq_false (by rw [KL.out];omega)
      have HM:Hid (In6 rows i (j+1) m S2):=HN.out hmem hfull
      clear HO HN HL hfi hmem hfull
      go_wp2_with (at_builtin;refine wpList_append_own_at _ rfl _ _ 144 rfl w.heap.size 9 i1 (.string ⟨#[]⟩) 1 16 Tryz.underlying144 hi8 hy0 hy1 hy2 rfl (by decide) _ _ _ rfl (hT9.ks.alloc _) ⟨Va.heap.size,0,none⟩ 1 1 [.string key] rfl rfl (cell_one_new _ _ _) (NT _) ?c3 ?c4 ?c5 ?_)
      case c3=>rw [KL.out];unfold maxLen;omega
      case c4=>rw [KL.out];omega
      case c5=>have:=bw.size;simp;omega
      intro v1 Vc q1 gr1 nil1 at1
      have ha:Below Va.heap.size Va (Va.alloc (.cells #[.string key] 9)):=by go_grown
      have blo:=fun g e=>(ZM hT9.ks (g:=g) e).1
      replace bw:=(Zb bw ha).grown gr1 (Zb bw ha).size (fun g e=>blo g e)
      have at1':v1.ownBlock=(Value.slice (some ⟨d1,0,none⟩) (Zy S').length e1).ownBlock∨v1.ownBlock=some (Va.alloc (.cells #[.string key] 9)).heap.size:=by rw [World.size_alloc];exact at1
      replace hOf:=(hOf.below ha).put1 gr1 at1'
      replace hT9:=(hT9.below ha).put1 (N6 q1) gr1
      clear ha blo q1 gr1 nil1 at1 at1'
      clear hfd hq1 hq2
      go_wp2_with (at_builtin;refine wpList_append_own_at _ rfl _ _ 72 rfl w.heap.size 3 i0 (.int .i64 0) 1 8 Tryz.underlying72 hi9 hz0 hz1 hz2 rfl (by decide) _ _ _ rfl (hT9.fr.alloc _) ⟨Vc.heap.size,0,none⟩ 1 1 [.int .i64 (i:Int)] rfl rfl (cell_one_new _ _ _) (TC _) ?c3 ?c4 ?c5 ?_)
      case c3=>rw [FL.out];unfold maxLen;omega
      case c4=>rw [FL.out];omega
      case c5=>have:=bw.size;simp;omega
      intro v2 Vd q2 gr2 nil2 at2
      have ha:Below Vc.heap.size Vc (Vc.alloc (.cells #[.int .i64 (i:Int)] 3)):=by go_grown
      have blo:=fun g e=>(ZM hT9.fr (g:=g) e).1
      replace bw:=(Zb bw ha).grown gr2 (Zb bw ha).size (fun g e=>blo g e)
      have at2':v2.ownBlock=(Value.slice (some ⟨d2,0,none⟩) (YQ S').length e2).ownBlock∨v2.ownBlock=some (Vc.alloc (.cells #[.int .i64 (i:Int)] 3)).heap.size:=by rw [World.size_alloc];exact at2
      replace hOf:=(hOf.below ha).put2 gr2 at2'
      replace hT9:=(hT9.below ha).put2 (TP q2) gr2 at2'
      clear ha blo q2 gr2 nil2 at2 at2'
      obtain ⟨lb9,lo9,e9,hc,hlb⟩:=Y8 (hOf.ownI hL0 hT40 (Nat.le_refl _)).ints (show j<ln from hlt2)
      cases e9
      rw [HKK.out] at hc
      clear hlb
      go_wp2_with (at_builtin;refine wpList_append_own_at _ rfl _ _ 72 rfl w.heap.size 3 i0 (.int .i64 0) 1 8 Tryz.underlying72 hi9 hz0 hz1 hz2 rfl (by decide) _ _ _ rfl (hT9.bw.alloc _) ⟨Vd.heap.size,0,none⟩ 1 1 [.int .i64 (k:Int)] rfl rfl (cell_one_new _ _ _) (TC _) ?c3 ?c4 ?c5 ?_)
      case c3=>rw [BL.out];unfold maxLen;omega
      case c4=>rw [BL.out];omega
      case c5=>have:=bw.size;simp;omega
      intro v3 Ve q3 gr3 nil3 at3
      have ha:Below Vd.heap.size Vd (Vd.alloc (.cells #[.int .i64 (k:Int)] 3)):=by go_grown
      have blo:=fun g e=>(ZM hT9.bw (g:=g) e).1
      replace bw:=(Zb bw ha).grown gr3 (Zb bw ha).size (fun g e=>blo g e)
      have at3':v3.ownBlock=(Value.slice (some ⟨d3,0,none⟩) (byL S').length e3).ownBlock∨v3.ownBlock=some (Vd.alloc (.cells #[.int .i64 (k:Int)] 3)).heap.size:=by rw [World.size_alloc];exact at3
      replace hOf:=(hOf.below ha).put3 gr3 at3'
      replace hT9:=(hT9.below ha).put3 (TP q3) gr3 at3'
      clear ha blo q3 gr3 nil3 at3 at3'
      rw [← HKA.out,← HFA.out,← HBA.out] at hT9
      have st3:OnI w wi Ve a9 cap rows i (j+1) m S2 (.slice (some ⟨g1,0,none⟩) (Zy S).length c1) (.slice (some ⟨g2,0,none⟩) (YQ S).length c2) (.slice (some ⟨g3,0,none⟩) (byL S).length c3) v1 v2 v3:=⟨HM.out,hT9,hOf,bw⟩
      clear hT9 hOf bw HM HKA HFA HBA KL FL BL hc hS9 hl9
      go_wp2
      go_roundw
      case rel=>exact ⟨j+1,_,by go_num,st3⟩
      case measure=>simp [intOf];omega
     have hb1:Below V.heap.size V (V.alloc (.cells #[.slice none 0 0,.slice none 0 0,.slice none 0 0,.slice none 0 0] 74)):=by go_grown
     have pX:Blk (V.alloc (.cells #[.slice none 0 0,.slice none 0 0,.slice none 0 0,.slice none 0 0] 74)) V.heap.size 74 [.slice none 0 0,.slice none 0 0,.slice none 0 0,.slice none 0 0]:=Zo _ _ _ rfl
     have hYV:V.heap.size≤V.heap.size:=Nat.le_refl _
     go_simp
     refine hK.out _ _ ⟨Za hb1 _ _ hS0.1,Za hb1 _ _ hS0.2.1,Za hb1 _ _ hS0.2.2.1,Za hb1 _ _ hS0.2.2.2.1,Za hb1 _ _ hS0.2.2.2.2.1,Za hb1 _ _ hS0.2.2.2.2.2⟩ (fun hS6=>?_)
     clear hK
     have kPx:=kP _ (Zb bw hb1) ((hV.below hb1).mem fm)
     generalize (V.alloc (.cells #[.slice none 0 0,.slice none 0 0,.slice none 0 0,.slice none 0 0] 74))=V2 at *
     obtain ⟨Y,hY⟩:∃ Y,Y=V.heap.size:=⟨_,rfl⟩
     rw [← hY] at pX hYV ⊢
     replace hYV:V.heap.size≤Y:=by omega
     clear hY
     try simp only [Act.put,tka,tkb,tkc]
     refine tkr 6 52 (fun K hK=>?_)
     go_simp
     refine kPx.mono ?_
     rintro e V3 ⟨⟨⟨⟨z0a,z0n,z0c⟩,⟨z1a,z1n,z1c⟩,⟨z2a,z2n,z2c⟩,⟨z3a,z3n,z3c⟩⟩,rfl,hO2⟩,hb2⟩
     have uz:S4.val ((z0a,z0n,z0c),(z1a,z1n,z1c),(z2a,z2n,z2c),(z3a,z3n,z3c))=.agg #[.slice z0a z0n z0c,.slice z1a z1n z1c,.slice z2a z2n z2c,.slice z3a z3n z3c]:=rfl
     rw [uz]
     clear uz
     go_wp2_with fail
     have hbA:=Zb hb1 hb2
     replace pX:=pX.below hb2
     refine hK.out _ _ ⟨Za hbA _ _ hS0.1,Za hbA _ _ hS0.2.1,Za hbA _ _ hS0.2.2.1,Za hbA _ _ hS0.2.2.2.1,Za hbA _ _ hS0.2.2.2.2.1,Za hbA _ _ hS0.2.2.2.2.2⟩ (fun hS5=>?_)
     clear hK kPx hb1 hb2
     try simp only [Act.put,tka,tkb,tkc]
     refine tkm 7 45 (.tuple #[.agg #[.slice z0a z0n z0c,.slice z1a z1n z1c,.slice z2a z2n z2c,.slice z3a z3n z3c],.int .i64 f]) ?_
     refine tkm 8 53 (.agg #[.slice z0a z0n z0c,.slice z1a z1n z1c,.slice z2a z2n z2c,.slice z3a z3n z3c]) ?_
     refine tkm 9 54 (.int .i64 f) ?_
     refine tkz 11 (fun K hK=>?_)
     refine Zt rfl 74 _ _ rfl Y [.slice z0a z0n z0c,.slice z1a z1n z1c,.slice z2a z2n z2c,.slice z3a z3n z3c] rfl rfl pX (by kernel_rfl) rfl rfl ?_
     intro V8 pX8 g8
     replace hO2:=hO2.kept9 g8 pX (by decide)
     have hbig:=hbA.grown g8 hbA.size (fun q hq=>by cases hq;exact hYV)
     refine hK.out _ _ ⟨Za hbig _ _ hS0.1,Za hbig _ _ hS0.2.1,Za hbig _ _ hS0.2.2.1,Za hbig _ _ hS0.2.2.2.1,Za hbig _ _ hS0.2.2.2.2.1,Za hbig _ _ hS0.2.2.2.2.2⟩ (fun hS7=>?_)
     clear hK pX g8 hbA hYV
     have pX:=pX8.out
     clear pX8
     try simp only [Act.put,tka,tkb,tkc]
     refine tkm 12 15 (.int .i64 f) ?_
     refine wpAnyH_done (by kernel_rfl) ?_ _
     replace bw:=Zb bw hbig
     replace hT9:=hT9.below hbig
     replace hOf:=hOf.below hbig
     clear hbig hS0 hS5 hS6 hS7 pP pS hV kP hc
     have fz:=(ZO hx).1
     have kK:=Vo ((z0a,z0n,z0c),(z1a,z1n,z1c),(z2a,z2n,z2c),(z3a,z3n,z3c)) z V8 (hO2.mem fz) hx
     have uz:S4.val ((z0a,z0n,z0c),(z1a,z1n,z1c),(z2a,z2n,z2c),(z3a,z3n,z3c))=.agg #[.slice z0a z0n z0c,.slice z1a z1n z1c,.slice z2a z2n z2c,.slice z3a z3n z3c]:=rfl
     rw [uz] at kK
     clear uz
     go_wp2_with (first | refine Zc rfl 74 _ rfl Y rfl pX _ Tryz.underlying74 rfl (by kernel_rfl) ?_)
     refine kK.mono ?_
     rintro e Va ⟨rfl,hb⟩
     replace bw:=Zb bw hb
     replace hT9:=hT9.below hb
     replace hOf:=hOf.below hb
     clear hb kK pX hO2 fz hx
     have HKA:Hid (Zy (S'++[(z,i,(k:Int))])=Zy S'++[Ye z]):=Sa _ _
     have HFA:Hid (YQ (S'++[(z,i,(k:Int))])=YQ S'++[(i:Int)]):=QI (List.length_pos_iff.1 hS9) _
     have HBA:Hid (byL (S'++[(z,i,(k:Int))])=byL S'++[(k:Int)]):=Lg (List.length_pos_iff.1 hS9) _
     generalize S'++[(z,i,(k:Int))]=S2 at *
     generalize Ye z=key at *
     have kF:=VD (some ⟨d1,0,none⟩) (Zy S').length e1 (Zy S') key Va (LT hT9.ks) (by rw [Xe];omega)
     have hfi:=T4 (ts:=Zy S') (t:=key) (Zy S').length (Nat.le_refl _)
     rw [List.take_length] at hfi
     generalize Wm (Zy S') key (Zy S').length=fd at *
     have KL:Hid ((Zy S').length=S'.length):=Xe _
     have FL:Hid ((YQ S').length=S'.length):=Up _
     have BL:Hid ((byL S').length=S'.length):=SY _
     go_wp2_with fail
     refine kF.mono ?_
     rintro e Vb ⟨rfl,rfl⟩
     clear kF
     by_cases hmem:key ∈ Zy S'
     ·have hfd:0≤fd:=hfi.2 hmem
      have st3:OnI w wi Va a9 cap rows i (j+1) m S' (.slice (some ⟨g1,0,none⟩) (Zy S).length c1) (.slice (some ⟨g2,0,none⟩) (YQ S).length c2) (.slice (some ⟨g3,0,none⟩) (byL S).length c3) (.slice (some ⟨d1,0,none⟩) (Zy S').length e1) (.slice (some ⟨d2,0,none⟩) (YQ S').length e2) (.slice (some ⟨d3,0,none⟩) (byL S').length e3):=⟨HO.out hmem,hT9,hOf,bw⟩
      clear hfi hmem HO HN HL HKA HFA HBA hT9 hOf bw KL FL BL hS9 hl9
      go_wp2
      go_roundw
      case rel=>exact ⟨j+1,_,by go_num,st3⟩
      case measure=>simp [intOf];omega
     by_cases hfull:S'.length=2000
     ·have hfd:¬ 0≤fd:=fun h=>hmem (hfi.1 h)
      have hln:2000<(Yd rows).length:=HL.out hmem hfull
      have hdd:decide ((Yd rows).length≤2000)=false:=decide_eq_false (by omega)
      have hq1:(((Zy S').length:Int) == 2000)=true:=by rw [KL.out,hfull];rfl
      have hq2:decide (((Zy S').length:Int)=2000)=true:=by rw [KL.out,hfull];rfl
      have HG:Pn (.returned (.tuple #[.slice (some ⟨d1,0,none⟩) (Zy S').length e1,.slice (some ⟨d2,0,none⟩) (YQ S').length e2,.slice (some ⟨d3,0,none⟩) (byL S').length e3,.bool false])) Va w.heap.size (Yd rows):=⟨_,_,_,_,_,_,by rw [hdd],hT9,fun h9=>by omega⟩
      clear hfi hmem HO HN HL HKA HFA HBA hT9 hOf hln hdd hfull KL FL BL hS9 hl9
      go_wp2
      refine bodyPost_ret (by simp [results,Tryz.results75,go_sem];try rfl) rfl ?_
      exact ⟨HG,bw⟩
     have hfd:¬ 0≤fd:=fun h=>hmem (hfi.1 h)
     have hq1:(((Zy S').length:Int) == 2000)=false:=by rw [KL.out];exact beq_false_of_ne (by omega)
     have hq2:decide (((Zy S').length:Int)=2000)=false:=decide_eq_false (by rw [KL.out];omega)
     have HM:Hid (In6 rows i (j+1) m S2):=HN.out hmem hfull
     clear HO HN HL hfi hmem hfull
     go_wp2_with (at_builtin;refine wpList_append_own_at _ rfl _ _ 144 rfl w.heap.size 9 i1 (.string ⟨#[]⟩) 1 16 Tryz.underlying144 hi8 hy0 hy1 hy2 rfl (by decide) _ _ _ rfl (hT9.ks.alloc _) ⟨Va.heap.size,0,none⟩ 1 1 [.string key] rfl rfl (cell_one_new _ _ _) (NT _) ?c3 ?c4 ?c5 ?_)
     case c3=>rw [KL.out];unfold maxLen;omega
     case c4=>rw [KL.out];omega
     case c5=>have:=bw.size;simp;omega
     intro v1 Vc q1 gr1 nil1 at1
     have ha:Below Va.heap.size Va (Va.alloc (.cells #[.string key] 9)):=by go_grown
     have blo:=fun g e=>(ZM hT9.ks (g:=g) e).1
     replace bw:=(Zb bw ha).grown gr1 (Zb bw ha).size (fun g e=>blo g e)
     have at1':v1.ownBlock=(Value.slice (some ⟨d1,0,none⟩) (Zy S').length e1).ownBlock∨v1.ownBlock=some (Va.alloc (.cells #[.string key] 9)).heap.size:=by rw [World.size_alloc];exact at1
     replace hOf:=(hOf.below ha).put1 gr1 at1'
     replace hT9:=(hT9.below ha).put1 (N6 q1) gr1
     clear ha blo q1 gr1 nil1 at1 at1'
     clear hfd hq1 hq2
     go_wp2_with (at_builtin;refine wpList_append_own_at _ rfl _ _ 72 rfl w.heap.size 3 i0 (.int .i64 0) 1 8 Tryz.underlying72 hi9 hz0 hz1 hz2 rfl (by decide) _ _ _ rfl (hT9.fr.alloc _) ⟨Vc.heap.size,0,none⟩ 1 1 [.int .i64 (i:Int)] rfl rfl (cell_one_new _ _ _) (TC _) ?c3 ?c4 ?c5 ?_)
     case c3=>rw [FL.out];unfold maxLen;omega
     case c4=>rw [FL.out];omega
     case c5=>have:=bw.size;simp;omega
     intro v2 Vd q2 gr2 nil2 at2
     have ha:Below Vc.heap.size Vc (Vc.alloc (.cells #[.int .i64 (i:Int)] 3)):=by go_grown
     have blo:=fun g e=>(ZM hT9.fr (g:=g) e).1
     replace bw:=(Zb bw ha).grown gr2 (Zb bw ha).size (fun g e=>blo g e)
     have at2':v2.ownBlock=(Value.slice (some ⟨d2,0,none⟩) (YQ S').length e2).ownBlock∨v2.ownBlock=some (Vc.alloc (.cells #[.int .i64 (i:Int)] 3)).heap.size:=by rw [World.size_alloc];exact at2
     replace hOf:=(hOf.below ha).put2 gr2 at2'
     replace hT9:=(hT9.below ha).put2 (TP q2) gr2 at2'
     clear ha blo q2 gr2 nil2 at2 at2'
     obtain ⟨lb9,lo9,e9,hc,hlb⟩:=Y8 (hOf.ownI hL0 hT40 (Nat.le_refl _)).ints (show j<ln from hlt2)
     cases e9
     rw [HKK.out] at hc
     clear hlb
     go_wp2_with (at_builtin;refine wpList_append_own_at _ rfl _ _ 72 rfl w.heap.size 3 i0 (.int .i64 0) 1 8 Tryz.underlying72 hi9 hz0 hz1 hz2 rfl (by decide) _ _ _ rfl (hT9.bw.alloc _) ⟨Vd.heap.size,0,none⟩ 1 1 [.int .i64 (k:Int)] rfl rfl (cell_one_new _ _ _) (TC _) ?c3 ?c4 ?c5 ?_)
     case c3=>rw [BL.out];unfold maxLen;omega
     case c4=>rw [BL.out];omega
     case c5=>have:=bw.size;simp;omega
     intro v3 Ve q3 gr3 nil3 at3
     have ha:Below Vd.heap.size Vd (Vd.alloc (.cells #[.int .i64 (k:Int)] 3)):=by go_grown
     have blo:=fun g e=>(ZM hT9.bw (g:=g) e).1
     replace bw:=(Zb bw ha).grown gr3 (Zb bw ha).size (fun g e=>blo g e)
     have at3':v3.ownBlock=(Value.slice (some ⟨d3,0,none⟩) (byL S').length e3).ownBlock∨v3.ownBlock=some (Vd.alloc (.cells #[.int .i64 (k:Int)] 3)).heap.size:=by rw [World.size_alloc];exact at3
     replace hOf:=(hOf.below ha).put3 gr3 at3'
     replace hT9:=(hT9.below ha).put3 (TP q3) gr3 at3'
     clear ha blo q3 gr3 nil3 at3 at3'
     rw [← HKA.out,← HFA.out,← HBA.out] at hT9
     have st3:OnI w wi Ve a9 cap rows i (j+1) m S2 (.slice (some ⟨g1,0,none⟩) (Zy S).length c1) (.slice (some ⟨g2,0,none⟩) (YQ S).length c2) (.slice (some ⟨g3,0,none⟩) (byL S).length c3) v1 v2 v3:=⟨HM.out,hT9,hOf,bw⟩
     clear hT9 hOf bw HM HKA HFA HBA KL FL BL hc hS9 hl9
     go_wp2
     go_roundw
     case rel=>exact ⟨j+1,_,by go_num,st3⟩
     case measure=>simp [intOf];omega
    have hge2:¬ (j:Int)<(ln:Int):=by omega
    have hO7:=hJ6.fin (show (Zj rows m 3).length≤j by omega)
    have st4:OnO w wr a9 cap rows (i+1) S' (.slice (some ⟨d1,0,none⟩) (Zy S').length e1) (.slice (some ⟨d2,0,none⟩) (YQ S').length e2) (.slice (some ⟨d3,0,none⟩) (byL S').length e3):=⟨hO7,hT9,bw,pP⟩
    clear hO7 hT9 bw pP pS hV hL hJ6 hOf hT
    go_wp2
    go_roundw
    case rel=>exact ⟨i+1,_,by go_num,st4⟩
    case measure=>simp [intOf];omega
  have hfe:=hO6.fin (by omega)
  have hge:¬ (i:Int)<((Zy S).length:Int):=by have:=HEI.out;omega
  have hd:decide ((Yd rows).length≤2000)=true:=by rw [hfe];exact decide_eq_true hl2
  have HG:Pn (.returned (.tuple #[.slice (some ⟨g1,0,none⟩) (Zy S).length c1,.slice (some ⟨g2,0,none⟩) (YQ S).length c2,.slice (some ⟨g3,0,none⟩) (byL S).length c3,.bool true])) wr w.heap.size (Yd rows):=⟨_,_,_,_,_,_,by rw [hd],hT,fun _=>by rw [hfe];exact ⟨rfl,rfl,rfl⟩⟩
  clear hfe hd hT hO6 pP HEI hl2 hc1 hc2 hc3 hS0 hlt
  go_wp2
  refine bodyPost_ret (by simp [results,Tryz.results75,go_sem];try rfl) rfl ?_
  exact ⟨HG,bw⟩
end Go.Proofs.YtmhlokahmblboaaGreatDoor
