/-
  Joined: StsS, AstI, CntI, RbgI.
-/
import Derived.Deep.CutRange
import Derived.Test.YtojcgajjnmjjpaaGreatDoorE34
import Derived.Test.YtojcgajjnmjjpaaGreatDoorE35

namespace Go.Proofs.YtojcgajjnmjjpaaGreatDoor
set_option maxRecDepth 100000
set_option maxHeartbeats 16000000
open Go.RowKit
set_option linter.unusedVariables false
set_option linter.unusedSimpArgs false

theorem Kv:(Tryz.prog.info? 9).map (fun i=>(i.zero,i.size,i.bytes))=some (some (.string ⟨#[]⟩),1,16):=by kernel_rfl
theorem Wp.ownI {wi w w0:World} {v1 v2 v3 u1 u2 u3:Value} {B B0:Nat} {ts:List ByteArray} {fs bs zs:List Int} {s:Sl} (h:Wp wi w v1 v2 v3 u1 u2 u3) (ho:ZI wi B s zs) (hT:Tri w0 B0 v1 v2 v3 ts fs bs) (hB:w0.heap.size≤B):ZI w B s zs:=
 Wp.row h ho (Ap3.fresh hT.ks ho hB).symm (Ap3.fresh hT.fr ho hB).symm (Ap3.fresh hT.bw ho hB).symm
theorem Wp.ownV {wi w w0:World} {v1 v2 v3 u1 u2 u3:Value} {B B0:Nat} {ts:List ByteArray} {fs bs:List Int} {s:S4} {m:V4} (h:Wp wi w v1 v2 v3 u1 u2 u3) (ho:ZQ wi B s m) (hT:Tri w0 B0 v1 v2 v3 ts fs bs) (hB:w0.heap.size≤B):ZQ w B s m:=
 ⟨⟨h.ownI ho.1.1 hT hB,h.ownI ho.1.2.1 hT hB,h.ownI ho.1.2.2.1 hT hB,h.ownI ho.1.2.2.2 hT hB⟩,ho.2⟩
theorem Wp.blk {wi w:World} {v1 v2 v3 u1 u2 u3:Value} {B g t:Nat} {ts:List ByteArray} {fs bs:List Int} {cs:List Value} (h:Wp wi w v1 v2 v3 u1 u2 u3) (p:Blk wi g t cs) (hT:Tri wi B v1 v2 v3 ts fs bs) (h1:9≠t) (h2:3≠t):Blk w g t cs:=
 (h.keep g p.lt (Z5 hT.ks p h1) (Z5 hT.fr p h2) (Z5 hT.bw p h2)).trans p
theorem LZ {w:World} {B g n c:Nat} {ts:List ByteArray} (h:w.ownsRow B 9 1 (.slice (some ⟨g,0,none⟩) n c) n (ts.map Value.string)):Strs w (some ⟨g,0,none⟩) n c ts:=by
 obtain ⟨a,cap,e,hT⟩:=JK.of_owns h
 cases e
 exact hT.strs
theorem N0 (t:ByteArray):∀ u ∈ [Value.string t],u.oneCell'=true:=by intro u hu;simp at hu;subst hu;rfl
theorem TK (x:Int):∀ u ∈ [Value.int .i64 x],u.oneCell'=true:=by intro u hu;simp at hu;subst hu;rfl
theorem Md {w:World} {B:Nat} {v:Value} {ts:List ByteArray} {t:ByteArray} (h:w.ownsRow B 9 1 v (ts.length+1) (ts.map Value.string++[.string t])):w.ownsRow B 9 1 v (ts++[t]).length ((ts++[t]).map Value.string):=by simpa using h
theorem TX {w:World} {B:Nat} {v:Value} {zs:List Int} {z:Int} (h:w.ownsRow B 3 1 v (zs.length+1) (zs.map (Value.int .i64)++[.int .i64 z])):w.ownsRow B 3 1 v (zs++[z]).length ((zs++[z]).map (Value.int .i64)):=by simpa using h

def Pu (e:Ending) (w:World) (B:Nat) (F:List (Zr V4)):Prop:=∃ (v1 v2 v3:Value) (ts:List ByteArray) (fs bs:List Int),e=.returned (.tuple #[v1,v2,v3,.bool (decide (F.length≤2000))])∧Tri w B v1 v2 v3 ts fs bs∧(F.length≤2000→ts=ZA F∧fs=YT F∧bs=byL F)
def OnO (w wr:World) (a9:Option Addr) (cap:Nat) (rows:List (List I3)) (i:Nat) (S:List (Zr V4)) (v1 v2 v3:Value):Prop:=
 Ps rows i S∧Tri wr w.heap.size v1 v2 v3 (ZA S) (YT S) (byL S)∧Below w.heap.size w wr∧Blk wr w.heap.size 25 [.slice a9 3 cap]

def OnI (w wi wr:World) (a9:Option Addr) (cap:Nat) (rows:List (List I3)) (i j:Nat) (m:V4) (S:List (Zr V4)) (v1 v2 v3 u1 u2 u3:Value):Prop:=
 In6 rows i j m S∧Tri wr w.heap.size u1 u2 u3 (ZA S) (YT S) (byL S)∧Wp wi wr v1 v2 v3 u1 u2 u3∧Below w.heap.size w wr

theorem PR {w:World} {a9:Option Addr} {cap:Nat} {cs:Sl × Sl × Sl} {rows:List (List I3)} (hR:Z7 w a9 cs rows) (hp:Zn rows=true) :
  Calls Tryz.prog 77 #[.agg #[.slice a9 3 cap]] w fun e w'=>Pu e w' w.heap.size (Yd rows)∧Below w.heap.size w w':=by
 have fz:=(ZP ZJ).1
 have kN:=XZ
 have kK:=fun (W:World) (t:S4) (h:Yl W t Zl)=>Vu t Zl W h ZJ
 have bw:Below w.heap.size w (w.alloc (.cells #[.slice a9 3 cap] 25)):=by go_grown
 have pP:Blk (w.alloc (.cells #[.slice a9 3 cap] 25)) w.heap.size 25 [.slice a9 3 cap]:=Zp _ _ _ rfl
 go_enter Tryz.func77,Tryz.ntmps77
 go_wp2_with fail
 generalize w.alloc (.cells #[.slice a9 3 cap] 25)=U at *
 refine (kN _).mono ?_
 rintro e w1 ⟨⟨⟨⟨t0a,t0n,t0c⟩,⟨t1a,t1n,t1c⟩,⟨t2a,t2n,t2c⟩,⟨t3a,t3n,t3c⟩⟩,rfl,hO⟩,hb⟩
 have ut:S4.val ((t0a,t0n,t0c),(t1a,t1n,t1c),(t2a,t2n,t2c),(t3a,t3n,t3c))=.agg #[.slice t0a t0n t0c,.slice t1a t1n t1c,.slice t2a t2n t2c,.slice t3a t3n t3c]:=rfl
 replace bw:=Zb bw hb
 replace pP:=pP.below hb
 have kKx:=kK w1 _ (hO.mem fz)
 rw [ut] at kKx ⊢
 clear hb kN kK ut hO fz
 go_wp2_with fail
 refine kKx.mono ?_
 rintro e w2 ⟨rfl,hb⟩
 replace bw:=Zb bw hb
 replace pP:=pP.below hb
 clear hb kKx
 have hb:Below w2.heap.size w2 (((w2.alloc (.cells #[.string (Yf Zl)] 9)).alloc (.cells #[.int .i64 (-1)] 3)).alloc (.cells #[.int .i64 (-1)] 3)):=by go_grown
 have hbs:=bw.size
 have q1:((w2.alloc (.cells #[.string (Yf Zl)] 9)).alloc (.cells #[.int .i64 (-1)] 3)).alloc (.cells #[.int .i64 (-1)] 3) |>.ownsRow w.heap.size 9 1 (.slice (some ⟨w2.heap.size,0,none⟩) 1 1) 1 [.string (Yf Zl)]:=
  ((World.ownsRow_lit w2 #[.string (Yf Zl)] 1 hbs (by unfold maxLen;omega) (by simp)).alloc _).alloc _
 have q2:((w2.alloc (.cells #[.string (Yf Zl)] 9)).alloc (.cells #[.int .i64 (-1)] 3)).alloc (.cells #[.int .i64 (-1)] 3) |>.ownsRow w.heap.size 3 1 (.slice (some ⟨w2.heap.size+1,0,none⟩) 1 1) 1 [.int .i64 (-1)]:=by
  have h9:=(World.ownsRow_lit (base:=w.heap.size) (e:=3) (size:=1) (w2.alloc (.cells #[.string (Yf Zl)] 9)) #[.int .i64 (-1)] 1 (by simp;omega) (by unfold maxLen;omega) (by simp)).alloc (.cells #[.int .i64 (-1)] 3)
  simpa using h9
 have q3:((w2.alloc (.cells #[.string (Yf Zl)] 9)).alloc (.cells #[.int .i64 (-1)] 3)).alloc (.cells #[.int .i64 (-1)] 3) |>.ownsRow w.heap.size 3 1 (.slice (some ⟨w2.heap.size+1+1,0,none⟩) 1 1) 1 [.int .i64 (-1)]:=by
  have h9:=World.ownsRow_lit (base:=w.heap.size) (e:=3) (size:=1) ((w2.alloc (.cells #[.string (Yf Zl)] 9)).alloc (.cells #[.int .i64 (-1)] 3)) #[.int .i64 (-1)] 1 (by simp;omega) (by unfold maxLen;omega) (by simp)
  simpa using h9
 have st:OnO w (((w2.alloc (.cells #[.string (Yf Zl)] 9)).alloc (.cells #[.int .i64 (-1)] 3)).alloc (.cells #[.int .i64 (-1)] 3)) a9 cap rows 0 [(Zl,0,0)] (.slice (some ⟨w2.heap.size,0,none⟩) 1 1) (.slice (some ⟨w2.heap.size+1,0,none⟩) 1 1) (.slice (some ⟨w2.heap.size+1+1,0,none⟩) 1 1):=
  ⟨Ps.start rows,⟨q1,q2,q3,fun g hg h2=>by simp [Value.ownBlock] at hg h2;omega⟩,Zb bw hb,pP.below hb⟩
 clear q1 q2 q3 hb hbs bw pP
 go_wp2_with fail
 go_loopw [6,7,8,9] (fun s6 s7 s8 s9 wr=>∃ (i:Nat) (S:List (Zr V4)),s9=.int .i64 i∧OnO w wr a9 cap rows i S s6 s7 s8) (fun _ _ _ s9 _=>2001 - (intOf s9).toNat)
 case atStart=>exact ⟨0,_,rfl,st⟩
 case round =>
  clear st
  obtain ⟨i,S,rfl,hO6,hT,bw,pP⟩:=hrel
  obtain ⟨i0,hi9,hz0,hz1,hz2⟩:=info_parts Xe
  obtain ⟨i1,hi8,hy0,hy1,hy2⟩:=info_parts Kv
  have hS0:0<S.length:=List.length_pos_iff.2 hO6.pos
  obtain ⟨g1,c1,rfl,hc1,_⟩:=XK hT.ks (by rw [Xh];exact hS0)
  obtain ⟨g2,c2,rfl,hc2,_⟩:=XK hT.fr (by rw [Ux];exact hS0)
  obtain ⟨g3,c3,rfl,hc3,_⟩:=XK hT.bw (by rw [S8];exact hS0)
  have hl2:=hO6.len
  have HEI:Hid ((ZA S).length=S.length):=Xh S
  by_cases hlt:i<S.length
  ·obtain ⟨m,hm⟩:∃ m,m=(S[i]'hlt).1:=⟨_,rfl⟩
   have hI6:=hO6.go hlt
   rw [← hm] at hI6
   have hs:Zk m=true:=by rw [hm];exact hO6.shp _ (List.getElem_mem hlt)
   have hkm:(ZA S)[i]?=some (Yf m):=by unfold ZA;rw [List.getElem?_map,List.getElem?_eq_getElem hlt,hm];rfl
   have hc:=Pj hT.ks (by have:=HEI.out;omega) hkm
   have hlt1:(i:Int)<((ZA S).length:Int):=by have:=HEI.out;omega
   have hi0:(0:Int)≤(i:Int):=by omega
   have kO:=RT hs wr
   have hT0:=hT
   clear hm hkm
   go_wp2_with fail
   refine kO.mono ?_
   rintro e w3 ⟨⟨⟨⟨t0a,t0n,t0c⟩,⟨t1a,t1n,t1c⟩,⟨t2a,t2n,t2c⟩,⟨t3a,t3n,t3c⟩⟩,rfl,hV⟩,hb⟩
   have ut:S4.val ((t0a,t0n,t0c),(t1a,t1n,t1c),(t2a,t2n,t2c),(t3a,t3n,t3c))=.agg #[.slice t0a t0n t0c,.slice t1a t1n t1c,.slice t2a t2n t2c,.slice t3a t3n t3c]:=rfl
   rw [ut]
   replace bw:=Zb bw hb
   replace pP:=pP.below hb
   replace hT:=hT.below hb
   clear hb kO hc
   have pN:=Blk.new w3 37 [.slice none 0 0,.slice none 0 0,.slice none 0 0,.slice none 0 0]
   have hbN:Below w3.heap.size w3 (w3.alloc (.cells #[.slice none 0 0,.slice none 0 0,.slice none 0 0,.slice none 0 0] 37)):=by go_grown
   go_wp2_with (refine Ze rfl 37 _ _ rfl w3.heap.size [.slice t0a t0n t0c,.slice t1a t1n t1c,.slice t2a t2n t2c,.slice t3a t3n t3c] rfl rfl pN (by kernel_rfl) rfl rfl ?_)
   intro w4 pS4 g4
   have pS:=pS4.out
   have hb4:Below w3.heap.size w3 w4:=hbN.grown g4 hbN.size (fun k e=>by cases e;exact Nat.le_refl _)
   replace bw:=Zb bw hb4
   replace pP:=pP.below hb4
   replace hT:=hT.below hb4
   replace hV:=hV.below hb4
   clear pS4 g4 hbN pN hb4
   have fm:=(ZP hs).1
   have hT4:=hT
   have kE:=XA a9 3 cap rows ((t0a,t0n,t0c),(t1a,t1n,t1c),(t2a,t2n,t2c),(t3a,t3n,t3c)) m cs w4 rfl (hR.below bw) (hV.mem fm) hp hs
   rw [ut] at kE
   generalize w3.heap.size=X at *
   go_wp2_with (first | refine Zc rfl 25 _ rfl w.heap.size rfl pP _ Tryz.underlying25 rfl (by kernel_rfl) ?_ | refine Zc rfl 37 _ rfl X rfl pS _ Tryz.underlying37 rfl (by kernel_rfl) ?_)
   refine kE.mono ?_
   rintro e wi ⟨⟨⟨la,ln,lc⟩,rfl,hL⟩,hb⟩
   replace bw:=Zb bw hb
   replace pP:=pP.below hb
   replace pS:=pS.below hb
   replace hT:=hT.below hb
   replace hV:=hV.below hb
   clear hb kE
   have hLn:(Zj rows m 3).length=ln:=by have:=hL.1;simpa using this
   have st2:OnI w wi wi a9 cap rows i 0 m S (.slice (some ⟨g1,0,none⟩) (ZA S).length c1) (.slice (some ⟨g2,0,none⟩) (YT S).length c2) (.slice (some ⟨g3,0,none⟩) (byL S).length c3) (.slice (some ⟨g1,0,none⟩) (ZA S).length c1) (.slice (some ⟨g2,0,none⟩) (YT S).length c2) (.slice (some ⟨g3,0,none⟩) (byL S).length c3):=⟨hI6,hT,Wp.refl _ _ _ _,bw⟩
   go_wp2_with fail
   go_loopw [6,7,8,13] (fun s6 s7 s8 s13 wq=>∃ (j:Nat) (S':List (Zr V4)),s13=.int .i64 j∧OnI w wi wq a9 cap rows i j m S' (.slice (some ⟨g1,0,none⟩) (ZA S).length c1) (.slice (some ⟨g2,0,none⟩) (YT S).length c2) (.slice (some ⟨g3,0,none⟩) (byL S).length c3) s6 s7 s8) (fun _ _ _ s13 _=>ln - (intOf s13).toNat)
   case atStart=>exact ⟨0,_,rfl,st2⟩
   case round =>
    clear st2 hI6 hO6
    obtain ⟨j,S',rfl,hJ6,hT9,hOf,bw9⟩:=hrel
    have hL0:=hL
    have hT40:=hT4
    replace hL:=hOf.ownI hL hT4 (Nat.le_refl _)
    replace hV:=hOf.ownV hV hT0 (Nat.le_refl _)
    replace pP:=hOf.blk pP hT (by decide) (by decide)
    replace pS:=hOf.blk pS hT (by decide) (by decide)
    clear bw hT0 hT4
    have bw:=bw9
    clear bw9
    have hS9:0<S'.length:=Nat.lt_of_le_of_lt (Nat.zero_le _) hJ6.at9
    have hl9:=hJ6.len
    obtain ⟨d1,e1,rfl,he1,_⟩:=XK hT9.ks (by rw [Xh];exact hS9)
    obtain ⟨d2,e2,rfl,he2,_⟩:=XK hT9.fr (by rw [Ux];exact hS9)
    obtain ⟨d3,e3,rfl,he3,_⟩:=XK hT9.bw (by rw [S8];exact hS9)
    by_cases hlt2:j<ln
    ·have hkj:(Zj rows m 3)[j]?=some ((Zj rows m 3).getD j 0):=by rw [List.getD,List.getElem?_eq_getElem (by omega)];rfl
     have hz:=Yb (List.mem_of_getElem? hkj)
     obtain ⟨h0k,h2k,hd,_⟩:=ZY hz
     obtain ⟨k,hk⟩:∃ k:Nat,(Zj rows m 3).getD j 0=(k:Int):=⟨_,(Int.toNat_of_nonneg h0k).symm⟩
     obtain ⟨lb,lo,rfl,hc,hlb⟩:=Xa hL.ints (show j<ln from hlt2)
     rw [hk] at hkj hz hd h0k h2k hc
     rw [Int.toNat_natCast] at hd
     have hk3:k<3:=by omega
     have HKK:Hid ((Zj rows m 3).getD j 0=(k:Int)):=hk
     clear hk hlb
     have hx:=ZW hp hs hz
     have HO:Hid (Yf (goM rows m (k:Int)).1 ∈ ZA S'→In6 rows i (j+1) m S'):=fun h=>hJ6.old hkj hx h
     have HN:Hid (Yf (goM rows m (k:Int)).1 ∉ ZA S'→S'.length≠2000→In6 rows i (j+1) m (S'++[((goM rows m (k:Int)).1,i,(k:Int))])):=fun h h2=>hJ6.new hkj hx h h2
     have HL:Hid (Yf (goM rows m (k:Int)).1 ∉ ZA S'→S'.length=2000→2000<(Yd rows).length):=fun h h2=>hJ6.full hkj hx h h2
     have kP:=fun (W:World) (b:Below w.heap.size w W) (h:Yl W ((t0a,t0n,t0c),(t1a,t1n,t1c),(t2a,t2n,t2c),(t3a,t3n,t3c)) m)=>WR (cap:=cap) rfl (hR.below b) h hp hs hk3 hd
     rw [← Wv,ut] at kP
     generalize goM rows m (k:Int)=zf at *
     obtain ⟨z,f⟩:=zf
     simp only at kP HO HN HL hx
     have hlt3:(j:Int)<(ln:Int):=by omega
     have hj0:(0:Int)≤(j:Int):=by omega
     have hj9:j<10:=by have:=YF rows m 3;omega
     clear hkj hz hd hLn hJ6
     go_wp2_with fail
     have hb9:Below wr.heap.size wr wr.drew:=by go_grown
     refine wp_region_held_drew (S:=(fun w'=>w'.cell? ⟨w.heap.size,0,none⟩=some (.slice a9 3 cap)∧w'.cell? ⟨X,0,none⟩=some (.slice t0a t0n t0c)∧w'.cell? ⟨X,1,none⟩=some (.slice t1a t1n t1c)∧w'.cell? ⟨X,2,none⟩=some (.slice t2a t2n t2c)∧w'.cell? ⟨X,3,none⟩=some (.slice t3a t3n t3c)∧w'.cell? ⟨lb,lo+j,none⟩=some (.int .i64 (k:Int)))) (by kernel_rfl) ⟨by simpa using pP.cell 0,by simpa using pS.cell 0,by simpa using pS.cell 1,by simpa using pS.cell 2,by simpa using pS.cell 3,hc⟩ (fun hS0=>?_)
     refine tkm 0 46 (.agg #[.slice a9 3 cap]) ?_
     refine tkm 1 47 (.agg #[.slice t0a t0n t0c,.slice t1a t1n t1c,.slice t2a t2n t2c,.slice t3a t3n t3c]) ?_
     refine tkm 2 48 (.slice (some ⟨lb,lo,none⟩) ln lc) ?_
     refine tkm 3 49 (.int .i64 (j:Int)) ?_
     refine tkm 4 50 (.pointer (some ⟨lb,lo+j,none⟩)) ?_
     refine tkm 5 51 (.int .i64 (k:Int)) ?_
     replace bw:=Zb bw hb9
     replace pP:=pP.below hb9
     replace pS:=pS.below hb9
     replace hV:=hV.below hb9
     replace hT9:=hT9.below hb9
     replace hOf:=hOf.below hb9
     replace hL:=hL.below hb9
     replace hc:=Za hb9 _ _ hc
     clear hb9
     generalize wr.drew=V at *
     refine wpAnyH_ready (rs:=[6,10]) (by kernel_rfl) (by simp) ?_
     refine AllReadyH.cons (o:=⟨some 52,_,_,_,_,_⟩) rfl (fun K hK=>?_) (AllReadyH.cons (o:=⟨some 14,_,_,_,_,_⟩) rfl (fun K hK=>?_) AllReadyH.nil)
     ·have kPx:=kP V bw (hV.mem fm)
      go_simp
      refine kPx.mono ?_
      rintro e V1 ⟨⟨⟨⟨z0a,z0n,z0c⟩,⟨z1a,z1n,z1c⟩,⟨z2a,z2n,z2c⟩,⟨z3a,z3n,z3c⟩⟩,rfl,hO2⟩,hb1⟩
      have uz:S4.val ((z0a,z0n,z0c),(z1a,z1n,z1c),(z2a,z2n,z2c),(z3a,z3n,z3c))=.agg #[.slice z0a z0n z0c,.slice z1a z1n z1c,.slice z2a z2n z2c,.slice z3a z3n z3c]:=rfl
      rw [uz]
      clear uz
      go_wp2_with fail
      refine hK.out _ _ ⟨Za hb1 _ _ hS0.1,Za hb1 _ _ hS0.2.1,Za hb1 _ _ hS0.2.2.1,Za hb1 _ _ hS0.2.2.2.1,Za hb1 _ _ hS0.2.2.2.2.1,Za hb1 _ _ hS0.2.2.2.2.2⟩ (fun hS5=>?_)
      clear hK kPx
      try simp only [Act.put,tka,tkb,tkc]
      refine tkm 7 45 (.tuple #[.agg #[.slice z0a z0n z0c,.slice z1a z1n z1c,.slice z2a z2n z2c,.slice z3a z3n z3c],.int .i64 f]) ?_
      refine tkm 8 53 (.agg #[.slice z0a z0n z0c,.slice z1a z1n z1c,.slice z2a z2n z2c,.slice z3a z3n z3c]) ?_
      refine tkm 9 54 (.int .i64 f) ?_
      refine tkr 10 14 (fun K hK=>?_)
      have hb2:Below V1.heap.size V1 (V1.alloc (.cells #[.slice none 0 0,.slice none 0 0,.slice none 0 0,.slice none 0 0] 37)):=by go_grown
      have pX:Blk (V1.alloc (.cells #[.slice none 0 0,.slice none 0 0,.slice none 0 0,.slice none 0 0] 37)) V1.heap.size 37 [.slice none 0 0,.slice none 0 0,.slice none 0 0,.slice none 0 0]:=Zp _ _ _ rfl
      replace hO2:=hO2.below hb2
      have hbA:=Zb hb1 hb2
      have hYV:V.heap.size≤V1.heap.size:=hb1.size
      go_simp
      refine hK.out _ _ ⟨Za hbA _ _ hS0.1,Za hbA _ _ hS0.2.1,Za hbA _ _ hS0.2.2.1,Za hbA _ _ hS0.2.2.2.1,Za hbA _ _ hS0.2.2.2.2.1,Za hbA _ _ hS0.2.2.2.2.2⟩ (fun hS6=>?_)
      clear hK hb1 hb2
      generalize (V1.alloc (.cells #[.slice none 0 0,.slice none 0 0,.slice none 0 0,.slice none 0 0] 37))=V2 at *
      generalize V1.heap.size=Y at *
      try simp only [Act.put,tka,tkb,tkc]
      refine tkz 11 (fun K hK=>?_)
      refine Zw rfl 37 _ _ rfl Y [.slice z0a z0n z0c,.slice z1a z1n z1c,.slice z2a z2n z2c,.slice z3a z3n z3c] rfl rfl pX (by kernel_rfl) rfl rfl ?_
      intro V8 pX8 g8
      replace hO2:=hO2.kept9 g8 pX (by decide)
      have hbig:=hbA.grown g8 hbA.size (fun q hq=>by cases hq;exact hYV)
      refine hK.out _ _ ⟨Za hbig _ _ hS0.1,Za hbig _ _ hS0.2.1,Za hbig _ _ hS0.2.2.1,Za hbig _ _ hS0.2.2.2.1,Za hbig _ _ hS0.2.2.2.2.1,Za hbig _ _ hS0.2.2.2.2.2⟩ (fun hS7=>?_)
      clear hK pX g8 hbA hYV
      have pX:=pX8.out
      clear pX8
      try simp only [Act.put,tka,tkb,tkc]
      refine tkm 12 15 (.int .i64 f) ?_
      refine wpAnyH_done (by kernel_rfl) ?_ _
      replace bw:=Zb bw hbig
      replace hT9:=hT9.below hbig
      replace hOf:=hOf.below hbig
      clear hbig hS0 hS5 hS6 hS7 pP pS hV kP hc
      have fz:=(ZP hx).1
      have kK:=Vu ((z0a,z0n,z0c),(z1a,z1n,z1c),(z2a,z2n,z2c),(z3a,z3n,z3c)) z V8 (hO2.mem fz) hx
      have uz:S4.val ((z0a,z0n,z0c),(z1a,z1n,z1c),(z2a,z2n,z2c),(z3a,z3n,z3c))=.agg #[.slice z0a z0n z0c,.slice z1a z1n z1c,.slice z2a z2n z2c,.slice z3a z3n z3c]:=rfl
      rw [uz] at kK
      clear uz
      go_wp2_with (first | refine Zc rfl 37 _ rfl Y rfl pX _ Tryz.underlying37 rfl (by kernel_rfl) ?_)
      refine kK.mono ?_
      rintro e Va ⟨rfl,hb⟩
      replace bw:=Zb bw hb
      replace hT9:=hT9.below hb
      replace hOf:=hOf.below hb
      clear hb kK pX hO2 fz hx
      have HKA:Hid (ZA (S'++[(z,i,(k:Int))])=ZA S'++[Yf z]):=Sh _ _
      have HFA:Hid (YT (S'++[(z,i,(k:Int))])=YT S'++[(i:Int)]):=QP (List.length_pos_iff.1 hS9) _
      have HBA:Hid (byL (S'++[(z,i,(k:Int))])=byL S'++[(k:Int)]):=Ll (List.length_pos_iff.1 hS9) _
      generalize S'++[(z,i,(k:Int))]=S2 at *
      generalize Yf z=key at *
      have kF:=VK (some ⟨d1,0,none⟩) (ZA S').length e1 (ZA S') key Va (LZ hT9.ks) (by rw [Xh];omega)
      have hfi:=Sb (ts:=ZA S') (t:=key) (ZA S').length (Nat.le_refl _)
      rw [List.take_length] at hfi
      generalize Ws (ZA S') key (ZA S').length=fd at *
      have KL:Hid ((ZA S').length=S'.length):=Xh _
      have FL:Hid ((YT S').length=S'.length):=Ux _
      have BL:Hid ((byL S').length=S'.length):=S8 _
      go_wp2_with fail
      refine kF.mono ?_
      rintro e Vb ⟨rfl,rfl⟩
      clear kF
      by_cases hmem:key ∈ ZA S'
      ·have hfd:0≤fd:=hfi.2 hmem
       have st3:OnI w wi Va a9 cap rows i (j+1) m S' (.slice (some ⟨g1,0,none⟩) (ZA S).length c1) (.slice (some ⟨g2,0,none⟩) (YT S).length c2) (.slice (some ⟨g3,0,none⟩) (byL S).length c3) (.slice (some ⟨d1,0,none⟩) (ZA S').length e1) (.slice (some ⟨d2,0,none⟩) (YT S').length e2) (.slice (some ⟨d3,0,none⟩) (byL S').length e3):=⟨HO.out hmem,hT9,hOf,bw⟩
       clear hfi hmem HO HN HL HKA HFA HBA hT9 hOf bw KL FL BL hS9 hl9
       go_wp2
       go_roundw
       case rel=>exact ⟨j+1,_,by go_num,st3⟩
       case measure=>simp [intOf];omega
      by_cases hfull:S'.length=2000
      ·have hfd:¬ 0≤fd:=fun h=>hmem (hfi.1 h)
       have hln:2000<(Yd rows).length:=HL.out hmem hfull
       have hdd:decide ((Yd rows).length≤2000)=false:=decide_eq_false (by omega)
       have hq1:(((ZA S').length:Int) == 2000)=true:=by rw [KL.out,hfull];rfl
       have hq2:decide (((ZA S').length:Int)=2000)=true:=by rw [KL.out,hfull];rfl
       have HG:Pu (.returned (.tuple #[.slice (some ⟨d1,0,none⟩) (ZA S').length e1,.slice (some ⟨d2,0,none⟩) (YT S').length e2,.slice (some ⟨d3,0,none⟩) (byL S').length e3,.bool false])) Va w.heap.size (Yd rows):=⟨_,_,_,_,_,_,by rw [hdd],hT9,fun h9=>by omega⟩
       clear hfi hmem HO HN HL HKA HFA HBA hT9 hOf hln hdd hfull KL FL BL hS9 hl9
       go_wp2
       refine bodyPost_ret (by simp [results,Tryz.results77,go_sem];try rfl) rfl ?_
       exact ⟨HG,bw⟩
      have hfd:¬ 0≤fd:=fun h=>hmem (hfi.1 h)
      have hq1:(((ZA S').length:Int) == 2000)=false:=by rw [KL.out];exact beq_false_of_ne (by omega)
      have hq2:decide (((ZA S').length:Int)=2000)=false:=decide_eq_false (by rw [KL.out];omega)
      have HM:Hid (In6 rows i (j+1) m S2):=HN.out hmem hfull
      clear HO HN HL hfi hmem hfull
      go_wp2_with (at_builtin;refine wpList_append_own_at _ rfl _ _ 100 rfl w.heap.size 9 i1 (.string ⟨#[]⟩) 1 16 Tryz.underlying100 hi8 hy0 hy1 hy2 rfl (by decide) _ _ _ rfl (hT9.ks.alloc _) ⟨Va.heap.size,0,none⟩ 1 1 [.string key] rfl rfl (cell_one_new _ _ _) (N0 _) ?c3 ?c4 ?c5 ?_)
      case c3=>rw [KL.out];unfold maxLen;omega
      case c4=>rw [KL.out];omega
      case c5=>have:=bw.size;simp;omega
      intro v1 Vc q1 gr1 nil1 at1
      have ha:Below Va.heap.size Va (Va.alloc (.cells #[.string key] 9)):=by go_grown
      have blo:=fun g e=>(ZN hT9.ks (g:=g) e).1
      replace bw:=(Zb bw ha).grown gr1 (Zb bw ha).size (fun g e=>blo g e)
      have at1':v1.ownBlock=(Value.slice (some ⟨d1,0,none⟩) (ZA S').length e1).ownBlock∨v1.ownBlock=some (Va.alloc (.cells #[.string key] 9)).heap.size:=by rw [World.size_alloc];exact at1
      replace hOf:=(hOf.below ha).put1 gr1 at1'
      replace hT9:=(hT9.below ha).put1 (Md q1) gr1
      clear ha blo q1 gr1 nil1 at1 at1'
      clear hfd hq1 hq2
      go_wp2_with (at_builtin;refine wpList_append_own_at _ rfl _ _ 35 rfl w.heap.size 3 i0 (.int .i64 0) 1 8 Tryz.underlying35 hi9 hz0 hz1 hz2 rfl (by decide) _ _ _ rfl (hT9.fr.alloc _) ⟨Vc.heap.size,0,none⟩ 1 1 [.int .i64 (i:Int)] rfl rfl (cell_one_new _ _ _) (TK _) ?c3 ?c4 ?c5 ?_)
      case c3=>rw [FL.out];unfold maxLen;omega
      case c4=>rw [FL.out];omega
      case c5=>have:=bw.size;simp;omega
      intro v2 Vd q2 gr2 nil2 at2
      have ha:Below Vc.heap.size Vc (Vc.alloc (.cells #[.int .i64 (i:Int)] 3)):=by go_grown
      have blo:=fun g e=>(ZN hT9.fr (g:=g) e).1
      replace bw:=(Zb bw ha).grown gr2 (Zb bw ha).size (fun g e=>blo g e)
      have at2':v2.ownBlock=(Value.slice (some ⟨d2,0,none⟩) (YT S').length e2).ownBlock∨v2.ownBlock=some (Vc.alloc (.cells #[.int .i64 (i:Int)] 3)).heap.size:=by rw [World.size_alloc];exact at2
      replace hOf:=(hOf.below ha).put2 gr2 at2'
      replace hT9:=(hT9.below ha).put2 (TX q2) gr2 at2'
      clear ha blo q2 gr2 nil2 at2 at2'
      obtain ⟨lb9,lo9,e9,hc,hlb⟩:=Xa (hOf.ownI hL0 hT40 (Nat.le_refl _)).ints (show j<ln from hlt2)
      cases e9
      rw [HKK.out] at hc
      clear hlb
      go_wp2_with (at_builtin;refine wpList_append_own_at _ rfl _ _ 35 rfl w.heap.size 3 i0 (.int .i64 0) 1 8 Tryz.underlying35 hi9 hz0 hz1 hz2 rfl (by decide) _ _ _ rfl (hT9.bw.alloc _) ⟨Vd.heap.size,0,none⟩ 1 1 [.int .i64 (k:Int)] rfl rfl (cell_one_new _ _ _) (TK _) ?c3 ?c4 ?c5 ?_)
      case c3=>rw [BL.out];unfold maxLen;omega
      case c4=>rw [BL.out];omega
      case c5=>have:=bw.size;simp;omega
      intro v3 Ve q3 gr3 nil3 at3
      have ha:Below Vd.heap.size Vd (Vd.alloc (.cells #[.int .i64 (k:Int)] 3)):=by go_grown
      have blo:=fun g e=>(ZN hT9.bw (g:=g) e).1
      replace bw:=(Zb bw ha).grown gr3 (Zb bw ha).size (fun g e=>blo g e)
      have at3':v3.ownBlock=(Value.slice (some ⟨d3,0,none⟩) (byL S').length e3).ownBlock∨v3.ownBlock=some (Vd.alloc (.cells #[.int .i64 (k:Int)] 3)).heap.size:=by rw [World.size_alloc];exact at3
      replace hOf:=(hOf.below ha).put3 gr3 at3'
      replace hT9:=(hT9.below ha).put3 (TX q3) gr3 at3'
      clear ha blo q3 gr3 nil3 at3 at3'
      rw [← HKA.out,← HFA.out,← HBA.out] at hT9
      have st3:OnI w wi Ve a9 cap rows i (j+1) m S2 (.slice (some ⟨g1,0,none⟩) (ZA S).length c1) (.slice (some ⟨g2,0,none⟩) (YT S).length c2) (.slice (some ⟨g3,0,none⟩) (byL S).length c3) v1 v2 v3:=⟨HM.out,hT9,hOf,bw⟩
      clear hT9 hOf bw HM HKA HFA HBA KL FL BL hc hS9 hl9
      go_wp2
      go_roundw
      case rel=>exact ⟨j+1,_,by go_num,st3⟩
      case measure=>simp [intOf];omega
     have hb1:Below V.heap.size V (V.alloc (.cells #[.slice none 0 0,.slice none 0 0,.slice none 0 0,.slice none 0 0] 37)):=by go_grown
     have pX:Blk (V.alloc (.cells #[.slice none 0 0,.slice none 0 0,.slice none 0 0,.slice none 0 0] 37)) V.heap.size 37 [.slice none 0 0,.slice none 0 0,.slice none 0 0,.slice none 0 0]:=Zp _ _ _ rfl
     have hYV:V.heap.size≤V.heap.size:=Nat.le_refl _
     go_simp
     refine hK.out _ _ ⟨Za hb1 _ _ hS0.1,Za hb1 _ _ hS0.2.1,Za hb1 _ _ hS0.2.2.1,Za hb1 _ _ hS0.2.2.2.1,Za hb1 _ _ hS0.2.2.2.2.1,Za hb1 _ _ hS0.2.2.2.2.2⟩ (fun hS6=>?_)
     clear hK
     have kPx:=kP _ (Zb bw hb1) ((hV.below hb1).mem fm)
     generalize (V.alloc (.cells #[.slice none 0 0,.slice none 0 0,.slice none 0 0,.slice none 0 0] 37))=V2 at *
     obtain ⟨Y,hY⟩:∃ Y,Y=V.heap.size:=⟨_,rfl⟩
     rw [← hY] at pX hYV ⊢
     replace hYV:V.heap.size≤Y:=by omega
     clear hY
     try simp only [Act.put,tka,tkb,tkc]
     refine tkr 6 52 (fun K hK=>?_)
     go_simp
     refine kPx.mono ?_
     rintro e V3 ⟨⟨⟨⟨z0a,z0n,z0c⟩,⟨z1a,z1n,z1c⟩,⟨z2a,z2n,z2c⟩,⟨z3a,z3n,z3c⟩⟩,rfl,hO2⟩,hb2⟩
     have uz:S4.val ((z0a,z0n,z0c),(z1a,z1n,z1c),(z2a,z2n,z2c),(z3a,z3n,z3c))=.agg #[.slice z0a z0n z0c,.slice z1a z1n z1c,.slice z2a z2n z2c,.slice z3a z3n z3c]:=rfl
     rw [uz]
     clear uz
     go_wp2_with fail
     have hbA:=Zb hb1 hb2
     replace pX:=pX.below hb2
     refine hK.out _ _ ⟨Za hbA _ _ hS0.1,Za hbA _ _ hS0.2.1,Za hbA _ _ hS0.2.2.1,Za hbA _ _ hS0.2.2.2.1,Za hbA _ _ hS0.2.2.2.2.1,Za hbA _ _ hS0.2.2.2.2.2⟩ (fun hS5=>?_)
     clear hK kPx hb1 hb2
     try simp only [Act.put,tka,tkb,tkc]
     refine tkm 7 45 (.tuple #[.agg #[.slice z0a z0n z0c,.slice z1a z1n z1c,.slice z2a z2n z2c,.slice z3a z3n z3c],.int .i64 f]) ?_
     refine tkm 8 53 (.agg #[.slice z0a z0n z0c,.slice z1a z1n z1c,.slice z2a z2n z2c,.slice z3a z3n z3c]) ?_
     refine tkm 9 54 (.int .i64 f) ?_
     refine tkz 11 (fun K hK=>?_)
     refine Zw rfl 37 _ _ rfl Y [.slice z0a z0n z0c,.slice z1a z1n z1c,.slice z2a z2n z2c,.slice z3a z3n z3c] rfl rfl pX (by kernel_rfl) rfl rfl ?_
     intro V8 pX8 g8
     replace hO2:=hO2.kept9 g8 pX (by decide)
     have hbig:=hbA.grown g8 hbA.size (fun q hq=>by cases hq;exact hYV)
     refine hK.out _ _ ⟨Za hbig _ _ hS0.1,Za hbig _ _ hS0.2.1,Za hbig _ _ hS0.2.2.1,Za hbig _ _ hS0.2.2.2.1,Za hbig _ _ hS0.2.2.2.2.1,Za hbig _ _ hS0.2.2.2.2.2⟩ (fun hS7=>?_)
     clear hK pX g8 hbA hYV
     have pX:=pX8.out
     clear pX8
     try simp only [Act.put,tka,tkb,tkc]
     refine tkm 12 15 (.int .i64 f) ?_
     refine wpAnyH_done (by kernel_rfl) ?_ _
     replace bw:=Zb bw hbig
     replace hT9:=hT9.below hbig
     replace hOf:=hOf.below hbig
     clear hbig hS0 hS5 hS6 hS7 pP pS hV kP hc
     have fz:=(ZP hx).1
     have kK:=Vu ((z0a,z0n,z0c),(z1a,z1n,z1c),(z2a,z2n,z2c),(z3a,z3n,z3c)) z V8 (hO2.mem fz) hx
     have uz:S4.val ((z0a,z0n,z0c),(z1a,z1n,z1c),(z2a,z2n,z2c),(z3a,z3n,z3c))=.agg #[.slice z0a z0n z0c,.slice z1a z1n z1c,.slice z2a z2n z2c,.slice z3a z3n z3c]:=rfl
     rw [uz] at kK
     clear uz
     go_wp2_with (first | refine Zc rfl 37 _ rfl Y rfl pX _ Tryz.underlying37 rfl (by kernel_rfl) ?_)
     refine kK.mono ?_
     rintro e Va ⟨rfl,hb⟩
     replace bw:=Zb bw hb
     replace hT9:=hT9.below hb
     replace hOf:=hOf.below hb
     clear hb kK pX hO2 fz hx
     have HKA:Hid (ZA (S'++[(z,i,(k:Int))])=ZA S'++[Yf z]):=Sh _ _
     have HFA:Hid (YT (S'++[(z,i,(k:Int))])=YT S'++[(i:Int)]):=QP (List.length_pos_iff.1 hS9) _
     have HBA:Hid (byL (S'++[(z,i,(k:Int))])=byL S'++[(k:Int)]):=Ll (List.length_pos_iff.1 hS9) _
     generalize S'++[(z,i,(k:Int))]=S2 at *
     generalize Yf z=key at *
     have kF:=VK (some ⟨d1,0,none⟩) (ZA S').length e1 (ZA S') key Va (LZ hT9.ks) (by rw [Xh];omega)
     have hfi:=Sb (ts:=ZA S') (t:=key) (ZA S').length (Nat.le_refl _)
     rw [List.take_length] at hfi
     generalize Ws (ZA S') key (ZA S').length=fd at *
     have KL:Hid ((ZA S').length=S'.length):=Xh _
     have FL:Hid ((YT S').length=S'.length):=Ux _
     have BL:Hid ((byL S').length=S'.length):=S8 _
     go_wp2_with fail
     refine kF.mono ?_
     rintro e Vb ⟨rfl,rfl⟩
     clear kF
     by_cases hmem:key ∈ ZA S'
     ·have hfd:0≤fd:=hfi.2 hmem
      have st3:OnI w wi Va a9 cap rows i (j+1) m S' (.slice (some ⟨g1,0,none⟩) (ZA S).length c1) (.slice (some ⟨g2,0,none⟩) (YT S).length c2) (.slice (some ⟨g3,0,none⟩) (byL S).length c3) (.slice (some ⟨d1,0,none⟩) (ZA S').length e1) (.slice (some ⟨d2,0,none⟩) (YT S').length e2) (.slice (some ⟨d3,0,none⟩) (byL S').length e3):=⟨HO.out hmem,hT9,hOf,bw⟩
      clear hfi hmem HO HN HL HKA HFA HBA hT9 hOf bw KL FL BL hS9 hl9
      go_wp2
      go_roundw
      case rel=>exact ⟨j+1,_,by go_num,st3⟩
      case measure=>simp [intOf];omega
     by_cases hfull:S'.length=2000
     ·have hfd:¬ 0≤fd:=fun h=>hmem (hfi.1 h)
      have hln:2000<(Yd rows).length:=HL.out hmem hfull
      have hdd:decide ((Yd rows).length≤2000)=false:=decide_eq_false (by omega)
      have hq1:(((ZA S').length:Int) == 2000)=true:=by rw [KL.out,hfull];rfl
      have hq2:decide (((ZA S').length:Int)=2000)=true:=by rw [KL.out,hfull];rfl
      have HG:Pu (.returned (.tuple #[.slice (some ⟨d1,0,none⟩) (ZA S').length e1,.slice (some ⟨d2,0,none⟩) (YT S').length e2,.slice (some ⟨d3,0,none⟩) (byL S').length e3,.bool false])) Va w.heap.size (Yd rows):=⟨_,_,_,_,_,_,by rw [hdd],hT9,fun h9=>by omega⟩
      clear hfi hmem HO HN HL HKA HFA HBA hT9 hOf hln hdd hfull KL FL BL hS9 hl9
      go_wp2
      refine bodyPost_ret (by simp [results,Tryz.results77,go_sem];try rfl) rfl ?_
      exact ⟨HG,bw⟩
     have hfd:¬ 0≤fd:=fun h=>hmem (hfi.1 h)
     have hq1:(((ZA S').length:Int) == 2000)=false:=by rw [KL.out];exact beq_false_of_ne (by omega)
     have hq2:decide (((ZA S').length:Int)=2000)=false:=decide_eq_false (by rw [KL.out];omega)
     have HM:Hid (In6 rows i (j+1) m S2):=HN.out hmem hfull
     clear HO HN HL hfi hmem hfull
     go_wp2_with (at_builtin;refine wpList_append_own_at _ rfl _ _ 100 rfl w.heap.size 9 i1 (.string ⟨#[]⟩) 1 16 Tryz.underlying100 hi8 hy0 hy1 hy2 rfl (by decide) _ _ _ rfl (hT9.ks.alloc _) ⟨Va.heap.size,0,none⟩ 1 1 [.string key] rfl rfl (cell_one_new _ _ _) (N0 _) ?c3 ?c4 ?c5 ?_)
     case c3=>rw [KL.out];unfold maxLen;omega
     case c4=>rw [KL.out];omega
     case c5=>have:=bw.size;simp;omega
     intro v1 Vc q1 gr1 nil1 at1
     have ha:Below Va.heap.size Va (Va.alloc (.cells #[.string key] 9)):=by go_grown
     have blo:=fun g e=>(ZN hT9.ks (g:=g) e).1
     replace bw:=(Zb bw ha).grown gr1 (Zb bw ha).size (fun g e=>blo g e)
     have at1':v1.ownBlock=(Value.slice (some ⟨d1,0,none⟩) (ZA S').length e1).ownBlock∨v1.ownBlock=some (Va.alloc (.cells #[.string key] 9)).heap.size:=by rw [World.size_alloc];exact at1
     replace hOf:=(hOf.below ha).put1 gr1 at1'
     replace hT9:=(hT9.below ha).put1 (Md q1) gr1
     clear ha blo q1 gr1 nil1 at1 at1'
     clear hfd hq1 hq2
     go_wp2_with (at_builtin;refine wpList_append_own_at _ rfl _ _ 35 rfl w.heap.size 3 i0 (.int .i64 0) 1 8 Tryz.underlying35 hi9 hz0 hz1 hz2 rfl (by decide) _ _ _ rfl (hT9.fr.alloc _) ⟨Vc.heap.size,0,none⟩ 1 1 [.int .i64 (i:Int)] rfl rfl (cell_one_new _ _ _) (TK _) ?c3 ?c4 ?c5 ?_)
     case c3=>rw [FL.out];unfold maxLen;omega
     case c4=>rw [FL.out];omega
     case c5=>have:=bw.size;simp;omega
     intro v2 Vd q2 gr2 nil2 at2
     have ha:Below Vc.heap.size Vc (Vc.alloc (.cells #[.int .i64 (i:Int)] 3)):=by go_grown
     have blo:=fun g e=>(ZN hT9.fr (g:=g) e).1
     replace bw:=(Zb bw ha).grown gr2 (Zb bw ha).size (fun g e=>blo g e)
     have at2':v2.ownBlock=(Value.slice (some ⟨d2,0,none⟩) (YT S').length e2).ownBlock∨v2.ownBlock=some (Vc.alloc (.cells #[.int .i64 (i:Int)] 3)).heap.size:=by rw [World.size_alloc];exact at2
     replace hOf:=(hOf.below ha).put2 gr2 at2'
     replace hT9:=(hT9.below ha).put2 (TX q2) gr2 at2'
     clear ha blo q2 gr2 nil2 at2 at2'
     obtain ⟨lb9,lo9,e9,hc,hlb⟩:=Xa (hOf.ownI hL0 hT40 (Nat.le_refl _)).ints (show j<ln from hlt2)
     cases e9
     rw [HKK.out] at hc
     clear hlb
     go_wp2_with (at_builtin;refine wpList_append_own_at _ rfl _ _ 35 rfl w.heap.size 3 i0 (.int .i64 0) 1 8 Tryz.underlying35 hi9 hz0 hz1 hz2 rfl (by decide) _ _ _ rfl (hT9.bw.alloc _) ⟨Vd.heap.size,0,none⟩ 1 1 [.int .i64 (k:Int)] rfl rfl (cell_one_new _ _ _) (TK _) ?c3 ?c4 ?c5 ?_)
     case c3=>rw [BL.out];unfold maxLen;omega
     case c4=>rw [BL.out];omega
     case c5=>have:=bw.size;simp;omega
     intro v3 Ve q3 gr3 nil3 at3
     have ha:Below Vd.heap.size Vd (Vd.alloc (.cells #[.int .i64 (k:Int)] 3)):=by go_grown
     have blo:=fun g e=>(ZN hT9.bw (g:=g) e).1
     replace bw:=(Zb bw ha).grown gr3 (Zb bw ha).size (fun g e=>blo g e)
     have at3':v3.ownBlock=(Value.slice (some ⟨d3,0,none⟩) (byL S').length e3).ownBlock∨v3.ownBlock=some (Vd.alloc (.cells #[.int .i64 (k:Int)] 3)).heap.size:=by rw [World.size_alloc];exact at3
     replace hOf:=(hOf.below ha).put3 gr3 at3'
     replace hT9:=(hT9.below ha).put3 (TX q3) gr3 at3'
     clear ha blo q3 gr3 nil3 at3 at3'
     rw [← HKA.out,← HFA.out,← HBA.out] at hT9
     have st3:OnI w wi Ve a9 cap rows i (j+1) m S2 (.slice (some ⟨g1,0,none⟩) (ZA S).length c1) (.slice (some ⟨g2,0,none⟩) (YT S).length c2) (.slice (some ⟨g3,0,none⟩) (byL S).length c3) v1 v2 v3:=⟨HM.out,hT9,hOf,bw⟩
     clear hT9 hOf bw HM HKA HFA HBA KL FL BL hc hS9 hl9
     go_wp2
     go_roundw
     case rel=>exact ⟨j+1,_,by go_num,st3⟩
     case measure=>simp [intOf];omega
    have hge2:¬ (j:Int)<(ln:Int):=by omega
    have hO7:=hJ6.fin (show (Zj rows m 3).length≤j by omega)
    have st4:OnO w wr a9 cap rows (i+1) S' (.slice (some ⟨d1,0,none⟩) (ZA S').length e1) (.slice (some ⟨d2,0,none⟩) (YT S').length e2) (.slice (some ⟨d3,0,none⟩) (byL S').length e3):=⟨hO7,hT9,bw,pP⟩
    clear hO7 hT9 bw pP pS hV hL hJ6 hOf hT
    go_wp2
    go_roundw
    case rel=>exact ⟨i+1,_,by go_num,st4⟩
    case measure=>simp [intOf];omega
  have hfe:=hO6.fin (by omega)
  have hge:¬ (i:Int)<((ZA S).length:Int):=by have:=HEI.out;omega
  have hd:decide ((Yd rows).length≤2000)=true:=by rw [hfe];exact decide_eq_true hl2
  have HG:Pu (.returned (.tuple #[.slice (some ⟨g1,0,none⟩) (ZA S).length c1,.slice (some ⟨g2,0,none⟩) (YT S).length c2,.slice (some ⟨g3,0,none⟩) (byL S).length c3,.bool true])) wr w.heap.size (Yd rows):=⟨_,_,_,_,_,_,by rw [hd],hT,fun _=>by rw [hfe];exact ⟨rfl,rfl,rfl⟩⟩
  clear hfe hd hT hO6 pP HEI hl2 hc1 hc2 hc3 hS0 hlt
  go_wp2
  refine bodyPost_ret (by simp [results,Tryz.results77,go_sem];try rfl) rfl ?_
  exact ⟨HG,bw⟩

def L9 (w W:World) (cs:Sl × Sl × Sl) (rows:List (List I3)) (F:List (Zr V4)) (s4 s5:Value):Prop:=
 ∃ X va vc nb L,s4=.pointer (some ⟨X,0,none⟩)∧s5=.int .i64 0∧Blk W X 96 [.slice va L.length vc,.map (some nb)]∧YY W w.heap.size nb (.slice va L.length vc) cs (Yp rows F) L L.length∧L.map (·.1)=F∧w.heap.size≤X∧Below w.heap.size w W
theorem YY.lower {w:World} {B B' nb d:Nat} {vs:Value} {cs:Sl × Sl × Sl} {M:V4→List I4} {L:List (Zr V4 × Value)} (h:YY w B nb vs cs M L d) (hB:B'≤B):YY w B' nb vs cs M L d:=
 ⟨XJ h.row hB,h.map,fun i r mv h1 h2=>XJ (h.mvs i r mv h1 h2) hB,h.nil,Nat.le_trans hB h.low⟩
theorem L9.mk9 {w W:World} {cs:Sl × Sl × Sl} {rows:List (List I3)} {F:List (Zr V4)} {s4 s5 va vs:Value} {X nb B:Nat} {L:List (Zr V4 × Value)} (h4:s4=.pointer (some ⟨X,0,none⟩)) (h5:s5=.int .i64 0) (hX:Blk W X 96 [vs,.map (some nb)]) (sp:YY W B nb vs cs (Yp rows F) L L.length) (hL:L.map (·.1)=F) (hBX:w.heap.size≤X) (hB:w.heap.size≤B) (b:Below w.heap.size w W):L9 w W cs rows F s4 s5:=by
 obtain ⟨va,vn,vc,rfl⟩:=Z0 sp.row
 obtain rfl:vn=L.length:=by
  rcases sp.row.2 with ⟨h1,h2⟩ | ⟨gq,cq,cur,h1,_⟩
  ·cases h1;exact h2.symm
  cases h1;rfl
 exact ⟨X,va,vc,nb,L,h4,h5,hX,sp.lower hB,hL,hBX,b⟩

def Xl (rows:List (List I3)):Int:=if Zn rows then (if (Yd rows).length≤2000 then 0 else 15) else 1
theorem Mo (a:Option Addr) (len cap:Nat) (rows:List (List I3)) (s:S4) (w:World) (hC:XP w a len cap rows) (h:Yl w s Zl) (hV:YB w) (hp:Zn rows=true) (hf:(Yd rows).length≤2000) :
  Calls Tryz.prog 49 #[.agg #[.slice a len cap],s.val] w fun e w'=>Rp e w w' a rows (Yd rows):=by
 refine (M9 a len cap rows s w hC h hV hp).mono fun e w' h=>?_
 rw [if_pos hf] at h
 exact h
theorem UU {rows:List (List I3)} (h:Xl rows=0):Zn rows=true∧(Yd rows).length≤2000:=by
 unfold Xl at h
 cases hp:Zn rows
 ·rw [hp] at h;simp at h
 rw [hp] at h
 by_cases hf:(Yd rows).length≤2000
 ·exact ⟨rfl,hf⟩
 rw [if_pos rfl,if_neg hf] at h
 simp at h
theorem YY.strgrown {W W':World} {B B' nb d n e s:Nat} {vs v:Value} {cs:Sl × Sl × Sl} {M:V4→List I4} {L:List (Zr V4 × Value)} {xs:List Value} (h:YY W B nb vs cs M L d) (ho:W.ownsRow B' e s v n xs) (gr:W.grownBy W' v.ownBlock) (h1:154≠e:=by decide) (h2:173≠e:=by decide):YY W' B nb vs cs M L d:=by
 obtain ⟨D,hm,hn⟩:=h.map
 exact ⟨h.row.kept gr (Ap3.types h.row ho h1).or,⟨D,hm.kept gr (fun e=>Wz hm ho e.symm),hn⟩,fun i r mv' hi hr=>(h.mvs i r mv' hi hr).kept gr (Ap3.types (h.mvs i r mv' hi hr) ho h2).or,h.nil,h.low⟩


def Pq (rows:List (List I3)) (L:List (Zr V4 × Value)) (cts:List Int):Prop:=cts.length=L.length∧∀ i r mv,L[i]?=some (r,mv)→cts.getD i 0=0∨cts.getD i 0=(Z8 rows r.1:Int)
theorem Pq.put {rows:List (List I3)} {L:List (Zr V4 × Value)} {cts:List Int} (h:Pq rows L cts) {at9:Nat} {r:Zr V4} {mv:Value} (hr:L[at9]?=some (r,mv)):Pq rows L (cts.set at9 (Z8 rows r.1:Int)):=by
 have hl:at9<L.length:=(List.getElem?_eq_some_iff.1 hr).1
 refine ⟨by simp [h.1],fun i r' mv' hi=>?_⟩
 by_cases e:at9=i
 ·subst e
  rw [hr] at hi
  cases hi
  right
  simp [List.getD,h.1,hl]
 have:=h.2 i r' mv' hi
 simp only [List.getD,List.getElem?_set_ne e] at this ⊢
 exact this
def S6 (e:Ending) (w w':World) (rows:List (List I3)) (L:List (Zr V4 × Value)) (Bc g c:Nat) (m:V4):Prop:=
 ∃ cts',e=.returned (.int .i64 (Z8 rows m:Int))∧ZI w' Bc (some ⟨g,0,none⟩,L.length,c) cts'∧Pq rows L cts'∧w.grownBy w' (some g)
def JM (rows:List (List I3)) (L:List (Zr V4 × Value)) (X nb vc B Bc g c:Nat) (va:Option Addr) (cs:Sl × Sl × Sl) (at9:Nat) (m:V4):Prop:=∀ (w:World) (cts:List Int),YY w B nb (.slice va L.length vc) cs (Yp rows (L.map (·.1))) L L.length→Blk w X 96 [.slice va L.length vc,.map (some nb)]→ZI w Bc (some ⟨g,0,none⟩,L.length,c) cts→Pq rows L cts →
 Calls Tryz.prog 68 #[.pointer (some ⟨X,0,none⟩),.int .i64 at9,.slice (some ⟨g,0,none⟩) L.length c] w fun e w'=>S6 e w w' rows L Bc g c m
def Up (rows:List (List I3)) (m:V4) (j:Nat):Nat:=((Zj rows m 3).take j).foldl (fun s k=>T7 (s+Z8 rows (goM rows m k).1)) 0
theorem Pl (rows:List (List I3)) (m:V4):Up rows m 0=0:=by simp [Up]
theorem Pk {rows:List (List I3)} {m:V4} {j:Nat} {k:Int} (h:(Zj rows m 3)[j]?=some k):Up rows m (j+1)=T7 (Up rows m j+Z8 rows (goM rows m k).1):=by
 unfold Up
 rw [List.take_add_one,h]
 simp [List.foldl_append]
theorem GF {rows:List (List I3)} (hp:Zn rows=true) {m:V4} (hs:Zk m=true) (hne:Zj rows m 3≠[]) {j:Nat} (hj:(Zj rows m 3).length≤j):Up rows m j=Z8 rows m:=by
 unfold Up
 rw [List.take_of_length_le hj,Nd _ _ _ (by decide),Rz hp hs,if_neg hne,Nat.zero_add]
theorem P4 (rows:List (List I3)) (m:V4) (j:Nat):Up rows m j≤1000000:=by
 cases j with
 | zero=>rw [Pl];omega
 | succ j =>
  cases h:(Zj rows m 3)[j]? with
  | some k=>rw [Pk h];exact Pv _
  | none =>
   have e:Up rows m (j+1)=Up rows m j:=by unfold Up;rw [List.take_add_one,h];simp
   rw [e]
   exact P4 rows m j
theorem G3 {rows:List (List I3)} {F:List (Zr V4)} {m:V4} {j:Nat} {k:Int} (h:(Zj rows m 3)[j]?=some k):(Yp rows F m)[j]?=some (FN rows F m k):=by
 unfold Yp
 rw [List.getElem?_map,h]
 rfl
theorem M4 {w:World} {B G cap:Nat} {xs:List I4} (h:w.ownsRow B 173 4 (.slice (some ⟨G,0,none⟩) xs.length cap) xs.length (Yo xs)) {j:Nat} {x:I4} (hx:xs[j]?=some x):w.rangeAt G (j*4) [.int .i64 x.1,.int .i64 x.2.1,.int .i64 x.2.2.1,.int .i64 x.2.2.2]:=by
 have hl:j<xs.length:=(List.getElem?_eq_some_iff.1 hx).1
 have hg:xs.getD j (0,0,0,0)=x:=by simp [List.getD,hx]
 obtain ⟨f0,f1,f2,f3⟩:=RH xs j hl
 rw [hg] at f0 f1 f2 f3
 intro q v hq
 have hq4:q<4:=by have:=(List.getElem?_eq_some_iff.1 hq).1;simpa using this
 rw [h.cellAt (j*4+q) (by omega)]
 match q,hq4 with
 | 0,_=>simp at hq;subst hq;exact f0
 | 1,_=>simp at hq;subst hq;exact f1
 | 2,_=>simp at hq;subst hq;exact f2
 | 3,_=>simp at hq;subst hq;exact f3
theorem YY.mvrow {w:World} {B nb d:Nat} {vs:Value} {cs:Sl × Sl × Sl} {M:V4→List I4} {L:List (Zr V4 × Value)} (h:YY w B nb vs cs M L d) {i:Nat} {r:Zr V4} {mv:Value} (hi:i<d) (hr:L[i]?=some (r,mv)):∃ ma mc,mv=.slice ma (M r.1).length mc:=by
 rcases (h.mvs i r mv hi hr).2 with ⟨h1,h2⟩ | ⟨gq,cq,cur,h1,_⟩
 ·exact ⟨none,0,by rw [h1,h2]⟩
 exact ⟨_,_,h1⟩
theorem GS {a b s:Nat} (ha:a≤1000000) (hb:b≤1000000) (hs:s=T7 (a+b)):min (wrap64 ((a:Int)+(b:Int))) 1000000=(s:Int):=by
 rw [hs,Tv]
 unfold wrap64
 omega

theorem Jf (rows:List (List I3)) (L:List (Zr V4 × Value)) (X nb vc B Bc g c:Nat) (va:Option Addr) (cs:Sl × Sl × Sl) (hp:Zn rows=true) (hsh:YM (L.map (·.1))) (hcl:∀ r ∈ L.map (·.1),∀ t ∈ nxM rows r.1,t.2 ∈ (L.map (·.1)).map (·.1)) (hl:L.length≤2000) {at9:Nat} {r:Zr V4} {mv:Value} (hr:L[at9]?=some (r,mv))
  (ih:∀ at' r' mv',L[at']?=some (r',mv')→YE rows r'.1<YE rows r.1→JM rows L X nb vc B Bc g c va cs at' r'.1):JM rows L X nb vc B Bc g c va cs at9 r.1:=by
 intro w cts sp bx ho hct
 have hla:at9<L.length:=(List.getElem?_eq_some_iff.1 hr).1
 have hrm:r ∈ L.map (·.1):=List.mem_map.2 ⟨_,List.mem_of_getElem? hr,rfl⟩
 have hs:=hsh r hrm
 obtain ⟨g1,c1,e1,hg1,hrg⟩:=sp.at9 hr
 cases e1
 obtain ⟨ma,mc,rfl⟩:=sp.mvrow hla hr
 have cX0:w.cell? ⟨X,0,none⟩=some (.slice (some ⟨g1,0,none⟩) L.length vc):=by simpa using bx.cell 0
 have cM:=hrg 21 _ rfl
 have hlt:(at9:Int)<(L.length:Int):=by omega
 have ha0:(0:Int)≤(at9:Int):=by omega
 have hml:(Yp rows (L.map (·.1)) r.1).length=(Zj rows r.1 3).length:=by simp [Yp]
 have hen:=YF rows r.1 3
 by_cases hne:Zj rows r.1 3=[]
 ·have h0:(Yp rows (L.map (·.1)) r.1).length=0:=by rw [hml,hne];rfl
  have hc1:Z8 rows r.1=1:=by rw [Rz hp hs,if_pos hne]
  have HG:Hid (S6 (.returned (.int .i64 1)) w w rows L Bc g c r.1):=⟨cts,by rw [hc1];rfl,ho,hct,World.grownBy.refl _ _⟩
  rw [h0] at cM
  clear hc1 hne hml hrg ih hcl hsh hct h0
  go_enter Tryz.func68,Tryz.ntmps68
  go_wp2
  go_ret
  exact HG.out
 have hn1:0<(Zj rows r.1 3).length:=List.length_pos_iff.2 hne
 have mvr:=sp.mvs at9 r _ hla hr
 rw [hml] at cM mvr
 have HC:Hid (cts.getD at9 0=0∨cts.getD at9 0=(Z8 rows r.1:Int)):=hct.2 at9 r _ hr
 have hcb:=WM hp (YE rows r.1) r.1 hs (Nat.le_refl _)
 have cC:=ho.at9 hla
 obtain ⟨n,hn⟩:∃ n,n=(Zj rows r.1 3).length:=⟨_,rfl⟩
 rw [← hn] at cM mvr hn1 hen
 have HN:Hid (n=(Zj rows r.1 3).length):=hn
 have hnz:((n:Int) == 0)=false:=beq_false_of_ne (by omega)
 have hnz2:decide ((n:Int)=0)=false:=decide_eq_false (by omega)
 obtain ⟨G,mc',e2,_⟩:=XK mvr hn1
 cases e2
 clear hn hml hrg
 by_cases hcz:cts.getD at9 0=0
 ·rw [hcz] at cC
  have HPut:=hct.put hr
  have hmr:∀ j k,(Zj rows r.1 3)[j]?=some k→w.rangeAt G (j*4) [.int .i64 (goM rows r.1 k).2,.int .i64 k,.int .i64 (r.1.1.getD k.toNat 0),.int .i64 (ixS (L.map (·.1)) (goM rows r.1 k).1:Int)]:=by
   have hmv2:w.ownsRow B 173 4 (.slice (some ⟨G,0,none⟩) (Yp rows (L.map (·.1)) r.1).length mc) (Yp rows (L.map (·.1)) r.1).length (Yo (Yp rows (L.map (·.1)) r.1)):=by
    have e3:(Yp rows (L.map (·.1)) r.1).length=n:=by rw [HN.out];simp [Yp]
    rw [e3]
    exact mvr
   exact fun j k h=>M4 hmv2 (G3 h)
  have HGG:Hid (G≠g):=fun e=>(Ap3.types mvr ho (by decide)) G rfl (by rw [e];rfl)
  have st:ZI w Bc (some ⟨g,0,none⟩,L.length,c) cts∧Pq rows L cts∧w.grownBy w (some g):=⟨ho,hct,World.grownBy.refl _ _⟩
  have hsz0:=Pl rows r.1
  go_enter Tryz.func68,Tryz.ntmps68
  go_wp2_with fail
  go_loopw [8,29] (fun s8 s29 wr=>∃ (j:Nat) (cts':List Int),s29=.int .i64 j∧j≤n∧s8=.int .i64 (Up rows r.1 j:Int)∧ZI wr Bc (some ⟨g,0,none⟩,L.length,c) cts'∧Pq rows L cts'∧w.grownBy wr (some g)) (fun _ s29 _=>n - (intOf s29).toNat)
  case atStart=>exact ⟨0,cts,rfl,Nat.zero_le _,by rw [hsz0];rfl,st⟩
  case round =>
   clear st hsz0 cC hcz
   obtain ⟨j,cts',rfl,hjn,rfl,ho',hct',gr⟩:=hrel
   by_cases hlt2:j<n
   ·have hkj:(Zj rows r.1 3)[j]?=some ((Zj rows r.1 3).getD j 0):=by rw [List.getD,List.getElem?_eq_getElem (by rw [← HN.out];exact hlt2)];rfl
    generalize (Zj rows r.1 3).getD j 0=k at hkj
    have hz:=Yb (List.mem_of_getElem? hkj)
    have hx:=ZW hp hs hz
    have hlf:=Y4 hp hs hz
    have hnm:(goM rows r.1 k).1 ∈ (L.map (·.1)).map (·.1):=hcl r hrm _ (List.mem_map.2 ⟨k,List.mem_of_getElem? hkj,rfl⟩)
    obtain ⟨r',hr',he'⟩:=Lr hnm
    obtain ⟨mv',hL'⟩:∃ mv',L[ixS (L.map (·.1)) (goM rows r.1 k).1]?=some (r',mv'):=by
     rw [List.getElem?_map] at hr'
     obtain ⟨y,hy,rfl⟩:=Option.map_eq_some_iff.1 hr'
     exact ⟨y.2,by rw [hy]⟩
    have kR:=ih _ r' mv' hL' (by rw [he'];omega)
    rw [he'] at kR
    have hsu:=Pk hkj
    have hcb2:=WM hp _ _ hx (Nat.le_refl _)
    have hsl:=P4 rows r.1 j
    have hsl2:=P4 rows r.1 (j+1)
    have hmid:=hmr j k hkj
    have hrw:wr.rangeAt G (j*4) [.int .i64 (goM rows r.1 k).2,.int .i64 k,.int .i64 (r.1.1.getD k.toNat 0),.int .i64 (ixS (L.map (·.1)) (goM rows r.1 k).1:Int)]:=fun q v hq=>by
     have h1:=hmid q v hq
     exact Zd gr h1 (fun e=>HGG.out (by cases e;rfl))
    generalize ixS (L.map (·.1)) (goM rows r.1 k).1=ix at *
    have hcn:=hcb2.2
    generalize (goM rows r.1 k).2=f at *
    generalize r.1.1.getD k.toNat 0=pc at *
    have HSU:Hid (min (wrap64 ((Up rows r.1 j:Int)+(Z8 rows (goM rows r.1 k).1:Int))) 1000000=(Up rows r.1 (j+1):Int)):=GS hsl hcn hsu
    have hlt3:(j:Int)<(n:Int):=by omega
    have hj0:(0:Int)≤(j:Int):=by omega
    clear hsu hkj hz hx hlf hnm hr' he' hL' hmid hmr
    have pN:=Blk.new wr 173 [.int .i64 0,.int .i64 0,.int .i64 0,.int .i64 0]
    have hbN:Below wr.heap.size wr (wr.alloc (.cells #[.int .i64 0,.int .i64 0,.int .i64 0,.int .i64 0] 173)):=by go_grown
    go_wp2_with (first | refine wpList_load_mid rfl 173 _ rfl G (j*4) rfl [.int .i64 f,.int .i64 k,.int .i64 pc,.int .i64 (ix:Int)] _ hrw Tryz.underlying173 rfl (by kernel_rfl) ?_ | refine Ze rfl 173 _ _ rfl wr.heap.size [.int .i64 f,.int .i64 k,.int .i64 pc,.int .i64 (ix:Int)] rfl rfl pN (by kernel_rfl) rfl rfl ?_)
    intro w3 p3 g3
    have b3:Below wr.heap.size wr w3:=hbN.grown g3 hbN.size (fun q e=>by cases e;exact Nat.le_refl _)
    have cE:w3.cell? ⟨wr.heap.size,3,none⟩=some (.int .i64 (ix:Int)):=by simpa using p3.out.cell 3
    have gr3:w.grownBy w3 (some g):=ZM gr (Yc b3)
    have ho3:=ho'.below b3
    have sp3:=sp.strgrown ho gr3 (by decide) (by decide)
    have bx3:=bx.kept gr3 (Zg ho bx (by decide))
    have kRx:=kR w3 cts' sp3 bx3 ho3 hct'
    clear p3 g3 pN hbN b3 hrw kR gr ho' sp3 bx3 ho3
    generalize wr.heap.size=E at *
    go_wp2_with fail
    refine kRx.mono ?_
    rintro e w4 ⟨cts4,rfl,ho4,hct4,g4⟩
    have gr4:=ZM gr3 g4
    clear kRx gr3 g4 cE
    have st9:∃ (j9:Nat) (cts':List Int),(Value.int .i64 ((j:Int)+1))=.int .i64 (j9:Int)∧j9≤n∧(Value.int .i64 (min (wrap64 ((Up rows r.1 j:Int)+(Z8 rows (goM rows r.1 k).1:Int))) 1000000))=.int .i64 (Up rows r.1 j9:Int)∧ZI w4 Bc (some ⟨g,0,none⟩,L.length,c) cts'∧Pq rows L cts'∧w.grownBy w4 (some g):=⟨j+1,cts4,by go_num,by omega,by rw [HSU.out],ho4,hct4,gr4⟩
    clear ho4 hct4 gr4 HSU hcb hcb2 hsl hsl2 hcn HPut HC
    go_wp2
    exact ⟨st9,by simp [intOf];omega⟩
   have hjn2:j=n:=by omega
   have hlt3:¬ (j:Int)<(n:Int):=by omega
   have hsa:Up rows r.1 j=Z8 rows r.1:=GF hp hs hne (by rw [← HN.out];omega)
   rw [hsa]
   have cC:=ho'.at9 hla
   have fC:=ho'.frz9 at9
   have ho9:=ho'.set9 at9 (Z8 rows r.1:Int)
   have gr9:=ZM gr (Zv wr g at9 (.int .i64 (Z8 rows r.1:Int)))
   have cD:=ho9.at9 hla
   have hct9:=hct'.put hr
   have e9:(cts'.set at9 (Z8 rows r.1:Int)).getD at9 0=(Z8 rows r.1:Int):=by simp [List.getD,hct'.1,hla]
   rw [e9] at cD
   have HG:Hid (S6 (.returned (.int .i64 (Z8 rows r.1:Int))) w (wr.setCell ⟨g,at9,none⟩ (.int .i64 (Z8 rows r.1:Int))) rows L Bc g c r.1):=⟨_,rfl,ho9,hct9,gr9⟩
   generalize cts'.getD at9 0=old at cC
   generalize Z8 rows r.1=cn at *
   clear ho' ho9 gr9 hct9 e9 hsa hjn2 gr hct' hmr ih hcl hsh HPut HC hcb
   go_wp2
   go_ret
   exact HG.out
 have hcv:cts.getD at9 0=(Z8 rows r.1:Int):=HC.out.resolve_left hcz
 rw [hcv] at cC hcz
 have HG:Hid (S6 (.returned (.int .i64 (Z8 rows r.1:Int))) w w rows L Bc g c r.1):=⟨cts,rfl,ho,hct,World.grownBy.refl _ _⟩
 have hc1:((Z8 rows r.1:Int) == 0)=false:=beq_false_of_ne hcz
 have hc2:decide ((Z8 rows r.1:Int)=0)=false:=decide_eq_false hcz
 generalize Z8 rows r.1=cn at *
 clear HC hcz hcv hct ih hcl hsh mvr
 go_enter Tryz.func68,Tryz.ntmps68
 go_wp2
 go_ret
 exact HG.out


theorem RJ (xs:List I3) (x:I3):Zo (xs++[x])=Zo xs++[.int .i64 x.1,.int .i64 x.2.1,.int .i64 x.2.2]:=by simp [Zo,I3.cells]
theorem Qr {w:World} {g t:Nat} {a b c:Value} (h:Blk w g t [a,b,c]):∀ j u,[a,b,c][j]?=some u→w.cell? ((⟨g,0,none⟩:Addr).add j)=some u:=X5 h

end Go.Proofs.YtojcgajjnmjjpaaGreatDoor
