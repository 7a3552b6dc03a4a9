/-
  Joined: SpGo, LokI, FftP, FulC, ChkP, ChkQ, ChkS, ChkV, Vj0P, ChkT, DrwB, RbgI.
-/
import Derived.Deep.CutRange
import Derived.Test.YtmhlokahmblboaaGreatDoorQ37
import Derived.Test.YtmhlokahmblboaaGreatDoorQ38

namespace Go.Proofs.YtmhlokahmblboaaGreatDoor
set_option maxRecDepth 100000
set_option maxHeartbeats 16000000
open Go.RowKit
set_option linter.unusedVariables false
set_option linter.unusedSimpArgs false

theorem RR {w:World} {B e s n:Nat} {v:Value} {xs:List Value} (h:w.ownsRow B e s v n xs):∃ a k c,v=.slice a k c:=by
 rcases h.2 with ⟨h1,h2⟩ | ⟨gq,cq,cur,h1,_⟩
 ·exact ⟨none,0,0,h1⟩
 exact ⟨_,_,_,h1⟩
theorem QK {w:World} {g t:Nat} {cs:List Value} (h:Blk w g t cs):w.rangeAt g 0 cs:=fun j v hj=>by rw [Nat.zero_add,h.cell];exact hj


def Zx (m:V4):List Int:=[m.1.getD 0 0,8+m.1.getD 1 0,16+m.1.getD 2 0]
theorem look_ok {m:V4} (hs:Ze m=true):∀ z ∈ Zx m,Xq z=true:=by
 obtain ⟨h,_⟩:=Yq hs
 obtain ⟨hl,_⟩:=ZF hs
 have hp:∀ k,k<3→0≤m.1.getD k 0∧m.1.getD k 0≤6:=fun k hk=>h _ (by simp [List.getD,List.getElem?_eq_getElem (show k<m.1.length by omega)])
 have p0:=hp 0 (by omega)
 have p1:=hp 1 (by omega)
 have p2:=hp 2 (by omega)
 intro z hz
 simp only [Zx,List.mem_cons,List.not_mem_nil,or_false] at hz
 simp only [Xq,decide_eq_true_eq]
 rcases hz with rfl | rfl | rfl<;>omega
theorem P0 {m:V4} (hs:Ze m=true) {k:Nat} (hk:k<3):XD (m.1.getD k 0) 0 6=true:=by
 obtain ⟨h,_⟩:=Yq hs
 obtain ⟨hl,_⟩:=ZF hs
 exact YF.2 (h _ (by simp [List.getD,List.getElem?_eq_getElem (show k<m.1.length by omega)]))
def LH (p0 p1 p2:Int) (k:Nat):List Int:=[p0,8+p1,16+p2].take k
theorem KX (g o:Nat) (a0 a1 a2:Option Addr) (n0 d0 n1 d1 n2 d2:Nat) (p0 x0 y0 p1 x1 y1 p2 x2 y2:Int) (w:World) (h:w.rangeAt g o [.slice a0 n0 d0,.int .i64 p0,.int .i64 x0,.int .i64 y0,.slice a1 n1 d1,.int .i64 p1,.int .i64 x1,.int .i64 y1,.slice a2 n2 d2,.int .i64 p2,.int .i64 x2,.int .i64 y2]) (f0:XD p0 0 6=true) (f1:XD p1 0 6=true) (f2:XD p2 0 6=true) :
  Calls Tryz.prog 165 #[.pointer (some ⟨g,o,none⟩)] w fun e w'=>TK e w' w.heap.size [p0,8+p1,16+p2]∧Below w.heap.size w w':=by
 obtain ⟨i0,hi,hz0,hz1,hz2⟩:=info_parts Xp
 have k0:=@JV
 have k1:=@JW
 have k2:=@JX
 go_enter Tryz.func165,Tryz.ntmps165
 go_wp2_with (refine wpList_load_mid rfl 66 _ rfl g o rfl [.slice a0 n0 d0,.int .i64 p0,.int .i64 x0,.int .i64 y0,.slice a1 n1 d1,.int .i64 p1,.int .i64 x1,.int .i64 y1,.slice a2 n2 d2,.int .i64 p2,.int .i64 x2,.int .i64 y2] _ h Tryz.underlying66 rfl (by kernel_rfl) ?_)
 clear h
 go_loopw [3,12] (fun so si wr=>∃ (k:Nat) (v:Value),v=so∧k≤3∧si=.int .i64 k∧wr.ownsRow w.heap.size 3 1 v k ((LH p0 p1 p2 k).map (Value.int .i64))∧Below w.heap.size w wr) (fun _ si _=>3 - (Go.RowKit.intOf si).toNat)
 case atStart=>exact ⟨0,_,rfl,by omega,rfl,World.ownsRow_nil _ _ _ _,Below.refl _ _⟩
 case round =>
  obtain ⟨k,so,rfl,hk,rfl,q,bw⟩:=hrel
  have hk4:k=0∨k=1∨k=2∨k=3:=by omega
  rcases hk4 with rfl | rfl | rfl | rfl
  ·clear k1 k2
   have pN:=Blk.new wr 65 [.slice none 0 0,.int .i64 0,.int .i64 0,.int .i64 0]
   have bN:Below wr.heap.size wr (wr.alloc (.cells #[.slice none 0 0,.int .i64 0,.int .i64 0,.int .i64 0] 65)):=by go_grown
   have kI:=Vd 0 p0
   rw [Ug (by decide) f0,show 8*(0:Int)+p0=p0 by omega] at kI
   go_wp2_with (refine Zd rfl 65 _ _ rfl wr.heap.size [.slice a0 n0 d0,.int .i64 p0,.int .i64 x0,.int .i64 y0] rfl rfl pN (by kernel_rfl) rfl rfl ?_)
   intro w2 p2x g2
   have pM:=p2x.out
   have b2:Below wr.heap.size wr w2:=bN.grown g2 bN.size (fun k e=>by cases e;exact Nat.le_refl _)
   have q2:=Zp q b2
   have bw2:=Zm bw b2
   have hc1:w2.cell? ⟨wr.heap.size,1,none⟩=some (.int .i64 p0):=by simpa using pM.cell 1
   have hsz:=bw2.size
   clear p2x g2 bN pN b2 q pM bw
   generalize wr.heap.size=G at *
   go_wp2_with fail
   refine (kI _).mono ?_
   rintro e w3 ⟨rfl,rfl⟩
   clear kI
   go_wp2_with (at_builtin;refine wpList_append_own _ rfl _ _ 72 rfl w.heap.size 3 i0 (.int .i64 0) 1 8 Tryz.underlying72 hi hz0 hz1 hz2 rfl (by decide) _ _ _ rfl (q2.alloc _) ⟨w2.heap.size,0,none⟩ 1 1 [.int .i64 p0] rfl rfl (cell_one_new _ _ _) (by simp [Value.oneCell']) ?c3 ?c4 ?c5 ?_)
   case c3=>unfold maxLen;omega
   case c4=>omega
   case c5=>simp;omega
   intro v' wn hown' hgrow _
   have bn:Below w.heap.size w wn:=(bw2.alloc hsz _).grown hgrow (by simp;omega) (fun k hk=>(q2.lt k hk).1)
   clear hgrow q2 bw2 hc1
   go_wp2
   go_roundw
   case rel =>
    have R9:wn.ownsRow w.heap.size 3 1 v' 1 ((LH p0 p1 p2 1).map (Value.int .i64)):=by exact hown'
    first | exact ⟨1,_,rfl,by omega,by go_num,R9,bn⟩ | exact ⟨_,_,_,_,_,_,_,_,_,_,_,_,_,_,_,_,_,_,_,_,_,⟨1,_,rfl,by omega,by go_num,R9,bn⟩,rfl⟩
   case measure=>first | (simp [Go.RowKit.intOf];done) | decide
  ·clear k0 k2
   have pN:=Blk.new wr 65 [.slice none 0 0,.int .i64 0,.int .i64 0,.int .i64 0]
   have bN:Below wr.heap.size wr (wr.alloc (.cells #[.slice none 0 0,.int .i64 0,.int .i64 0,.int .i64 0] 65)):=by go_grown
   have kI:=Vd 1 p1
   rw [Ug (by decide) f1,show 8*(1:Int)+p1=8+p1 by omega] at kI
   go_wp2_with (refine Zd rfl 65 _ _ rfl wr.heap.size [.slice a1 n1 d1,.int .i64 p1,.int .i64 x1,.int .i64 y1] rfl rfl pN (by kernel_rfl) rfl rfl ?_)
   intro w2 p2x g2
   have pM:=p2x.out
   have b2:Below wr.heap.size wr w2:=bN.grown g2 bN.size (fun k e=>by cases e;exact Nat.le_refl _)
   have q2:=Zp q b2
   have bw2:=Zm bw b2
   have hc1:w2.cell? ⟨wr.heap.size,1,none⟩=some (.int .i64 p1):=by simpa using pM.cell 1
   have hsz:=bw2.size
   clear p2x g2 bN pN b2 q pM bw
   generalize wr.heap.size=G at *
   go_wp2_with fail
   refine (kI _).mono ?_
   rintro e w3 ⟨rfl,rfl⟩
   clear kI
   generalize hzz:8+p1=zz at *
   go_wp2_with (at_builtin;refine wpList_append_own _ rfl _ _ 72 rfl w.heap.size 3 i0 (.int .i64 0) 1 8 Tryz.underlying72 hi hz0 hz1 hz2 rfl (by decide) _ _ _ rfl (q2.alloc _) ⟨w2.heap.size,0,none⟩ 1 1 [.int .i64 zz] rfl rfl (cell_one_new _ _ _) (by simp [Value.oneCell']) ?c3 ?c4 ?c5 ?_)
   case c3=>unfold maxLen;omega
   case c4=>omega
   case c5=>simp;omega
   intro v' wn hown' hgrow _
   have bn:Below w.heap.size w wn:=(bw2.alloc hsz _).grown hgrow (by simp;omega) (fun k hk=>(q2.lt k hk).1)
   clear hgrow q2 bw2 hc1
   go_wp2
   go_roundw
   case rel =>
    have R9:wn.ownsRow w.heap.size 3 1 v' 2 ((LH p0 p1 p2 2).map (Value.int .i64)):=by subst hzz;exact hown'
    first | exact ⟨2,_,rfl,by omega,by go_num,R9,bn⟩ | exact ⟨_,_,_,_,_,_,_,_,_,_,_,_,_,_,_,_,_,_,_,_,_,⟨2,_,rfl,by omega,by go_num,R9,bn⟩,rfl⟩
   case measure=>first | (simp [Go.RowKit.intOf];done) | decide
  ·clear k0 k1
   have pN:=Blk.new wr 65 [.slice none 0 0,.int .i64 0,.int .i64 0,.int .i64 0]
   have bN:Below wr.heap.size wr (wr.alloc (.cells #[.slice none 0 0,.int .i64 0,.int .i64 0,.int .i64 0] 65)):=by go_grown
   have kI:=Vd 2 p2
   rw [Ug (by decide) f2,show 8*(2:Int)+p2=16+p2 by omega] at kI
   go_wp2_with (refine Zd rfl 65 _ _ rfl wr.heap.size [.slice a2 n2 d2,.int .i64 p2,.int .i64 x2,.int .i64 y2] rfl rfl pN (by kernel_rfl) rfl rfl ?_)
   intro w2 p2x g2
   have pM:=p2x.out
   have b2:Below wr.heap.size wr w2:=bN.grown g2 bN.size (fun k e=>by cases e;exact Nat.le_refl _)
   have q2:=Zp q b2
   have bw2:=Zm bw b2
   have hc1:w2.cell? ⟨wr.heap.size,1,none⟩=some (.int .i64 p2):=by simpa using pM.cell 1
   have hsz:=bw2.size
   clear p2x g2 bN pN b2 q pM bw
   generalize wr.heap.size=G at *
   go_wp2_with fail
   refine (kI _).mono ?_
   rintro e w3 ⟨rfl,rfl⟩
   clear kI
   generalize hzz:16+p2=zz at *
   go_wp2_with (at_builtin;refine wpList_append_own _ rfl _ _ 72 rfl w.heap.size 3 i0 (.int .i64 0) 1 8 Tryz.underlying72 hi hz0 hz1 hz2 rfl (by decide) _ _ _ rfl (q2.alloc _) ⟨w2.heap.size,0,none⟩ 1 1 [.int .i64 zz] rfl rfl (cell_one_new _ _ _) (by simp [Value.oneCell']) ?c3 ?c4 ?c5 ?_)
   case c3=>unfold maxLen;omega
   case c4=>omega
   case c5=>simp;omega
   intro v' wn hown' hgrow _
   have bn:Below w.heap.size w wn:=(bw2.alloc hsz _).grown hgrow (by simp;omega) (fun k hk=>(q2.lt k hk).1)
   clear hgrow q2 bw2 hc1
   go_wp2
   go_roundw
   case rel =>
    have R9:wn.ownsRow w.heap.size 3 1 v' 3 ((LH p0 p1 p2 3).map (Value.int .i64)):=by subst hzz;exact hown'
    first | exact ⟨3,_,rfl,by omega,by go_num,R9,bn⟩ | exact ⟨_,_,_,_,_,_,_,_,_,_,_,_,_,_,_,_,_,_,_,_,_,⟨3,_,rfl,by omega,by go_num,R9,bn⟩,rfl⟩
   case measure=>first | (simp [Go.RowKit.intOf];done) | decide
  obtain ⟨ga,gc,rfl⟩:=SB q (by omega)
  clear k0 k1 k2
  go_wp2
  go_ret
  exact ⟨⟨_,rfl,q⟩,bw⟩
theorem J6 (g o:Nat) (cs:Sl × Sl × Sl) (m:V4) (w:World) (h:w.rangeAt g o (Zi cs.1.val cs.2.1.val cs.2.2.val m)) (hs:Ze m=true) :
  Calls Tryz.prog 165 #[.pointer (some ⟨g,o,none⟩)] w fun e w'=>TK e w' w.heap.size (Zx m)∧Below w.heap.size w w':=by
 obtain ⟨⟨a0,n0,d0⟩,⟨a1,n1,d1⟩,⟨a2,n2,d2⟩⟩:=cs
 refine KX g o a0 a1 a2 n0 d0 n1 d1 n2 d2 (m.1.getD 0 0) (m.2.2.2.getD 0 0) (m.2.2.2.getD 1 0) (m.1.getD 1 0) (m.2.2.2.getD 2 0) (m.2.2.2.getD 3 0) (m.1.getD 2 0) (m.2.2.2.getD 4 0) (m.2.2.2.getD 5 0) w (fun j v hj=>?_) (P0 hs (by omega)) (P0 hs (by omega)) (P0 hs (by omega))
 refine h j v ?_
 have hl:=(List.getElem?_eq_some_iff.1 hj).1
 simp only [List.length_cons,List.length_nil] at hl
 match j,hl with
 | 0,_=>exact hj
 | 1,_=>exact hj
 | 2,_=>exact hj
 | 3,_=>exact hj
 | 4,_=>exact hj
 | 5,_=>exact hj
 | 6,_=>exact hj
 | 7,_=>exact hj
 | 8,_=>exact hj
 | 9,_=>exact hj
 | 10,_=>exact hj
 | 11,_=>exact hj


theorem RY:∀ (xs:List Int) (a b:Int),xs.Pairwise (· < ·)→(∀ x ∈ xs,a≤x∧x≤b)→(xs.length:Int)≤max (b - a+1) 0
 | [],a,b,_,_=>by simp;omega
 | x::xs,a,b,h,hb=>by
  obtain ⟨h1,h2⟩:=List.pairwise_cons.1 h
  have hx:=hb x (by simp)
  have ih:=RY xs (x+1) b h2 (fun y hy=>⟨by have:=h1 y hy;omega,(hb y (by simp [hy])).2⟩)
  simp only [List.length_cons,Int.natCast_add,Int.natCast_one]
  omega


def ZL (rows:List (List I3)) (m:V4):List I3:=(Zt rows m 3).foldl (fun out k=>ZG out (Xm rows m k)) (Zw rows m)
theorem NX {f:Int→List I3} {x:I3}:∀ (ks:List Int) (out:List I3),x ∈ ks.foldl (fun out k=>ZG out (f k)) out↔x ∈ out∨∃ k ∈ ks,x ∈ f k
 | [],out=>by simp
 | k::ks,out=>by
  rw [List.foldl_cons,NX ks,Xc]
  simp only [List.mem_cons,exists_eq_or_imp,or_assoc]
theorem M4 {rows:List (List I3)} {m:V4} {x:I3}:x ∈ ZL rows m↔x ∈ Zw rows m∨∃ k ∈ Zt rows m 3,x ∈ Xm rows m k:=NX _ _
theorem RJ {rows:List (List I3)} {m:V4} {k:Int} {x:I3}:x ∈ Xm rows m k↔x ∈ XX rows m k∨x ∈ Zw rows (goM rows m k).1:=by
 unfold Xm Zw
 split
 ·rw [Wn]
  simp
 simp


theorem Sz {σ:Type} {f:σ→List I3}:∀ (ks:List σ) (out:List I3),YN out→YN (ks.foldl (fun out k=>ZG out (f k)) out)
 | [],out,h=>h
 | k::ks,out,h=>Sz ks _ (Xk _ _)
theorem No (rows:List (List I3)) (m:V4):YN (Zw rows m):=by
 unfold Zw
 split
 ·exact List.pairwise_singleton _ _
 exact List.Pairwise.nil
theorem Td (rows:List (List I3)) (m:V4):YN (ZL rows m):=Sz _ _ (No rows m)
theorem Sr {m:V4} (h:Ze m=true):(Zx m).Pairwise (· < ·):=by
 have hp:∀ i,i<3→0≤m.1.getD i 0∧m.1.getD i 0≤6:=by
  intro i hi
  unfold Ze Yz at h
  simp only [Bool.and_eq_true,List.all_eq_true,decide_eq_true_eq] at h
  have hl:m.1.length=3:=by omega
  have:=h.1.1 (m.1.getD i 0) (by rw [List.getD,List.getElem?_eq_getElem (by omega)];exact List.getElem_mem _)
  exact this
 have h0:=hp 0 (by omega)
 have h1:=hp 1 (by omega)
 have h2:=hp 2 (by omega)
 unfold Zx
 simp only [List.pairwise_cons,List.mem_cons,List.not_mem_nil,or_false,List.Pairwise.nil,and_true]
 refine ⟨?_,?_,?_⟩
 ·rintro a (rfl | rfl)<;>omega
 ·rintro a rfl;omega
 simp


abbrev ZB:=List E3 × Nat
def Y2 (rec:V4→ZB→E3 × ZB × Bool):List (Int × V4)→E3→ZB→E3 × ZB × Bool
 | [],e,st=>(e,st,true)
 | t::ts,e,st=>if (rec t.2 st).2.2=true then Y2 rec ts (e.1,ZG e.2.1 (rec t.2 st).1.2.1,YK (e.2.2++(rec t.2 st).1.2.2)) (rec t.2 st).2.1 else (e3d,(rec t.2 st).2.1,false)
def Ya (rows:List (List I3)):Nat→V4→ZB→E3 × ZB × Bool
 | 0,_,st=>(e3d,st,false)
 | f+1,m,st =>
  if isE st.1 (ZC m)=true then (Vc st.1 (ZC m),st,true)
  else if st.1.length=2000 then (e3d,st,false)
  else if (Y2 (Ya rows f) (nxM rows m) (ZC m,ZL rows m,Zx m) (st.1,st.2+1)).2.2=true then
   (if (Y2 (Ya rows f) (nxM rows m) (ZC m,ZL rows m,Zx m) (st.1,st.2+1)).2.1.1.length=2000 then (e3d,(Y2 (Ya rows f) (nxM rows m) (ZC m,ZL rows m,Zx m) (st.1,st.2+1)).2.1,false)
    else ((Y2 (Ya rows f) (nxM rows m) (ZC m,ZL rows m,Zx m) (st.1,st.2+1)).1,(Wy (Y2 (Ya rows f) (nxM rows m) (ZC m,ZL rows m,Zx m) (st.1,st.2+1)).2.1.1 (Y2 (Ya rows f) (nxM rows m) (ZC m,ZL rows m,Zx m) (st.1,st.2+1)).1,(Y2 (Ya rows f) (nxM rows m) (ZC m,ZL rows m,Zx m) (st.1,st.2+1)).2.1.2),true))
  else (e3d,(Y2 (Ya rows f) (nxM rows m) (ZC m,ZL rows m,Zx m) (st.1,st.2+1)).2.1,false)


theorem MX {rows:List (List I3)} (hp:Zq rows=true) (m:V4):Xb rows m≤18:=by
 obtain ⟨h3,hr⟩:=Wx hp
 have hc:∀ k,k<3→(Xn rows k).length≤6:=fun k hk=>by
  unfold Xn
  rw [List.getD,List.getElem?_eq_getElem (by omega)]
  exact (hr _ (List.getElem_mem _)).1
 have h0:=hc 0 (by omega)
 have h1:=hc 1 (by omega)
 have h2:=hc 2 (by omega)
 unfold Xb Qz
 omega
theorem Su {rows:List (List I3)} (hp:Zq rows=true) {m:V4} (hs:Ze m=true):∀ t ∈ nxM rows m,Ze t.2=true∧Xb rows t.2<Xb rows m:=by
 intro t ht
 unfold nxM at ht
 obtain ⟨k,hk,rfl⟩:=List.mem_map.1 ht
 have hh:=WD hk
 have:=Q4 hp hs hh
 exact ⟨QV hp hs hh,by show Xb rows (goM rows m k).1<Xb rows m;omega⟩


def XP (rows:List (List I3)) (L:Nat) (st st':ZB):Prop:=UpR st'.1∧(∀ e ∈ st.1,e ∈ st'.1)∧(∀ e ∈ st'.1,e ∈ st.1∨∃ s,Ze s=true∧Xb rows s<L∧e.1=ZC s)∧st.2≤st'.2∧st'.1.length+st.2=st.1.length+st'.2
theorem XP.refl {rows:List (List I3)} {L:Nat} {st:ZB} (h:UpR st.1):XP rows L st st:=⟨h,fun e he=>he,fun e he=>.inl he,Nat.le_refl _,rfl⟩
theorem XP.trans {rows:List (List I3)} {L:Nat} {a b c:ZB} (h:XP rows L a b) (k:XP rows L b c):XP rows L a c:=
 ⟨k.1,fun e he=>k.2.1 e (h.2.1 e he),fun e he=>by
  rcases k.2.2.1 e he with h9 | h9
  ·exact h.2.2.1 e h9
  exact .inr h9,Nat.le_trans h.2.2.2.1 k.2.2.2.1,by have:=h.2.2.2.2;have:=k.2.2.2.2;omega⟩
theorem XP.mono {rows:List (List I3)} {L L':Nat} {a b:ZB} (h:XP rows L a b) (hL:L≤L'):XP rows L' a b:=
 ⟨h.1,h.2.1,fun e he=>by
  rcases h.2.2.1 e he with h9 | ⟨s,h1,h2,h3⟩
  ·exact .inl h9
  exact .inr ⟨s,h1,by omega,h3⟩,h.2.2.2⟩
theorem TH {rows:List (List I3)} {L:Nat} {rec:V4→ZB→E3 × ZB × Bool}:∀ (ts:List (Int × V4)) (e:E3) (st:ZB),(∀ t ∈ ts,∀ st:ZB,UpR st.1→(rec t.2 st).2.2=true→XP rows L st (rec t.2 st).2.1)→UpR st.1→(Y2 rec ts e st).2.2=true→XP rows L st (Y2 rec ts e st).2.1
 | [],e,st,hr,ht,hk=>XP.refl ht
 | t::ts,e,st,hr,ht,hk=>by
  unfold Y2 at hk ⊢
  by_cases h:(rec t.2 st).2.2=true
  ·rw [if_pos h] at hk ⊢
   have h2:=hr t (List.mem_cons_self ..) st ht h
   exact h2.trans (TH ts _ _ (fun t' ht'=>hr t' (List.mem_cons_of_mem _ ht')) h2.1 hk)
  rw [if_neg h] at hk
  cases hk
theorem My (rec:V4→ZB→E3 × ZB × Bool):∀ (ts:List (Int × V4)) (e:E3) (st:ZB),(Y2 rec ts e st).2.2=true→(Y2 rec ts e st).1.1=e.1
 | [],e,st,hk=>rfl
 | t::ts,e,st,hk=>by
  unfold Y2 at hk ⊢
  by_cases h:(rec t.2 st).2.2=true
  ·rw [if_pos h] at hk ⊢
   exact My rec ts _ _ hk
  rw [if_neg h] at hk
  cases hk
theorem WA {rows:List (List I3)} (hp:Zq rows=true):∀ (f:Nat) (m:V4) (st:ZB),Ze m=true→UpR st.1→(Ya rows f m st).2.2=true→XP rows (Xb rows m+1) st (Ya rows f m st).2.1
 | 0,m,st,hs,ht,hk=>by unfold Ya at hk;cases hk
 | f+1,m,st,hs,ht,hk=>by
  unfold Ya at hk ⊢
  by_cases h1:isE st.1 (ZC m)=true
  ·rw [if_pos h1]
   exact XP.refl ht
  rw [if_neg h1] at hk ⊢
  by_cases h2:st.1.length=2000
  ·rw [if_pos h2] at hk
   cases hk
  rw [if_neg h2] at hk ⊢
  have key:=TH (rows:=rows) (L:=Xb rows m) (rec:=Ya rows f) (nxM rows m) (ZC m,ZL rows m,Zx m) (st.1,st.2+1) (fun t htm st' ht' hk'=>by
   obtain ⟨q1,q2⟩:=Su hp hs t htm
   exact (WA hp f t.2 st' q1 ht' hk').mono (by omega)) ht
  have hkey:=My (Ya rows f) (nxM rows m) (ZC m,ZL rows m,Zx m) (st.1,st.2+1)
  generalize Y2 (Ya rows f) (nxM rows m) (ZC m,ZL rows m,Zx m) (st.1,st.2+1)=R at *
  by_cases h3:R.2.2=true
  ·rw [if_pos h3] at hk ⊢
   have k2:=key h3
   have hk1:=hkey h3
   simp only at hk1
   by_cases h4:R.2.1.1.length=2000
   ·rw [if_pos h4] at hk
    cases hk
   rw [if_neg h4]
   have hni:isE R.2.1.1 (ZC m)=false:=by
    cases hi:isE R.2.1.1 (ZC m)
    ·rfl
    exfalso
    obtain ⟨e,he,hek⟩:=(WM k2.1.up (k:=ZC m)).1 hi
    rcases k2.2.2.1 e he with h9 | ⟨s,s1,s2,s3⟩
    ·exact h1 ((WM ht.up (k:=ZC m)).2 ⟨e,h9,hek⟩)
    have:s=m:=JZ s1 hs (s3.symm.trans hek)
    subst this
    omega
   have hni2:isE R.2.1.1 R.1.1=false:=by rw [hk1];exact hni
   have hlen:=k2.1.few
   have hl:=N4 (es:=R.2.1.1) (e:=R.1)
   rw [hni2] at hl
   simp only [Bool.false_eq_true,if_false] at hl
   have h5:=k2.2.2.2
   simp only at h5
   refine ⟨GM k2.1 (.inr (by omega)),fun e he=>(N5 hni2).2 (.inr (k2.2.1 e he)),fun e he=>?_,by show st.2≤R.2.1.2;omega,?_⟩
   ·rcases (N5 hni2).1 he with h9 | h9
    ·exact .inr ⟨m,hs,by omega,by rw [h9,hk1]⟩
    rcases k2.2.2.1 e h9 with h8 | ⟨s,s1,s2,s3⟩
    ·exact .inl h8
    exact .inr ⟨s,s1,by omega,s3⟩
   show (Wy R.2.1.1 R.1).length+st.2=st.1.length+R.2.1.2
   omega
  rw [if_neg h3] at hk
  cases hk
def XE (rows:List (List I3)) (m:V4) (rec:V4→ZB→E3 × ZB):List (Int × V4)→List I3 × List Int→ZB→(List I3 × List Int) × ZB
 | [],acc,st=>(acc,st)
 | t::ts,acc,st=>XE rows m rec ts (((acc.1++XX rows m t.1)++Zw rows t.2)++(rec t.2 st).1.2.1,acc.2++(rec t.2 st).1.2.2) (rec t.2 st).2
def Vl (m:V4) (R:(List I3 × List Int) × ZB):E3:=(ZC m,ZG R.1.1 [],YK R.1.2)
def Yd (rows:List (List I3)) (g:Nat):Nat→V4→ZB→E3 × ZB
 | 0,_,st=>(e3d,st)
 | f+1,m,st =>
  if isE st.1 (ZC m)=true then (Vc st.1 (ZC m),st)
  else if 2000<g+(st.2+1) then (e3d,(st.1,st.2+1))
  else (Vl m (XE rows m (Yd rows g f) (nxM rows m) (Zw rows m,Zx m) (st.1,st.2+1)),(Wy (XE rows m (Yd rows g f) (nxM rows m) (Zw rows m,Zx m) (st.1,st.2+1)).2.1 (Vl m (XE rows m (Yd rows g f) (nxM rows m) (Zw rows m,Zx m) (st.1,st.2+1))),(XE rows m (Yd rows g f) (nxM rows m) (Zw rows m,Zx m) (st.1,st.2+1)).2.2))
theorem TF {rows:List (List I3)} {m:V4} {rec:V4→ZB→E3 × ZB} (h:∀ x st,st.2≤(rec x st).2.2):∀ (ts:List (Int × V4)) (acc:List I3 × List Int) (st:ZB),st.2≤(XE rows m rec ts acc st).2.2
 | [],acc,st=>Nat.le_refl _
 | t::ts,acc,st=>by
  unfold XE
  exact Nat.le_trans (h t.2 st) (TF h ts _ _)
theorem Qe {rows:List (List I3)} {g:Nat}:∀ (f:Nat) (m:V4) (st:ZB),st.2≤(Yd rows g f m st).2.2
 | 0,m,st=>Nat.le_refl _
 | f+1,m,st=>by
  unfold Yd
  split
  ·exact Nat.le_refl _
  split
  ·exact Nat.le_succ _
  have:=TF (rows:=rows) (m:=m) (fun x st=>Qe (rows:=rows) (g:=g) f x st) (nxM rows m) (Zw rows m,Zx m) (st.1,st.2+1)
  simp only at this ⊢
  omega
def TL (rows:List (List I3)) (m:V4) (ts:List (Int × V4)) (e e':E3) (a a':List I3 × List Int):Prop:=
 ∃ (P:I3→Prop) (Q:Int→Prop),(∀ x,x ∈ e'.2.1↔x ∈ e.2.1∨P x)∧(∀ y,y ∈ e'.2.2↔y ∈ e.2.2∨Q y) ∧
  (∀ x,x ∈ a'.1↔x ∈ a.1∨(∃ t ∈ ts,x ∈ XX rows m t.1∨x ∈ Zw rows t.2)∨P x)∧(∀ y,y ∈ a'.2↔y ∈ a.2∨Q y)∧(YN e.2.1→YN e'.2.1)∧(e.2.2.Pairwise (· < ·)→e'.2.2.Pairwise (· < ·))∧e'.1=e.1
theorem TL.nil {rows:List (List I3)} {m:V4} (e:E3) (a:List I3 × List Int):TL rows m [] e e a a:=⟨fun _=>False,fun _=>False,by simp,by simp,by simp,by simp,id,id,rfl⟩
theorem TL.cons {rows:List (List I3)} {m:V4} {t:Int × V4} {ts:List (Int × V4)} {e e':E3} {a a':List I3 × List Int} (r:E3) (h:TL rows m ts (e.1,ZG e.2.1 r.2.1,YK (e.2.2++r.2.2)) e' (((a.1++XX rows m t.1)++Zw rows t.2)++r.2.1,a.2++r.2.2) a'):TL rows m (t::ts) e e' a a':=by
 obtain ⟨P,Q,h1,h2,h3,h4,h5,h6,h7⟩:=h
 refine ⟨fun x=>x ∈ r.2.1∨P x,fun y=>y ∈ r.2.2∨Q y,fun x=>?_,fun y=>?_,fun x=>?_,fun y=>?_,fun _=>h5 (Xk _ _),fun _=>h6 (Xv _),h7⟩
 ·rw [h1,Xc,or_assoc]
 ·rw [h2,WP,List.mem_append,or_assoc]
 ·rw [h3]
  simp only [List.mem_append,List.mem_cons,exists_eq_or_imp]
  constructor
  ·rintro ((((h | h) | h) | h) | h | h)
   ·exact .inl h
   ·exact .inr (.inl (.inl (.inl h)))
   ·exact .inr (.inl (.inl (.inr h)))
   ·exact .inr (.inr (.inl h))
   ·exact .inr (.inl (.inr h))
   exact .inr (.inr (.inr h))
  rintro (h | ((h | h) | h) | h | h)
  ·exact .inl (.inl (.inl (.inl h)))
  ·exact .inl (.inl (.inl (.inr h)))
  ·exact .inl (.inl (.inr h))
  ·exact .inr (.inl h)
  ·exact .inl (.inr h)
  exact .inr (.inr h)
 rw [h4]
 simp only [List.mem_append,or_assoc]
theorem TL.ent {rows:List (List I3)} {m:V4} (hs:Ze m=true) {e':E3} {a':List I3 × List Int} {st:ZB} (h:TL rows m (nxM rows m) (ZC m,ZL rows m,Zx m) e' (Zw rows m,Zx m) a'):Vl m (a',st)=e':=by
 obtain ⟨P,Q,h1,h2,h3,h4,h5,h6,h7⟩:=h
 have hB:ZG a'.1 []=e'.2.1:=(Xk _ _).same (h5 (Td rows m)) (fun x=>by
  rw [Xc,h1,h3]
  simp only [List.not_mem_nil,or_false]
  rw [M4]
  have hx:(∃ t ∈ nxM rows m,x ∈ XX rows m t.1∨x ∈ Zw rows t.2)↔∃ k ∈ Zt rows m 3,x ∈ Xm rows m k:=by
   unfold nxM
   constructor
   ·rintro ⟨t,ht,h⟩
    obtain ⟨k,hk,rfl⟩:=List.mem_map.1 ht
    exact ⟨k,hk,RJ.2 h⟩
   rintro ⟨k,hk,h⟩
   exact ⟨_,List.mem_map.2 ⟨k,hk,rfl⟩,RJ.1 h⟩
  rw [hx,or_assoc])
 have hF:YK a'.2=e'.2.2:=Hv (Xv _) (h6 (Sr hs)) (fun y=>by rw [WP,h2,h4])
 unfold Vl
 simp only
 rw [hB,hF,show ZC m=e'.1 from h7.symm]
theorem Gg {rows:List (List I3)} {m:V4} {g:Nat} {rec:V4→ZB→E3 × ZB × Bool} {rec':V4→ZB→E3 × ZB} {L:Nat}:∀ (ts:List (Int × V4)) (e:E3) (a:List I3 × List Int) (st:ZB),
  (∀ t ∈ ts,∀ st:ZB,UpR st.1→(rec t.2 st).2.2=true→XP rows L st (rec t.2 st).2.1∧(g+(rec t.2 st).2.1.2≤2000→rec' t.2 st=((rec t.2 st).1,(rec t.2 st).2.1)))→UpR st.1→(Y2 rec ts e st).2.2=true→g+(Y2 rec ts e st).2.1.2≤2000 →
  TL rows m ts e (Y2 rec ts e st).1 a (XE rows m rec' ts a st).1∧(XE rows m rec' ts a st).2=(Y2 rec ts e st).2.1
 | [],e,a,st,hr,ht,hk,hg=>⟨TL.nil e a,rfl⟩
 | t::ts,e,a,st,hr,ht,hk,hg=>by
  unfold Y2 at hk hg ⊢
  unfold XE
  by_cases h:(rec t.2 st).2.2=true
  ·rw [if_pos h] at hk hg ⊢
   obtain ⟨h2,h3⟩:=hr t (List.mem_cons_self ..) st ht h
   have h4:=(TH ts (e.1,ZG e.2.1 (rec t.2 st).1.2.1,YK (e.2.2++(rec t.2 st).1.2.2)) (rec t.2 st).2.1 (fun t' ht' st' hu hk'=>(hr t' (List.mem_cons_of_mem _ ht') st' hu hk').1) h2.1 hk).2.2.2.1
   rw [h3 (by omega)]
   obtain ⟨q1,q2⟩:=Gg (m:=m) (rec':=rec') ts _ (((a.1++XX rows m t.1)++Zw rows t.2)++(rec t.2 st).1.2.1,a.2++(rec t.2 st).1.2.2) _ (fun t' ht'=>hr t' (List.mem_cons_of_mem _ ht')) h2.1 hk hg
   exact ⟨TL.cons (rec t.2 st).1 q1,q2⟩
  rw [if_neg h] at hk
  cases hk
theorem Kb {rows:List (List I3)} (hp:Zq rows=true) {g:Nat}:∀ (f:Nat) (m:V4) (st:ZB),Ze m=true→UpR st.1→(Ya rows f m st).2.2=true→g+(Ya rows f m st).2.1.2≤2000→Yd rows g f m st=((Ya rows f m st).1,(Ya rows f m st).2.1)
 | 0,m,st,hs,ht,hk,hg=>by unfold Ya at hk;cases hk
 | f+1,m,st,hs,ht,hk,hg=>by
  have hstr:=WA hp (f+1) m st hs ht hk
  unfold Ya at hk hg hstr ⊢
  unfold Yd
  by_cases h1:isE st.1 (ZC m)=true
  ·rw [if_pos h1,if_pos h1]
  rw [if_neg h1] at hk hg hstr ⊢
  rw [if_neg h1]
  by_cases h2:st.1.length=2000
  ·rw [if_pos h2] at hk
   cases hk
  rw [if_neg h2] at hk hg hstr ⊢
  have key:=Gg (rows:=rows) (m:=m) (g:=g) (L:=Xb rows m) (rec:=Ya rows f) (rec':=Yd rows g f) (nxM rows m) (ZC m,ZL rows m,Zx m) (Zw rows m,Zx m) (st.1,st.2+1) (fun t htm st' ht' hk'=>by
   obtain ⟨q1,q2⟩:=Su hp hs t htm
   exact ⟨(WA hp f t.2 st' q1 ht' hk').mono (by omega),fun h9=>Kb hp f t.2 st' q1 ht' hk' h9⟩) ht
  have kst:=TH (rows:=rows) (L:=Xb rows m) (rec:=Ya rows f) (nxM rows m) (ZC m,ZL rows m,Zx m) (st.1,st.2+1) (fun t htm st' ht' hk'=>by
   obtain ⟨q1,q2⟩:=Su hp hs t htm
   exact (WA hp f t.2 st' q1 ht' hk').mono (by omega)) ht
  generalize Y2 (Ya rows f) (nxM rows m) (ZC m,ZL rows m,Zx m) (st.1,st.2+1)=R at *
  generalize hK:XE rows m (Yd rows g f) (nxM rows m) (Zw rows m,Zx m) (st.1,st.2+1)=K at *
  by_cases h3:R.2.2=true
  ·rw [if_pos h3] at hk hg ⊢
   by_cases h4:R.2.1.1.length=2000
   ·rw [if_pos h4] at hk
    cases hk
   rw [if_neg h4] at hg ⊢
   simp only at hg
   obtain ⟨k1,k2⟩:=key h3 hg
   have k3:=(kst h3).2.2.2.1
   simp only at k3
   rw [if_neg (by omega)]
   have k4:=k1.ent (st:=K.2) hs
   rw [show Vl m K=R.1 from k4,k2]
  rw [if_neg h3] at hk
  cases hk
theorem Gh {rows:List (List I3)} {m:V4} {g:Nat} {rec:V4→ZB→E3 × ZB × Bool} {rec':V4→ZB→E3 × ZB} {L:Nat} (hc:∀ x st,st.2≤(rec' x st).2.2):∀ (ts:List (Int × V4)) (e:E3) (a:List I3 × List Int) (st:ZB),
  (∀ t ∈ ts,∀ st:ZB,UpR st.1→st.1.length≤g+st.2→g+(rec' t.2 st).2.2≤2000→(rec t.2 st).2.2=true∧XP rows L st (rec t.2 st).2.1∧rec' t.2 st=((rec t.2 st).1,(rec t.2 st).2.1))→UpR st.1→st.1.length≤g+st.2→g+(XE rows m rec' ts a st).2.2≤2000 →
  (Y2 rec ts e st).2.2=true∧XP rows L st (Y2 rec ts e st).2.1∧TL rows m ts e (Y2 rec ts e st).1 a (XE rows m rec' ts a st).1∧(XE rows m rec' ts a st).2=(Y2 rec ts e st).2.1
 | [],e,a,st,hr,ht,hl,hg=>⟨rfl,XP.refl ht,TL.nil e a,rfl⟩
 | t::ts,e,a,st,hr,ht,hl,hg=>by
  unfold XE at hg ⊢
  have hg1:=Nat.le_trans (Nat.add_le_add_left (TF (rows:=rows) (m:=m) hc ts (((a.1++XX rows m t.1)++Zw rows t.2)++(rec' t.2 st).1.2.1,a.2++(rec' t.2 st).1.2.2) (rec' t.2 st).2) g) hg
  obtain ⟨h1,h2,h3⟩:=hr t (List.mem_cons_self ..) st ht hl hg1
  rw [h3] at hg ⊢
  unfold Y2
  rw [if_pos h1]
  have h5:=h2.2.2.2.2
  obtain ⟨q0,q1,q2,q3⟩:=Gh (L:=L) (rec:=rec) hc ts (e.1,ZG e.2.1 (rec t.2 st).1.2.1,YK (e.2.2++(rec t.2 st).1.2.2)) _ _ (fun t' ht'=>hr t' (List.mem_cons_of_mem _ ht')) h2.1 (by omega) hg
  exact ⟨q0,h2.trans q1,TL.cons (rec t.2 st).1 q2,q3⟩
theorem Kc {rows:List (List I3)} (hp:Zq rows=true) {g:Nat}:∀ (f:Nat) (m:V4) (st:ZB),Ze m=true→Xb rows m<f→UpR st.1→st.1.length≤g+st.2→g+(Yd rows g f m st).2.2≤2000→(Ya rows f m st).2.2=true∧Yd rows g f m st=((Ya rows f m st).1,(Ya rows f m st).2.1)
 | 0,m,st,hs,hf,ht,hl,hg=>by omega
 | f+1,m,st,hs,hf,ht,hl,hg=>by
  unfold Yd at hg ⊢
  unfold Ya
  by_cases h1:isE st.1 (ZC m)=true
  ·rw [if_pos h1,if_pos h1]
   exact ⟨rfl,rfl⟩
  rw [if_neg h1] at hg ⊢
  rw [if_neg h1]
  by_cases h0:2000<g+(st.2+1)
  ·rw [if_pos h0] at hg
   simp only at hg
   omega
  rw [if_neg h0] at hg ⊢
  simp only at hg
  rw [if_neg (show ¬ st.1.length=2000 by omega)]
  obtain ⟨k0,k1,k2,k3⟩:=Gh (rows:=rows) (m:=m) (g:=g) (L:=Xb rows m) (rec:=Ya rows f) (rec':=Yd rows g f) (fun x st=>Qe f x st) (nxM rows m) (ZC m,ZL rows m,Zx m) (Zw rows m,Zx m) (st.1,st.2+1) (fun t htm st' ht' hl' hg'=>by
   obtain ⟨q1,q2⟩:=Su hp hs t htm
   obtain ⟨r1,r2⟩:=Kc hp f t.2 st' q1 (by omega) ht' hl' hg'
   exact ⟨r1,(WA hp f t.2 st' q1 ht' r1).mono (by omega),r2⟩) ht (by show st.1.length≤g+(st.2+1);omega) hg
  generalize Y2 (Ya rows f) (nxM rows m) (ZC m,ZL rows m,Zx m) (st.1,st.2+1)=R at *
  generalize hK:XE rows m (Yd rows g f) (nxM rows m) (Zw rows m,Zx m) (st.1,st.2+1)=K at *
  rw [if_pos k0]
  have k5:=k1.2.2.2.2
  simp only at k5
  rw [k3] at hg
  rw [if_neg (by omega)]
  have k4:=k2.ent (st:=K.2) hs
  rw [show Vl m K=R.1 from k4,k3]
  exact ⟨rfl,rfl⟩
theorem Gi {rows:List (List I3)} (hp:Zq rows=true) {f:Nat} {m:V4} {es:List E3} (hs:Ze m=true) (hf:Xb rows m<f) (ht:UpR es):
  (es.length+(Yd rows es.length f m (es,0)).2.2≤2000→(Ya rows f m (es,0)).2.2=true∧Yd rows es.length f m (es,0)=((Ya rows f m (es,0)).1,(Ya rows f m (es,0)).2.1)) ∧
  (¬ es.length+(Yd rows es.length f m (es,0)).2.2≤2000→(Ya rows f m (es,0)).2.2=false):=by
 refine ⟨fun h=>Kc hp f m (es,0) hs hf ht (by simp) h,fun h=>?_⟩
 cases hk:(Ya rows f m (es,0)).2.2
 ·rfl
 exfalso
 have h1:=WA hp f m (es,0) hs ht hk
 have h2:=h1.2.2.2.2
 have h3:=h1.1.few
 simp only at h2
 have h4:=Kb hp (g:=es.length) f m (es,0) hs ht hk (by omega)
 rw [h4] at h
 simp only at h
 omega


def VM:Nat→Nat
 | 0=>0
 | f+1=>1+3*VM f
theorem Fd:VM 19=581130733:=by decide
theorem LQ (rows:List (List I3)) (m:V4):(nxM rows m).length≤3:=by
 unfold nxM
 rw [List.length_map]
 exact Xh rows m 3
theorem Qi {rows:List (List I3)} {m:V4} {rec:V4→ZB→E3 × ZB} {B:Nat} (h:∀ x st,(rec x st).2.2≤st.2+B):∀ (ts:List (Int × V4)) (acc:List I3 × List Int) (st:ZB),(XE rows m rec ts acc st).2.2≤st.2+ts.length*B
 | [],acc,st=>Nat.le_add_right _ _
 | t::ts,acc,st=>by
  unfold XE
  have h1:=h t.2 st
  have h2:=Qi (rows:=rows) (m:=m) h ts (((acc.1++XX rows m t.1)++Zw rows t.2)++(rec t.2 st).1.2.1,acc.2++(rec t.2 st).1.2.2) (rec t.2 st).2
  rw [List.length_cons,Nat.add_mul,Nat.one_mul]
  omega
theorem Qg {rows:List (List I3)} {g:Nat}:∀ (f:Nat) (m:V4) (st:ZB),(Yd rows g f m st).2.2≤st.2+VM f
 | 0,m,st=>Nat.le_refl _
 | f+1,m,st=>by
  unfold Yd
  have hT:VM (f+1)=1+3*VM f:=rfl
  by_cases h1:isE st.1 (ZC m)=true
  ·rw [if_pos h1]
   exact Nat.le_add_right _ _
  rw [if_neg h1]
  by_cases h2:2000<g+(st.2+1)
  ·rw [if_pos h2]
   show st.2+1≤st.2+VM (f+1)
   omega
  rw [if_neg h2]
  have h3:=Qi (rows:=rows) (m:=m) (B:=VM f) (fun x st=>Qg (rows:=rows) (g:=g) f x st) (nxM rows m) (Zw rows m,Zx m) (st.1,st.2+1)
  have h4:=Nat.mul_le_mul_right (VM f) (LQ rows m)
  simp only at h3 ⊢
  omega


theorem N6:∀ (xs:List Int) (n:Int),n ∉ xs→(Z9 xs n).length=xs.length+1
 | [],n,_=>by simp [Z9]
 | x::xs,n,h=>by
  have h1:n≠x:=fun e=>h (by rw [e];exact List.mem_cons_self ..)
  have ih:=N6 xs n (fun e=>h (List.mem_cons_of_mem _ e))
  unfold Z9
  repeat' split
  all_goals first | (simp only [List.length_cons,ih];done) | (simp only [List.length_cons];done) | (exfalso;omega)
theorem QQ:∀ (xs acc:List Int),xs.Nodup→(∀ x ∈ xs,x ∉ acc)→(xs.foldl Z9 acc).length=acc.length+xs.length
 | [],acc,_,_=>rfl
 | x::xs,acc,hn,ha=>by
  have h1:=List.nodup_cons.1 hn
  rw [List.foldl_cons,QQ xs _ h1.2 (fun y hy=>by
   rw [Vp]
   rintro (e | e)
   ·subst e;exact h1.1 hy
   exact ha y (List.mem_cons_of_mem _ hy) e),N6 acc x (ha x (List.mem_cons_self ..)),List.length_cons]
  omega
theorem K5 {xs:List Int} {a b:Int} (hn:xs.Nodup) (hb:∀ x ∈ xs,a≤x∧x≤b):(xs.length:Int)≤max (b - a+1) 0:=by
 have h1:=QQ xs [] hn (fun x _=>by simp)
 have h2:=RY (YK xs) a b (Xv xs) (fun x hx=>hb x ((WP xs x).1 hx))
 unfold YK at h2
 rw [h1] at h2
 simpa using h2


theorem M7 {x:I3} (h:okB x=true):x=(14,0,0)∨∃ k a b:Nat,(k=12∨k=13)∧a<3∧b<6∧x=((k:Int),(a:Int),(b:Int)):=by
 obtain ⟨c,a,b⟩:=x
 unfold okB at h
 simp only at h
 split at h
 ·rename_i e
  simp at h
  exact .inl (by rw [e,h.1,h.2])
 split at h
 ·rename_i e
  simp [Zv] at h
  refine .inr ⟨c.toNat,a.toNat,b.toNat,by omega,by omega,by omega,?_⟩
  rw [Int.toNat_of_nonneg (by omega),Int.toNat_of_nonneg (by omega),Int.toNat_of_nonneg (by omega)]
 cases h
theorem VY {x:I3} (h:okB x=true):I3.fits x:=by
 rcases M7 h with rfl | ⟨k,a,b,hk,ha,hb,rfl⟩
 ·unfold I3.fits;decide
 have h2:a=0∨a=1∨a=2:=by omega
 have h3:b=0∨b=1∨b=2∨b=3∨b=4∨b=5:=by omega
 rcases hk with rfl | rfl<;>rcases h2 with rfl | rfl | rfl<;>rcases h3 with rfl | rfl | rfl | rfl | rfl | rfl<;>(unfold I3.fits;decide)


theorem Lk {w:World} {g t:Nat} {a b c:Value} (h:Blk w g t [a,b,c]):∀ j u,[a,b,c][j]?=some u→w.cell? ((⟨g,0,none⟩:Addr).add j)=some u:=QL h

end Go.Proofs.YtmhlokahmblboaaGreatDoor
