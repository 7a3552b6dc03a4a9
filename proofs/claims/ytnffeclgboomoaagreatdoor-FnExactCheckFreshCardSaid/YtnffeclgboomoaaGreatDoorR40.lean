/-
  Joined: RunS, SpGo, LokI.
-/
import Derived.Maps.OwnSet
import Derived.Test.YtnffeclgboomoaaGreatDoorR22
import Derived.Test.YtnffeclgboomoaaGreatDoorR29

namespace Go.Proofs.YtnffeclgboomoaaGreatDoor
set_option maxRecDepth 100000
set_option maxHeartbeats 16000000
open Go.RowKit
set_option linter.unusedVariables false
set_option linter.unusedSimpArgs false

theorem TL {rows:List (List I3)} {m:V4} {k:Int} (hp:Zq rows=true) (hs:Zh m=true) (hz:VQ rows m k=0):(∀ x ∈ Y3 rows m k,okB x=true)∧(Y3 rows m k).length≤2:=by
 have h1:=Hs hp hs hz
 have h2:=Jw rows m k
 unfold Y3
 split
 ·refine ⟨fun x hx=>?_,?_⟩
  ·rw [Wf] at hx
   rcases hx with hx | hx
   ·exact h1 x hx
   subst hx;rfl
  have:=Tp (XQ rows m k) (14,0,0)
  omega
 exact ⟨h1,by omega⟩
theorem Km {xs ys:List I3} (h:∀ x ∈ xs,okB x=true) (k:∀ x ∈ ys,okB x=true):∀ x ∈ ZL xs ys,okB x=true:=fun x hx=>by
 rw [Xd] at hx
 exact hx.elim (h x) (k x)

theorem XA {w:World} {B cap:Nat} {a:Option Addr} {xs:List I3} (h:w.ownsRow B 127 3 (.slice a xs.length cap) xs.length (Zl xs)) (hf:∀ x ∈ xs,I3.fits x):Zm w a xs.length cap xs:=by
 obtain ⟨a',c',e,hI,_⟩:=Z5 h hf
 cases e
 exact hI
theorem Vr {w:World} {a:Option Addr} {n c:Nat} {ks:List Int} (h:Yi .i64 w a n c ks) {i:Nat} (hi:i<n):∃ b off,a=some ⟨b,off,none⟩∧w.cell? ⟨b,off+i,none⟩=some (.int .i64 (ks.getD i 0))∧b<w.heap.size:=by
 obtain ⟨h1,h2,h3,h4⟩:=h
 rcases h4 with h4 | ⟨b,off,ha,hl,hc⟩
 ·omega
 exact ⟨b,off,ha,hc i hi,hl⟩


theorem Vw {w:World} {B e s n:Nat} {v:Value} {xs:List Value} (h:w.ownsRow B e s v n xs):∃ a k c,v=.slice a k c:=by
 rcases h.2 with ⟨h1,h2⟩ | ⟨gq,cq,cur,h1,_⟩
 ·exact ⟨none,0,0,h1⟩
 exact ⟨_,_,_,h1⟩
theorem Qo {w:World} {g t:Nat} {cs:List Value} (h:Blk w g t cs):w.rangeAt g 0 cs:=fun j v hj=>by rw [Nat.zero_add,h.cell];exact hj


def ZA (m:V4):List Int:=[m.1.getD 0 0,8+m.1.getD 1 0,16+m.1.getD 2 0]
theorem look_ok {m:V4} (hs:Zh m=true):∀ z ∈ ZA m,XO z=true:=by
 obtain ⟨h,_⟩:=Ys hs
 obtain ⟨hl,_⟩:=ZQ hs
 have hp:∀ k,k<3→0≤m.1.getD k 0∧m.1.getD k 0≤6:=fun k hk=>h _ (by simp [List.getD,List.getElem?_eq_getElem (show k<m.1.length by omega)])
 have p0:=hp 0 (by omega)
 have p1:=hp 1 (by omega)
 have p2:=hp 2 (by omega)
 intro z hz
 simp only [ZA,List.mem_cons,List.not_mem_nil,or_false] at hz
 simp only [XO,decide_eq_true_eq]
 rcases hz with rfl | rfl | rfl<;>omega
theorem Py {m:V4} (hs:Zh m=true) {k:Nat} (hk:k<3):X9 (m.1.getD k 0) 0 6=true:=by
 obtain ⟨h,_⟩:=Ys hs
 obtain ⟨hl,_⟩:=ZQ hs
 exact Y0.2 (h _ (by simp [List.getD,List.getElem?_eq_getElem (show k<m.1.length by omega)]))
def M4 (p0 p1 p2:Int) (k:Nat):List Int:=[p0,8+p1,16+p2].take k
theorem Kg (g o:Nat) (a0 a1 a2:Option Addr) (n0 d0 n1 d1 n2 d2:Nat) (p0 x0 y0 p1 x1 y1 p2 x2 y2:Int) (w:World) (h:w.rangeAt g o [.slice a0 n0 d0,.int .i64 p0,.int .i64 x0,.int .i64 y0,.slice a1 n1 d1,.int .i64 p1,.int .i64 x1,.int .i64 y1,.slice a2 n2 d2,.int .i64 p2,.int .i64 x2,.int .i64 y2]) (f0:X9 p0 0 6=true) (f1:X9 p1 0 6=true) (f2:X9 p2 0 6=true) :
  Calls Tryz.prog 183 #[.pointer (some ⟨g,o,none⟩)] w fun e w'=>TD e w' w.heap.size [p0,8+p1,16+p2]∧Below w.heap.size w w':=by
 obtain ⟨i0,hi,hz0,hz1,hz2⟩:=info_parts XF
 have k0:=@Jd
 have k1:=@Je
 have k2:=@Jf
 go_enter Tryz.func183,Tryz.ntmps183
 go_wp2_with (refine wpList_load_mid rfl 119 _ rfl g o rfl [.slice a0 n0 d0,.int .i64 p0,.int .i64 x0,.int .i64 y0,.slice a1 n1 d1,.int .i64 p1,.int .i64 x1,.int .i64 y1,.slice a2 n2 d2,.int .i64 p2,.int .i64 x2,.int .i64 y2] _ h Tryz.underlying119 rfl (by kernel_rfl) ?_)
 clear h
 go_loopw [3,12] (fun so si wr=>∃ (k:Nat) (v:Value),v=so∧k≤3∧si=.int .i64 k∧wr.ownsRow w.heap.size 3 1 v k ((M4 p0 p1 p2 k).map (Value.int .i64))∧Below w.heap.size w wr) (fun _ si _=>3 - (Go.RowKit.intOf si).toNat)
 case atStart=>exact ⟨0,_,rfl,by omega,rfl,World.ownsRow_nil _ _ _ _,Below.refl _ _⟩
 case round =>
  obtain ⟨k,so,rfl,hk,rfl,q,bw⟩:=hrel
  have hk4:k=0∨k=1∨k=2∨k=3:=by omega
  rcases hk4 with rfl | rfl | rfl | rfl
  ·clear k1 k2
   have pN:=Blk.new wr 118 [.slice none 0 0,.int .i64 0,.int .i64 0,.int .i64 0]
   have bN:Below wr.heap.size wr (wr.alloc (.cells #[.slice none 0 0,.int .i64 0,.int .i64 0,.int .i64 0] 118)):=by go_grown
   have kI:=WW 0 p0
   rw [Uf (by decide) f0,show 8*(0:Int)+p0=p0 by omega] at kI
   go_wp2_with (refine Zd rfl 118 _ _ rfl wr.heap.size [.slice a0 n0 d0,.int .i64 p0,.int .i64 x0,.int .i64 y0] rfl rfl pN (by kernel_rfl) rfl rfl ?_)
   intro w2 p2x g2
   have pM:=p2x.out
   have b2:Below wr.heap.size wr w2:=bN.grown g2 bN.size (fun k e=>by cases e;exact Nat.le_refl _)
   have q2:=Zs q b2
   have bw2:=Zn bw b2
   have hc1:w2.cell? ⟨wr.heap.size,1,none⟩=some (.int .i64 p0):=by simpa using pM.cell 1
   have hsz:=bw2.size
   clear p2x g2 bN pN b2 q pM bw
   generalize wr.heap.size=G at *
   go_wp2_with fail
   refine (kI _).mono ?_
   rintro e w3 ⟨rfl,rfl⟩
   clear kI
   go_wp2_with (at_builtin;refine wpList_append_own _ rfl _ _ 36 rfl w.heap.size 3 i0 (.int .i64 0) 1 8 Tryz.underlying36 hi hz0 hz1 hz2 rfl (by decide) _ _ _ rfl (q2.alloc _) ⟨w2.heap.size,0,none⟩ 1 1 [.int .i64 p0] rfl rfl (cell_one_new _ _ _) (by simp [Value.oneCell']) ?c3 ?c4 ?c5 ?_)
   case c3=>unfold maxLen;omega
   case c4=>omega
   case c5=>simp;omega
   intro v' wn hown' hgrow _
   have bn:Below w.heap.size w wn:=(bw2.alloc hsz _).grown hgrow (by simp;omega) (fun k hk=>(q2.lt k hk).1)
   clear hgrow q2 bw2 hc1
   go_wp2
   go_roundw
   case rel =>
    have R9:wn.ownsRow w.heap.size 3 1 v' 1 ((M4 p0 p1 p2 1).map (Value.int .i64)):=by exact hown'
    first | exact ⟨1,_,rfl,by omega,by go_num,R9,bn⟩ | exact ⟨_,_,_,_,_,_,_,_,_,_,_,_,_,_,_,_,_,_,_,_,_,⟨1,_,rfl,by omega,by go_num,R9,bn⟩,rfl⟩
   case measure=>first | (simp [Go.RowKit.intOf];done) | decide
  ·clear k0 k2
   have pN:=Blk.new wr 118 [.slice none 0 0,.int .i64 0,.int .i64 0,.int .i64 0]
   have bN:Below wr.heap.size wr (wr.alloc (.cells #[.slice none 0 0,.int .i64 0,.int .i64 0,.int .i64 0] 118)):=by go_grown
   have kI:=WW 1 p1
   rw [Uf (by decide) f1,show 8*(1:Int)+p1=8+p1 by omega] at kI
   go_wp2_with (refine Zd rfl 118 _ _ rfl wr.heap.size [.slice a1 n1 d1,.int .i64 p1,.int .i64 x1,.int .i64 y1] rfl rfl pN (by kernel_rfl) rfl rfl ?_)
   intro w2 p2x g2
   have pM:=p2x.out
   have b2:Below wr.heap.size wr w2:=bN.grown g2 bN.size (fun k e=>by cases e;exact Nat.le_refl _)
   have q2:=Zs q b2
   have bw2:=Zn bw b2
   have hc1:w2.cell? ⟨wr.heap.size,1,none⟩=some (.int .i64 p1):=by simpa using pM.cell 1
   have hsz:=bw2.size
   clear p2x g2 bN pN b2 q pM bw
   generalize wr.heap.size=G at *
   go_wp2_with fail
   refine (kI _).mono ?_
   rintro e w3 ⟨rfl,rfl⟩
   clear kI
   generalize hzz:8+p1=zz at *
   go_wp2_with (at_builtin;refine wpList_append_own _ rfl _ _ 36 rfl w.heap.size 3 i0 (.int .i64 0) 1 8 Tryz.underlying36 hi hz0 hz1 hz2 rfl (by decide) _ _ _ rfl (q2.alloc _) ⟨w2.heap.size,0,none⟩ 1 1 [.int .i64 zz] rfl rfl (cell_one_new _ _ _) (by simp [Value.oneCell']) ?c3 ?c4 ?c5 ?_)
   case c3=>unfold maxLen;omega
   case c4=>omega
   case c5=>simp;omega
   intro v' wn hown' hgrow _
   have bn:Below w.heap.size w wn:=(bw2.alloc hsz _).grown hgrow (by simp;omega) (fun k hk=>(q2.lt k hk).1)
   clear hgrow q2 bw2 hc1
   go_wp2
   go_roundw
   case rel =>
    have R9:wn.ownsRow w.heap.size 3 1 v' 2 ((M4 p0 p1 p2 2).map (Value.int .i64)):=by subst hzz;exact hown'
    first | exact ⟨2,_,rfl,by omega,by go_num,R9,bn⟩ | exact ⟨_,_,_,_,_,_,_,_,_,_,_,_,_,_,_,_,_,_,_,_,_,⟨2,_,rfl,by omega,by go_num,R9,bn⟩,rfl⟩
   case measure=>first | (simp [Go.RowKit.intOf];done) | decide
  ·clear k0 k1
   have pN:=Blk.new wr 118 [.slice none 0 0,.int .i64 0,.int .i64 0,.int .i64 0]
   have bN:Below wr.heap.size wr (wr.alloc (.cells #[.slice none 0 0,.int .i64 0,.int .i64 0,.int .i64 0] 118)):=by go_grown
   have kI:=WW 2 p2
   rw [Uf (by decide) f2,show 8*(2:Int)+p2=16+p2 by omega] at kI
   go_wp2_with (refine Zd rfl 118 _ _ rfl wr.heap.size [.slice a2 n2 d2,.int .i64 p2,.int .i64 x2,.int .i64 y2] rfl rfl pN (by kernel_rfl) rfl rfl ?_)
   intro w2 p2x g2
   have pM:=p2x.out
   have b2:Below wr.heap.size wr w2:=bN.grown g2 bN.size (fun k e=>by cases e;exact Nat.le_refl _)
   have q2:=Zs q b2
   have bw2:=Zn bw b2
   have hc1:w2.cell? ⟨wr.heap.size,1,none⟩=some (.int .i64 p2):=by simpa using pM.cell 1
   have hsz:=bw2.size
   clear p2x g2 bN pN b2 q pM bw
   generalize wr.heap.size=G at *
   go_wp2_with fail
   refine (kI _).mono ?_
   rintro e w3 ⟨rfl,rfl⟩
   clear kI
   generalize hzz:16+p2=zz at *
   go_wp2_with (at_builtin;refine wpList_append_own _ rfl _ _ 36 rfl w.heap.size 3 i0 (.int .i64 0) 1 8 Tryz.underlying36 hi hz0 hz1 hz2 rfl (by decide) _ _ _ rfl (q2.alloc _) ⟨w2.heap.size,0,none⟩ 1 1 [.int .i64 zz] rfl rfl (cell_one_new _ _ _) (by simp [Value.oneCell']) ?c3 ?c4 ?c5 ?_)
   case c3=>unfold maxLen;omega
   case c4=>omega
   case c5=>simp;omega
   intro v' wn hown' hgrow _
   have bn:Below w.heap.size w wn:=(bw2.alloc hsz _).grown hgrow (by simp;omega) (fun k hk=>(q2.lt k hk).1)
   clear hgrow q2 bw2 hc1
   go_wp2
   go_roundw
   case rel =>
    have R9:wn.ownsRow w.heap.size 3 1 v' 3 ((M4 p0 p1 p2 3).map (Value.int .i64)):=by subst hzz;exact hown'
    first | exact ⟨3,_,rfl,by omega,by go_num,R9,bn⟩ | exact ⟨_,_,_,_,_,_,_,_,_,_,_,_,_,_,_,_,_,_,_,_,_,⟨3,_,rfl,by omega,by go_num,R9,bn⟩,rfl⟩
   case measure=>first | (simp [Go.RowKit.intOf];done) | decide
  obtain ⟨ga,gc,rfl⟩:=VD q (by omega)
  clear k0 k1 k2
  go_wp2
  go_ret
  exact ⟨⟨_,rfl,q⟩,bw⟩
theorem Jo (g o:Nat) (cs:Sl × Sl × Sl) (m:V4) (w:World) (h:w.rangeAt g o (Zk cs.1.val cs.2.1.val cs.2.2.val m)) (hs:Zh m=true) :
  Calls Tryz.prog 183 #[.pointer (some ⟨g,o,none⟩)] w fun e w'=>TD e w' w.heap.size (ZA m)∧Below w.heap.size w w':=by
 obtain ⟨⟨a0,n0,d0⟩,⟨a1,n1,d1⟩,⟨a2,n2,d2⟩⟩:=cs
 refine Kg g o a0 a1 a2 n0 d0 n1 d1 n2 d2 (m.1.getD 0 0) (m.2.2.2.getD 0 0) (m.2.2.2.getD 1 0) (m.1.getD 1 0) (m.2.2.2.getD 2 0) (m.2.2.2.getD 3 0) (m.1.getD 2 0) (m.2.2.2.getD 4 0) (m.2.2.2.getD 5 0) w (fun j v hj=>?_) (Py hs (by omega)) (Py hs (by omega)) (Py hs (by omega))
 refine h j v ?_
 have hl:=(List.getElem?_eq_some_iff.1 hj).1
 simp only [List.length_cons,List.length_nil] at hl
 match j,hl with
 | 0,_=>exact hj
 | 1,_=>exact hj
 | 2,_=>exact hj
 | 3,_=>exact hj
 | 4,_=>exact hj
 | 5,_=>exact hj
 | 6,_=>exact hj
 | 7,_=>exact hj
 | 8,_=>exact hj
 | 9,_=>exact hj
 | 10,_=>exact hj
 | 11,_=>exact hj
end Go.Proofs.YtnffeclgboomoaaGreatDoor
