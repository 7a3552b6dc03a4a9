/-
  Joined: MachP.
-/
import Derived.Test.YtgmhhegckcionaaGreatDoorF05

namespace Go.Proofs.YtgmhhegckcionaaGreatDoor
set_option maxRecDepth 100000
set_option maxHeartbeats 16000000
open Go.RowKit
set_option linter.unusedVariables false
set_option linter.unusedSimpArgs false

def VZ (m:V4):Prop:=m.1.length=3∧m.2.1.length=4∧m.2.2.1.length=2∧m.2.2.2.length=6
theorem VZ.of {m:V4} (h:Zc m=true):VZ m:=by
 obtain ⟨a,b,c,d,_⟩:=ZS h
 exact ⟨a,b,c,d⟩
theorem VZ.lists {m:V4} (h:VZ m):∃ p0 p1 p2 v0 v1 v2 v3 h0 h1 x0 y0 x1 y1 x2 y2:Int,m=([p0,p1,p2],[v0,v1,v2,v3],[h0,h1],[x0,y0,x1,y1,x2,y2]):=by
 obtain ⟨l0,l1,l2,l3⟩:=h
 obtain ⟨a,b,c,d⟩:=m
 simp only at l0 l1 l2 l3
 match a,b,c,d,l0,l1,l2,l3 with
 | [p0,p1,p2],[v0,v1,v2,v3],[h0,h1],[x0,y0,x1,y1,x2,y2],_,_,_,_=>exact ⟨p0,p1,p2,v0,v1,v2,v3,h0,h1,x0,y0,x1,y1,x2,y2,rfl⟩
section
variable (c0 c1 c2 : Value) (m : V4) (h : VZ m)
include h
theorem CG {k:Nat} (hk:k<3) (v:Int):(Zi c0 c1 c2 m).set (k*4+1) (.int .i64 v)=Zi c0 c1 c2 (m.1.set k v,m.2):=by
 obtain ⟨p0,p1,p2,v0,v1,v2,v3,h0,h1,x0,y0,x1,y1,x2,y2,rfl⟩:=h.lists
 match k,hk with
 | 0,_=>rfl
 | 1,_=>rfl
 | 2,_=>rfl
theorem Kz {k a:Nat} (hk:k<3) (ha:a<2) (v:Int):(Zi c0 c1 c2 m).set (k*4+2+a) (.int .i64 v)=Zi c0 c1 c2 (m.1,m.2.1,m.2.2.1,m.2.2.2.set (k*2+a) v):=by
 obtain ⟨p0,p1,p2,v0,v1,v2,v3,h0,h1,x0,y0,x1,y1,x2,y2,rfl⟩:=h.lists
 match k,hk,a,ha with
 | 0,_,0,_=>rfl
 | 1,_,0,_=>rfl
 | 2,_,0,_=>rfl
 | 0,_,1,_=>rfl
 | 1,_,1,_=>rfl
 | 2,_,1,_=>rfl
theorem C1 {a:Nat} (ha:a<4) (v:Int):(Zi c0 c1 c2 m).set (12+a) (.int .i64 v)=Zi c0 c1 c2 (m.1,m.2.1.set a v,m.2.2.1,m.2.2.2):=by
 obtain ⟨p0,p1,p2,v0,v1,v2,v3,h0,h1,x0,y0,x1,y1,x2,y2,rfl⟩:=h.lists
 match a,ha with
 | 0,_=>rfl
 | 1,_=>rfl
 | 2,_=>rfl
 | 3,_=>rfl
theorem Ji {a:Nat} (ha:a<2) (v:Int):(Zi c0 c1 c2 m).set (16+a) (.int .i64 v)=Zi c0 c1 c2 (m.1,m.2.1,m.2.2.1.set a v,m.2.2.2):=by
 obtain ⟨p0,p1,p2,v0,v1,v2,v3,h0,h1,x0,y0,x1,y1,x2,y2,rfl⟩:=h.lists
 match a,ha with
 | 0,_=>rfl
 | 1,_=>rfl
end
theorem VZ.pc {m:V4} (h:VZ m) (k:Nat) (v:Int):VZ (m.1.set k v,m.2):=⟨by simpa using h.1,h.2⟩
theorem Ws {a b c:World} {r:Option Nat} (h:a.grownBy b r) (k:b.grownBy c r):a.grownBy c r:=ZE h k
theorem PZ {a b:World} {r:Option Nat} (h:Below a.heap.size a b):a.grownBy b r:=⟨h.os,h.tape,h.output,h.size,fun i hi _=>h.block i hi⟩
theorem Y3 (W:World) (g i:Nat) (v:Value):W.grownBy (W.setCell ⟨g,i,none⟩ v) (some g):=Zh W g i v

theorem VB {a b:World} {r:Option Nat} (h:a.grownBy b r):a.grownBy b.drew r:=⟨h.os,h.tape,h.output,h.size,h.block⟩
theorem VN {a b:World} {r:Option Nat} (h:a.grownBy b r) (d:Nat):a.grownBy (b.drewN d) r:=⟨h.os,h.tape,h.output,h.size,h.block⟩

theorem unlock_yes (g k a:Nat) (cs:Sl × Sl × Sl) (m:V4) (w:World) (hk:k<3) (ha:a<2) (hL:VZ m) (hM:Blk w g 98 (Zi cs.1.val cs.2.1.val cs.2.2.val m)) (hv:m.2.2.1.getD a 0=(k:Int)+1) :
  Calls Tryz.prog 170 #[.pointer (some ⟨g,0,none⟩),.int .i64 k,.int .i64 a] w fun e w'=>e=.returned (.int .i64 0)∧Blk w' g 98 (Zi cs.1.val cs.2.1.val cs.2.2.val (m.1,m.2.1,m.2.2.1.set a 0,m.2.2.2))∧w.grownBy w' (some g):=by
 have r1:w.cell? ⟨g,16+a,none⟩=some (.int .i64 ((k:Int)+1)):=(hM.cell _).trans ((SE _ _ _ _ ha).trans (by rw [← hv]))
 have f1:=hM.frozen (16+a)
 have hM4:=hM.set (16+a) (.int .i64 0)
 rw [Ji _ _ _ _ hL ha] at hM4
 have g4:=Y3 w g (16+a) (.int .i64 0)
 have ha2:(a:Int)<2:=by omega
 have hne:(((k:Int)+1) != ((k:Int)+1))=false:=by simp
 have hkw:IntKind.i64.wrap ((k:Int)+1)=(k:Int)+1:=IntWalk.i64_in _ (by omega)
 clear hv hM
 go_enter Tryz.func170,Tryz.ntmps170
 go_wp2
 go_ret
 exact ⟨rfl,hM4,g4⟩
theorem unlock_no (g k a:Nat) (cs:Sl × Sl × Sl) (m:V4) (w:World) (hk:k<3) (ha:a<2) (hM:Blk w g 98 (Zi cs.1.val cs.2.1.val cs.2.2.val m)) (hv:m.2.2.1.getD a 0≠(k:Int)+1) :
  Calls Tryz.prog 170 #[.pointer (some ⟨g,0,none⟩),.int .i64 k,.int .i64 a] w fun e w'=>e=.returned (.int .i64 13)∧w=w':=by
 have r1:w.cell? ⟨g,16+a,none⟩=some (.int .i64 (m.2.2.1.getD a 0)):=(hM.cell _).trans (SE _ _ _ _ ha)
 have ha2:(a:Int)<2:=by omega
 generalize m.2.2.1.getD a 0=hh at *
 have hne:(hh != ((k:Int)+1))=true:=by simp [hv]
 have hkw:IntKind.i64.wrap ((k:Int)+1)=(k:Int)+1:=IntWalk.i64_in _ (by omega)
 clear hM
 go_enter Tryz.func170,Tryz.ntmps170
 go_wp2
 go_ret
 exact ⟨rfl,rfl⟩

inductive Ms3 (k p:Nat) (m:V4):Int→Int→Int→V4→Int→Prop
 | load (a q:Nat) (vv:Int) (ha:a<2) (hq:q<4) (hvv:m.2.1.getD q 0=vv):Ms3 k p m 1 a q (m.1.set k ((p:Int)+1),m.2.1,m.2.2.1,m.2.2.2.set (k*2+a) vv) 0
 | store (a q:Nat) (vv:Int) (ha:a<2) (hq:q<4) (hvv:m.2.2.2.getD (k*2+a) 0=vv):Ms3 k p m 2 q a (m.1.set k ((p:Int)+1),m.2.1.set q vv,m.2.2.1,m.2.2.2) 0
 | set (a:Nat) (z:Int) (ha:a<2):Ms3 k p m 3 a z (m.1.set k ((p:Int)+1),m.2.1,m.2.2.1,m.2.2.2.set (k*2+a) z) 0
 | add (a:Nat) (z vv t:Int) (ha:a<2) (hvv:m.2.2.2.getD (k*2+a) 0=vv) (hz:0≤z∧z≤9) (hv9:0≤vv∧vv≤9) (ht:(vv+z) % 10=t):Ms3 k p m 4 a z (m.1.set k ((p:Int)+1),m.2.1,m.2.2.1,m.2.2.2.set (k*2+a) t) 0
 | lock (a:Nat) (z:Int) (ha:a<2):Ms3 k p m 5 a z (m.1.set k ((p:Int)+1),m.2.1,m.2.2.1.set a ((k:Int)+1),m.2.2.2) 0
 | unlock_yes (a:Nat) (z:Int) (ha:a<2) (hv:m.2.2.1.getD a 0=(k:Int)+1):Ms3 k p m 6 a z (m.1.set k ((p:Int)+1),m.2.1,m.2.2.1.set a 0,m.2.2.2) 0
 | unlock_no (a:Nat) (z:Int) (ha:a<2) (hv:m.2.2.1.getD a 0≠(k:Int)+1):Ms3 k p m 6 a z (m.1.set k ((p:Int)+1),m.2) 13
 | stay (a:Nat) (z:Int) (ha:a<2) (hvv:m.2.2.2.getD (k*2+a) 0=0):Ms3 k p m 7 a z (m.1.set k ((p:Int)+1),m.2) 0
 | jump (a:Nat) (z vv:Int) (ha:a<2) (hvv:m.2.2.2.getD (k*2+a) 0=vv) (hv0:vv≠0):Ms3 k p m 7 a z (m.1.set k z,m.2) 0
 | assert_yes (a:Nat) (z:Int) (ha:a<2) (hvv:m.2.2.2.getD (k*2+a) 0=z):Ms3 k p m 8 a z (m.1.set k ((p:Int)+1),m.2) 0
 | assert_no (a:Nat) (z vv:Int) (ha:a<2) (hvv:m.2.2.2.getD (k*2+a) 0=vv) (hv0:vv≠z):Ms3 k p m 8 a z (m.1.set k ((p:Int)+1),m.2) 12

theorem XF (g k p b off n c:Nat) (cs:Sl × Sl × Sl) (m:V4) (w:World) (hk:k<3) (hp:p<n) (hp6:p≤6) (hL:VZ m) (hM:Blk w g 98 (Zi cs.1.val cs.2.1.val cs.2.2.val m)) (hg:g≠b∨True)     (e0:w.cell? ⟨g,k*4,none⟩=some (.slice (some ⟨b,off,none⟩) n c)) (e1:w.cell? ⟨g,k*4+1,none⟩=some (.int .i64 p)) (z0 z1 z2:Int) (R:V4) (cd:Int) (q0:w.cell? ⟨b,off+p*3,none⟩=some (.int .i64 z0)) (q1:w.cell? ⟨b,off+p*3+1,none⟩=some (.int .i64 z1)) (q2:w.cell? ⟨b,off+p*3+2,none⟩=some (.int .i64 z2)) (hz:Ms3 k p m z0 z1 z2 R cd) :
  Calls Tryz.prog 158 #[.pointer (some ⟨g,0,none⟩),.int .i64 k] w fun e w'=>e=.returned (.int .i64 cd)∧Blk w' g 98 (Zi cs.1.val cs.2.1.val cs.2.2.val R)∧w.grownBy w' (some g):=by
 have hk3:(k:Int)<3:=by omega
 have hpn:(p:Int)<(n:Int):=by omega
 go_enter Tryz.func158,Tryz.ntmps158
 go_wp2_with fail
 refine wp_region_held_drew (S:=(fun w'=>w'.cell? ⟨g,k*4,none⟩=some (.slice (some ⟨b,off,none⟩) n c)∧w'.cell? ⟨g,k*4+1,none⟩=some (.int .i64 p)∧w'.cell? ⟨b,off+p*3,none⟩=some (.int .i64 z0)∧w'.cell? ⟨b,off+p*3+1,none⟩=some (.int .i64 z1)∧w'.cell? ⟨b,off+p*3+2,none⟩=some (.int .i64 z2))) (by kernel_rfl) ⟨e0,e1,q0,q1,q2⟩ (fun hS0=>?_)
 refine tkm 0 12 (.pointer (some ⟨g,k*4,none⟩)) ?_
 refine tkm 1 13 (.pointer (some ⟨g,k*4,none⟩)) ?_
 refine tkm 2 14 (.pointer (some ⟨g,k*4,none⟩)) ?_
 refine tkm 3 15 (.slice (some ⟨b,off,none⟩) n c) ?_
 refine tkm 4 16 (.pointer (some ⟨g,k*4,none⟩)) ?_
 refine tkm 5 17 (.pointer (some ⟨g,k*4,none⟩)) ?_
 refine tkm 6 18 (.pointer (some ⟨g,k*4+1,none⟩)) ?_
 refine tkm 7 19 (.int .i64 p) ?_
 refine tkm 8 20 (.pointer (some ⟨b,off+p*3,none⟩)) ?_
 refine tkm 9 21 (.agg #[.int .i64 z0,.int .i64 z1,.int .i64 z2]) ?_
 refine tkr 10 6 (fun K hK=>?_)
 have hal:Below w.drew.heap.size w.drew (w.drew.alloc (.cells #[.int .i64 0,.int .i64 0,.int .i64 0] 122)):=by go_grown
 go_simp
 refine hK.out _ _ ?_ (fun hS1=>?_)
 ·exact ⟨Za hal _ _ hS0.1,Za hal _ _ hS0.2.1,Za hal _ _ hS0.2.2.1,Za hal _ _ hS0.2.2.2.1,Za hal _ _ hS0.2.2.2.2⟩
 clear hK
 try simp only [Act.put,tka,tkb,tkc]
 refine tkz 11 (fun K hK=>?_)
 have hal2:Below w.drew.heap.size w.drew (w.drew.alloc (.cells #[.int .i64 z0,.int .i64 z1,.int .i64 z2] 122)):=by go_grown
 go_simp
 refine hK.out _ _ ?_ (fun hS2=>?_)
 ·exact ⟨Za hal2 _ _ hS0.1,Za hal2 _ _ hS0.2.1,Za hal2 _ _ hS0.2.2.1,Za hal2 _ _ hS0.2.2.2.1,Za hal2 _ _ hS0.2.2.2.2⟩
 clear hK
 try simp only [Act.put,tka,tkb,tkc]
 refine wpAnyH_done (by kernel_rfl) ?_ _
 clear hal hal2 hS0 hS1 hS2
 have bx:Below w.heap.size w (w.alloc (.cells #[.int .i64 z0,.int .i64 z1,.int .i64 z2] 122)).drew:=by go_grown
 have pX:Blk (w.alloc (.cells #[.int .i64 z0,.int .i64 z1,.int .i64 z2] 122)).drew w.heap.size 122 [.int .i64 z0,.int .i64 z1,.int .i64 z2]:=Blk.new w 122 [.int .i64 z0,.int .i64 z1,.int .i64 z2]
 have hgl:=hM.lt
 replace hM:=hM.below bx
 replace e1:=Za bx _ _ e1
 have gx:w.grownBy (w.alloc (.cells #[.int .i64 z0,.int .i64 z1,.int .i64 z2] 122)).drew (some g):=PZ bx
 clear bx e0 q0 q1 q2
 generalize hW2:(w.alloc (.cells #[.int .i64 z0,.int .i64 z1,.int .i64 z2] 122)).drew=W2 at *
 clear hW2
 have hne:w.heap.size≠g:=by omega
 generalize w.heap.size=gX at *
 have f1:=hM.frozen (k*4+1)
 have hM3:=hM.set (k*4+1) (.int .i64 ((p:Int)+1))
 rw [CG _ _ _ _ hL hk] at hM3
 have pX3:=pX.off ⟨g,k*4+1,none⟩ (.int .i64 ((p:Int)+1)) hne
 have g3:=Ws gx (Y3 W2 g (k*4+1) (.int .i64 ((p:Int)+1)))
 have u0:=pX3.cell 0
 have u1:=pX3.cell 1
 have u2:=pX3.cell 2
 simp only [List.getElem?_cons_zero,List.getElem?_cons_succ] at u0 u1 u2
 cases hz with
 | load a q vv ha hq hvv =>
  have r1:(W2.setCell ⟨g,k*4+1,none⟩ (.int .i64 ((p:Int)+1))).cell? ⟨g,12+q,none⟩=some (.int .i64 vv):=(hM3.cell _).trans ((FL _ _ _ _ hq).trans (congrArg (fun z=>some (Value.int .i64 z)) hvv))
  obtain ⟨old,r2⟩:∃ u,(W2.setCell ⟨g,k*4+1,none⟩ (.int .i64 ((p:Int)+1))).cell? ⟨g,k*4+2+a,none⟩=some u:=⟨_,(hM3.cell _).trans (Tf _ _ _ _ hk ha)⟩
  have f_s:=hM3.frozen (k*4+2+a)
  have hM4:=hM3.set (k*4+2+a) (.int .i64 vv)
  rw [Kz _ _ _ _ (hL.pc _ _) hk ha] at hM4
  simp only at hM4
  have g4:=Ws g3 (Y3 (W2.setCell ⟨g,k*4+1,none⟩ (.int .i64 ((p:Int)+1))) g (k*4+2+a) (.int .i64 vv))
  have ha2:(a:Int)<2:=by omega
  have hq4:(q:Int)<4:=by omega
  have hpw:IntKind.i64.wrap ((p:Int)+1)=(p:Int)+1:=IntWalk.i64_in _ (by omega)
  clear hM gx pX
  clear hvv hM3 g3 pX3
  go_wp2_with fail
  generalize (W2.setCell ⟨g,k*4+1,none⟩ (.int .i64 ((p:Int)+1)))=W3 at *
  go_region
  go_wp2
  go_ret
  exact ⟨rfl,hM4,VB g4⟩
 | store a q vv ha hq hvv =>
  have r1:(W2.setCell ⟨g,k*4+1,none⟩ (.int .i64 ((p:Int)+1))).cell? ⟨g,k*4+2+a,none⟩=some (.int .i64 vv):=(hM3.cell _).trans ((Tf _ _ _ _ hk ha).trans (congrArg (fun z=>some (Value.int .i64 z)) hvv))
  obtain ⟨old,r2⟩:∃ u,(W2.setCell ⟨g,k*4+1,none⟩ (.int .i64 ((p:Int)+1))).cell? ⟨g,12+q,none⟩=some u:=⟨_,(hM3.cell _).trans (FL _ _ _ _ hq)⟩
  have f_s:=hM3.frozen (12+q)
  have hM4:=hM3.set (12+q) (.int .i64 vv)
  rw [C1 _ _ _ _ (hL.pc _ _) hq] at hM4
  simp only at hM4
  have g4:=Ws g3 (Y3 (W2.setCell ⟨g,k*4+1,none⟩ (.int .i64 ((p:Int)+1))) g (12+q) (.int .i64 vv))
  have ha2:(a:Int)<2:=by omega
  have hq4:(q:Int)<4:=by omega
  have hpw:IntKind.i64.wrap ((p:Int)+1)=(p:Int)+1:=IntWalk.i64_in _ (by omega)
  clear hM gx pX
  clear hvv hM3 g3 pX3
  go_wp2_with fail
  generalize (W2.setCell ⟨g,k*4+1,none⟩ (.int .i64 ((p:Int)+1)))=W3 at *
  go_region
  go_wp2
  go_ret
  exact ⟨rfl,hM4,VB g4⟩
 | set a z ha =>
  obtain ⟨z,rfl⟩:∃ z,z=z2:=⟨_,rfl⟩
  obtain ⟨old,r2⟩:∃ u,(W2.setCell ⟨g,k*4+1,none⟩ (.int .i64 ((p:Int)+1))).cell? ⟨g,k*4+2+a,none⟩=some u:=⟨_,(hM3.cell _).trans (Tf _ _ _ _ hk ha)⟩
  have f_s:=hM3.frozen (k*4+2+a)
  have hM4:=hM3.set (k*4+2+a) (.int .i64 z)
  rw [Kz _ _ _ _ (hL.pc _ _) hk ha] at hM4
  simp only at hM4
  have g4:=Ws g3 (Y3 (W2.setCell ⟨g,k*4+1,none⟩ (.int .i64 ((p:Int)+1))) g (k*4+2+a) (.int .i64 z))
  have ha2:(a:Int)<2:=by omega
  have hpw:IntKind.i64.wrap ((p:Int)+1)=(p:Int)+1:=IntWalk.i64_in _ (by omega)
  clear hM gx pX
  clear hM3 g3 pX3
  go_wp2_with fail
  generalize (W2.setCell ⟨g,k*4+1,none⟩ (.int .i64 ((p:Int)+1)))=W3 at *
  go_region
  go_wp2
  go_ret
  exact ⟨rfl,hM4,VB g4⟩
 | add a z vv t ha hvv hz hv9 ht =>
  obtain ⟨z,rfl⟩:∃ z,z=z2:=⟨_,rfl⟩
  have r1:(W2.setCell ⟨g,k*4+1,none⟩ (.int .i64 ((p:Int)+1))).cell? ⟨g,k*4+2+a,none⟩=some (.int .i64 vv):=(hM3.cell _).trans ((Tf _ _ _ _ hk ha).trans (congrArg (fun z=>some (Value.int .i64 z)) hvv))
  have f_s:=hM3.frozen (k*4+2+a)
  have hM4:=hM3.set (k*4+2+a) (.int .i64 t)
  rw [Kz _ _ _ _ (hL.pc _ _) hk ha] at hM4
  simp only at hM4
  have g4:=Ws g3 (Y3 (W2.setCell ⟨g,k*4+1,none⟩ (.int .i64 ((p:Int)+1))) g (k*4+2+a) (.int .i64 t))
  have ha2:(a:Int)<2:=by omega
  have hw1:IntKind.i64.wrap (vv+z)=vv+z:=IntWalk.i64_in _ (by omega)
  have hw2:(vv+z).tmod 10=t:=by rw [← ht,Int.tmod_eq_emod_of_nonneg (by omega)]
  have hw3:IntKind.i64.wrap t=t:=IntWalk.i64_in _ (by omega)
  have hpw:IntKind.i64.wrap ((p:Int)+1)=(p:Int)+1:=IntWalk.i64_in _ (by omega)
  clear hM gx pX
  clear hvv hM3 g3 pX3
  go_wp2_with fail
  generalize (W2.setCell ⟨g,k*4+1,none⟩ (.int .i64 ((p:Int)+1)))=W3 at *
  go_region
  go_wp2
  go_ret
  exact ⟨rfl,hM4,VB g4⟩
 | lock a z ha =>
  obtain ⟨z,rfl⟩:∃ z,z=z2:=⟨_,rfl⟩
  obtain ⟨old,r2⟩:∃ u,(W2.setCell ⟨g,k*4+1,none⟩ (.int .i64 ((p:Int)+1))).cell? ⟨g,16+a,none⟩=some u:=⟨_,(hM3.cell _).trans (SE _ _ _ _ ha)⟩
  have f_s:=hM3.frozen (16+a)
  have hM4:=hM3.set (16+a) (.int .i64 ((k:Int)+1))
  rw [Ji _ _ _ _ (hL.pc _ _) ha] at hM4
  simp only at hM4
  have g4:=Ws g3 (Y3 (W2.setCell ⟨g,k*4+1,none⟩ (.int .i64 ((p:Int)+1))) g (16+a) (.int .i64 ((k:Int)+1)))
  have ha2:(a:Int)<2:=by omega
  have hkw:IntKind.i64.wrap ((k:Int)+1)=(k:Int)+1:=IntWalk.i64_in _ (by omega)
  have hpw:IntKind.i64.wrap ((p:Int)+1)=(p:Int)+1:=IntWalk.i64_in _ (by omega)
  clear hM gx pX
  clear hM3 g3 pX3
  go_wp2_with fail
  generalize (W2.setCell ⟨g,k*4+1,none⟩ (.int .i64 ((p:Int)+1)))=W3 at *
  go_region
  go_wp2
  go_ret
  exact ⟨rfl,hM4,VB g4⟩
 | unlock_yes a z ha hv =>
  obtain ⟨z,rfl⟩:∃ z,z=z2:=⟨_,rfl⟩
  have hpw:IntKind.i64.wrap ((p:Int)+1)=(p:Int)+1:=IntWalk.i64_in _ (by omega)
  clear hM gx pX
  have kU:=unlock_yes g k a cs (m.1.set k ((p:Int)+1),m.2) (W2.setCell ⟨g,k*4+1,none⟩ (.int .i64 ((p:Int)+1))) hk ha (hL.pc _ _) hM3 hv
  clear hv
  go_wp2_with fail
  generalize (W2.setCell ⟨g,k*4+1,none⟩ (.int .i64 ((p:Int)+1)))=W3 at *
  refine kU.mono ?_
  rintro e w4 ⟨rfl,hM4,g4⟩
  go_wp2
  go_ret
  exact ⟨rfl,hM4,Ws g3 g4⟩
 | unlock_no a z ha hv =>
  obtain ⟨z,rfl⟩:∃ z,z=z2:=⟨_,rfl⟩
  have hpw:IntKind.i64.wrap ((p:Int)+1)=(p:Int)+1:=IntWalk.i64_in _ (by omega)
  clear hM gx pX
  have kU:=unlock_no g k a cs (m.1.set k ((p:Int)+1),m.2) (W2.setCell ⟨g,k*4+1,none⟩ (.int .i64 ((p:Int)+1))) hk ha hM3 hv
  clear hv
  go_wp2_with fail
  generalize (W2.setCell ⟨g,k*4+1,none⟩ (.int .i64 ((p:Int)+1)))=W3 at *
  refine kU.mono ?_
  rintro e w4 ⟨rfl,rfl⟩
  go_wp2
  go_ret
  exact ⟨rfl,hM3,g3⟩
 | stay a z ha hvv =>
  obtain ⟨z,rfl⟩:∃ z,z=z2:=⟨_,rfl⟩
  have r1:(W2.setCell ⟨g,k*4+1,none⟩ (.int .i64 ((p:Int)+1))).cell? ⟨g,k*4+2+a,none⟩=some (.int .i64 0):=(hM3.cell _).trans ((Tf _ _ _ _ hk ha).trans (congrArg (fun z=>some (Value.int .i64 z)) hvv))
  have ha2:(a:Int)<2:=by omega
  have hpw:IntKind.i64.wrap ((p:Int)+1)=(p:Int)+1:=IntWalk.i64_in _ (by omega)
  clear hM gx pX
  clear hvv pX3
  go_wp2_with fail
  generalize (W2.setCell ⟨g,k*4+1,none⟩ (.int .i64 ((p:Int)+1)))=W3 at *
  go_quiet (fail)
  go_wp2
  go_ret
  exact ⟨rfl,hM3,VN g3 _⟩
 | jump a z vv ha hvv hv0 =>
  obtain ⟨z,rfl⟩:∃ z,z=z2:=⟨_,rfl⟩
  have r1:(W2.setCell ⟨g,k*4+1,none⟩ (.int .i64 ((p:Int)+1))).cell? ⟨g,k*4+2+a,none⟩=some (.int .i64 vv):=(hM3.cell _).trans ((Tf _ _ _ _ hk ha).trans (congrArg (fun z=>some (Value.int .i64 z)) hvv))
  have ha2:(a:Int)<2:=by omega
  have hn0:(vv != 0)=true:=by simp [hv0]
  have r2:(W2.setCell ⟨g,k*4+1,none⟩ (.int .i64 ((p:Int)+1))).cell? ⟨g,k*4+1,none⟩=some (.int .i64 ((p:Int)+1)):=(hM3.cell _).trans ((FK _ _ _ _ hk).trans (by simp [List.getD,hL.1,hk]))
  have f2:=hM3.frozen (k*4+1)
  have hM4:=hM3.set (k*4+1) (.int .i64 z)
  rw [CG _ _ _ _ (hL.pc _ _) hk] at hM4
  simp only [List.set_set] at hM4
  have g4:=Ws g3 (Y3 (W2.setCell ⟨g,k*4+1,none⟩ (.int .i64 ((p:Int)+1))) g (k*4+1) (.int .i64 z))
  have hpw:IntKind.i64.wrap ((p:Int)+1)=(p:Int)+1:=IntWalk.i64_in _ (by omega)
  clear hM gx pX
  clear hvv hM3 g3 pX3
  go_wp2_with fail
  generalize (W2.setCell ⟨g,k*4+1,none⟩ (.int .i64 ((p:Int)+1)))=W3 at *
  go_quiet (fail)
  go_wp2
  go_ret
  exact ⟨rfl,hM4,VN g4 _⟩
 | assert_yes a z ha hvv =>
  obtain ⟨z,rfl⟩:∃ z,z=z2:=⟨_,rfl⟩
  have r1:(W2.setCell ⟨g,k*4+1,none⟩ (.int .i64 ((p:Int)+1))).cell? ⟨g,k*4+2+a,none⟩=some (.int .i64 z):=(hM3.cell _).trans ((Tf _ _ _ _ hk ha).trans (congrArg (fun z=>some (Value.int .i64 z)) hvv))
  have ha2:(a:Int)<2:=by omega
  have hn0:(z != z)=false:=by simp
  have hpw:IntKind.i64.wrap ((p:Int)+1)=(p:Int)+1:=IntWalk.i64_in _ (by omega)
  clear hM gx pX
  clear hvv pX3
  go_wp2_with fail
  generalize (W2.setCell ⟨g,k*4+1,none⟩ (.int .i64 ((p:Int)+1)))=W3 at *
  go_quiet (fail)
  go_wp2
  go_ret
  exact ⟨rfl,hM3,VN g3 _⟩
 | assert_no a z vv ha hvv hv0 =>
  obtain ⟨z,rfl⟩:∃ z,z=z2:=⟨_,rfl⟩
  have r1:(W2.setCell ⟨g,k*4+1,none⟩ (.int .i64 ((p:Int)+1))).cell? ⟨g,k*4+2+a,none⟩=some (.int .i64 vv):=(hM3.cell _).trans ((Tf _ _ _ _ hk ha).trans (congrArg (fun z=>some (Value.int .i64 z)) hvv))
  have ha2:(a:Int)<2:=by omega
  have hn0:(vv != z)=true:=by simp [hv0]
  have hpw:IntKind.i64.wrap ((p:Int)+1)=(p:Int)+1:=IntWalk.i64_in _ (by omega)
  clear hM gx pX
  clear hvv pX3
  go_wp2_with fail
  generalize (W2.setCell ⟨g,k*4+1,none⟩ (.int .i64 ((p:Int)+1)))=W3 at *
  go_quiet (fail)
  go_wp2
  go_ret
  exact ⟨rfl,hM3,VN g3 _⟩
end Go.Proofs.YtgmhhegckcionaaGreatDoor
