/-
  Joined: RyP, RunPl.
-/
import Derived.Test.YtifoggpohlegmaaGreatDoorC11
import Derived.Test.YtifoggpohlegmaaGreatDoorC18
import Derived.Test.YtifoggpohlegmaaGreatDoorC26

namespace Go.Proofs.YtifoggpohlegmaaGreatDoor
set_option maxRecDepth 100000
set_option maxHeartbeats 16000000
namespace Rp
open Go.RowKit
set_option linter.unusedVariables false
set_option linter.unusedSimpArgs false
variable {fv : Value}

theorem unlock_yes (g k a:Nat) (cs:Sl × Sl × Sl) (m:V4) (w:World) (hk:k<3) (ha:a<2) (hL:LenOk m) (hM:Blk w g 91 (machR fv cs.1.val cs.2.1.val cs.2.2.val m)) (hv:m.2.2.1.getD a 0=(k:Int)+1) :
  Calls Tryz.prog 134 #[.pointer (some ⟨g,0,none⟩),.int .i64 k,.int .i64 a] w fun e w'=>e=.returned (.int .i64 0)∧Blk w' g 91 (machR fv cs.1.val cs.2.1.val cs.2.2.val (m.1,m.2.1,m.2.2.1.set a 0,m.2.2.2))∧w.grownBy w' (some g):=by
 have r1:w.cell? ⟨g,16+a,none⟩=some (.int .i64 ((k:Int)+1)):=(hM.cell _).trans ((mc_held _ _ _ _ ha).trans (by rw [← hv]))
 have f1:=hM.frozen (16+a)
 have hM4:=hM.set (16+a) (.int .i64 0)
 rw [mt_held _ _ _ _ hL ha] at hM4
 have g4:=grown_cell w g (16+a) (.int .i64 0)
 have ha2:(a:Int)<2:=by omega
 have hne:(((k:Int)+1) != ((k:Int)+1))=false:=by simp
 have hkw:IntKind.i64.wrap ((k:Int)+1)=(k:Int)+1:=IntWalk.i64_in _ (by omega)
 clear hv hM
 go_enter Tryz.func134,Tryz.ntmps134
 go_wp2
 go_ret
 exact ⟨rfl,hM4,g4⟩
theorem unlock_no (g k a:Nat) (cs:Sl × Sl × Sl) (m:V4) (w:World) (hk:k<3) (ha:a<2) (hM:Blk w g 91 (machR fv cs.1.val cs.2.1.val cs.2.2.val m)) (hv:m.2.2.1.getD a 0≠(k:Int)+1) :
  Calls Tryz.prog 134 #[.pointer (some ⟨g,0,none⟩),.int .i64 k,.int .i64 a] w fun e w'=>e=.returned (.int .i64 13)∧w=w':=by
 have r1:w.cell? ⟨g,16+a,none⟩=some (.int .i64 (m.2.2.1.getD a 0)):=(hM.cell _).trans (mc_held _ _ _ _ ha)
 have ha2:(a:Int)<2:=by omega
 generalize m.2.2.1.getD a 0=hh at *
 have hne:(hh != ((k:Int)+1))=true:=by simp [hv]
 have hkw:IntKind.i64.wrap ((k:Int)+1)=(k:Int)+1:=IntWalk.i64_in _ (by omega)
 clear hM
 go_enter Tryz.func134,Tryz.ntmps134
 go_wp2
 go_ret
 exact ⟨rfl,rfl⟩
theorem step_load (g k p b off n c:Nat) (a q:Nat) (vv:Int) (cs:Sl × Sl × Sl) (m:V4) (w:World) (hk:k<3) (hp:p<n) (hp6:p≤6) (hL:LenOk m) (hM:Blk w g 91 (machR fv cs.1.val cs.2.1.val cs.2.2.val m)) (hg:g≠b∨True)
  (e0:w.cell? ⟨g,k*4,none⟩=some (.slice (some ⟨b,off,none⟩) n c)) (e1:w.cell? ⟨g,k*4+1,none⟩=some (.int .i64 p)) (q0:w.cell? ⟨b,off+p*3,none⟩=some (.int .i64 1)) (q1:w.cell? ⟨b,off+p*3+1,none⟩=some (.int .i64 a)) (q2:w.cell? ⟨b,off+p*3+2,none⟩=some (.int .i64 q)) (ha:a<2) (hq:q<4) (hvv:m.2.1.getD q 0=vv) :
  Calls Tryz.prog 76 #[.pointer (some ⟨g,0,none⟩),.int .i64 k] w fun e w'=>e=.returned (.int .i64 0)∧Blk w' g 91 (machR fv cs.1.val cs.2.1.val cs.2.2.val (m.1.set k ((p:Int)+1),m.2.1,m.2.2.1,m.2.2.2.set (k*2+a) vv))∧w.grownBy w' (some g):=by
 have hk3:(k:Int)<3:=by omega
 have hpn:(p:Int)<(n:Int):=by omega
 go_enter Tryz.func76,Tryz.ntmps76
 go_wp2_with fail
 refine wp_region_held_drew (S:=(fun w'=>w'.cell? ⟨g,k*4,none⟩=some (.slice (some ⟨b,off,none⟩) n c)∧w'.cell? ⟨g,k*4+1,none⟩=some (.int .i64 p)∧w'.cell? ⟨b,off+p*3,none⟩=some (.int .i64 1)∧w'.cell? ⟨b,off+p*3+1,none⟩=some (.int .i64 a)∧w'.cell? ⟨b,off+p*3+2,none⟩=some (.int .i64 q))) (by kernel_rfl) ⟨e0,e1,q0,q1,q2⟩ (fun hS0=>?_)
 refine tkm 0 12 (.pointer (some ⟨g,k*4,none⟩)) ?_
 refine tkm 1 13 (.pointer (some ⟨g,k*4,none⟩)) ?_
 refine tkm 2 14 (.pointer (some ⟨g,k*4,none⟩)) ?_
 refine tkm 3 15 (.slice (some ⟨b,off,none⟩) n c) ?_
 refine tkm 4 16 (.pointer (some ⟨g,k*4,none⟩)) ?_
 refine tkm 5 17 (.pointer (some ⟨g,k*4,none⟩)) ?_
 refine tkm 6 18 (.pointer (some ⟨g,k*4+1,none⟩)) ?_
 refine tkm 7 19 (.int .i64 p) ?_
 refine tkm 8 20 (.pointer (some ⟨b,off+p*3,none⟩)) ?_
 refine tkm 9 21 (.agg #[.int .i64 1,.int .i64 a,.int .i64 q]) ?_
 refine tkr 10 6 (fun K hK=>?_)
 have hal:Below w.drew.heap.size w.drew (w.drew.alloc (.cells #[.int .i64 0,.int .i64 0,.int .i64 0] 159)):=by go_grown
 go_simp
 refine hK.out _ _ ?_ (fun hS1=>?_)
 ·exact ⟨cells_kept hal _ _ hS0.1,cells_kept hal _ _ hS0.2.1,cells_kept hal _ _ hS0.2.2.1,cells_kept hal _ _ hS0.2.2.2.1,cells_kept hal _ _ hS0.2.2.2.2⟩
 clear hK
 try simp only [Act.put,tka,tkb,tkc]
 refine tkz 11 (fun K hK=>?_)
 have hal2:Below w.drew.heap.size w.drew (w.drew.alloc (.cells #[.int .i64 1,.int .i64 a,.int .i64 q] 159)):=by go_grown
 go_simp
 refine hK.out _ _ ?_ (fun hS2=>?_)
 ·exact ⟨cells_kept hal2 _ _ hS0.1,cells_kept hal2 _ _ hS0.2.1,cells_kept hal2 _ _ hS0.2.2.1,cells_kept hal2 _ _ hS0.2.2.2.1,cells_kept hal2 _ _ hS0.2.2.2.2⟩
 clear hK
 try simp only [Act.put,tka,tkb,tkc]
 refine wpAnyH_done (by kernel_rfl) ?_ _
 clear hal hal2 hS0 hS1 hS2
 have bx:Below w.heap.size w (w.alloc (.cells #[.int .i64 1,.int .i64 a,.int .i64 q] 159)).drew:=by go_grown
 have pX:Blk (w.alloc (.cells #[.int .i64 1,.int .i64 a,.int .i64 q] 159)).drew w.heap.size 159 [.int .i64 1,.int .i64 a,.int .i64 q]:=Blk.new w 159 [.int .i64 1,.int .i64 a,.int .i64 q]
 have hgl:=hM.lt
 replace hM:=hM.below bx
 replace e1:=cells_kept bx _ _ e1
 have gx:w.grownBy (w.alloc (.cells #[.int .i64 1,.int .i64 a,.int .i64 q] 159)).drew (some g):=grown_new bx
 clear bx e0 q0 q1 q2
 generalize hW2:(w.alloc (.cells #[.int .i64 1,.int .i64 a,.int .i64 q] 159)).drew=W2 at *
 clear hW2
 have hne:w.heap.size≠g:=by omega
 generalize w.heap.size=gX at *
 have f1:=hM.frozen (k*4+1)
 have hM3:=hM.set (k*4+1) (.int .i64 ((p:Int)+1))
 rw [mt_pc _ _ _ _ hL hk] at hM3
 have pX3:=pX.off ⟨g,k*4+1,none⟩ (.int .i64 ((p:Int)+1)) hne
 have g3:=grown_tr gx (grown_cell W2 g (k*4+1) (.int .i64 ((p:Int)+1)))
 have u0:=pX3.cell 0
 have u1:=pX3.cell 1
 have u2:=pX3.cell 2
 simp only [List.getElem?_cons_zero,List.getElem?_cons_succ] at u0 u1 u2
 have r1:(W2.setCell ⟨g,k*4+1,none⟩ (.int .i64 ((p:Int)+1))).cell? ⟨g,12+q,none⟩=some (.int .i64 vv):=(hM3.cell _).trans ((mc_var _ _ _ _ hq).trans (congrArg (fun z=>some (Value.int .i64 z)) hvv))
 obtain ⟨old,r2⟩:∃ u,(W2.setCell ⟨g,k*4+1,none⟩ (.int .i64 ((p:Int)+1))).cell? ⟨g,k*4+2+a,none⟩=some u:=⟨_,(hM3.cell _).trans (mc_reg _ _ _ _ hk ha)⟩
 have f_s:=hM3.frozen (k*4+2+a)
 have hM4:=hM3.set (k*4+2+a) (.int .i64 vv)
 rw [mt_reg _ _ _ _ (hL.pc _ _) hk ha] at hM4
 simp only at hM4
 have g4:=grown_tr g3 (grown_cell (W2.setCell ⟨g,k*4+1,none⟩ (.int .i64 ((p:Int)+1))) g (k*4+2+a) (.int .i64 vv))
 have ha2:(a:Int)<2:=by omega
 have hq4:(q:Int)<4:=by omega

 have hpw:IntKind.i64.wrap ((p:Int)+1)=(p:Int)+1:=IntWalk.i64_in _ (by omega)
 clear hM gx pX
 clear hvv hM3 g3 pX3
 go_wp2_with fail
 generalize (W2.setCell ⟨g,k*4+1,none⟩ (.int .i64 ((p:Int)+1)))=W3 at *
 go_region
 go_wp2
 go_ret
 exact ⟨rfl,hM4,grown_drew g4⟩
theorem step_store (g k p b off n c:Nat) (a q:Nat) (vv:Int) (cs:Sl × Sl × Sl) (m:V4) (w:World) (hk:k<3) (hp:p<n) (hp6:p≤6) (hL:LenOk m) (hM:Blk w g 91 (machR fv cs.1.val cs.2.1.val cs.2.2.val m)) (hg:g≠b∨True)
  (e0:w.cell? ⟨g,k*4,none⟩=some (.slice (some ⟨b,off,none⟩) n c)) (e1:w.cell? ⟨g,k*4+1,none⟩=some (.int .i64 p)) (q0:w.cell? ⟨b,off+p*3,none⟩=some (.int .i64 2)) (q1:w.cell? ⟨b,off+p*3+1,none⟩=some (.int .i64 q)) (q2:w.cell? ⟨b,off+p*3+2,none⟩=some (.int .i64 a)) (ha:a<2) (hq:q<4) (hvv:m.2.2.2.getD (k*2+a) 0=vv) :
  Calls Tryz.prog 76 #[.pointer (some ⟨g,0,none⟩),.int .i64 k] w fun e w'=>e=.returned (.int .i64 0)∧Blk w' g 91 (machR fv cs.1.val cs.2.1.val cs.2.2.val (m.1.set k ((p:Int)+1),m.2.1.set q vv,m.2.2.1,m.2.2.2))∧w.grownBy w' (some g):=by
 have hk3:(k:Int)<3:=by omega
 have hpn:(p:Int)<(n:Int):=by omega
 go_enter Tryz.func76,Tryz.ntmps76
 go_wp2_with fail
 refine wp_region_held_drew (S:=(fun w'=>w'.cell? ⟨g,k*4,none⟩=some (.slice (some ⟨b,off,none⟩) n c)∧w'.cell? ⟨g,k*4+1,none⟩=some (.int .i64 p)∧w'.cell? ⟨b,off+p*3,none⟩=some (.int .i64 2)∧w'.cell? ⟨b,off+p*3+1,none⟩=some (.int .i64 q)∧w'.cell? ⟨b,off+p*3+2,none⟩=some (.int .i64 a))) (by kernel_rfl) ⟨e0,e1,q0,q1,q2⟩ (fun hS0=>?_)
 refine tkm 0 12 (.pointer (some ⟨g,k*4,none⟩)) ?_
 refine tkm 1 13 (.pointer (some ⟨g,k*4,none⟩)) ?_
 refine tkm 2 14 (.pointer (some ⟨g,k*4,none⟩)) ?_
 refine tkm 3 15 (.slice (some ⟨b,off,none⟩) n c) ?_
 refine tkm 4 16 (.pointer (some ⟨g,k*4,none⟩)) ?_
 refine tkm 5 17 (.pointer (some ⟨g,k*4,none⟩)) ?_
 refine tkm 6 18 (.pointer (some ⟨g,k*4+1,none⟩)) ?_
 refine tkm 7 19 (.int .i64 p) ?_
 refine tkm 8 20 (.pointer (some ⟨b,off+p*3,none⟩)) ?_
 refine tkm 9 21 (.agg #[.int .i64 2,.int .i64 q,.int .i64 a]) ?_
 refine tkr 10 6 (fun K hK=>?_)
 have hal:Below w.drew.heap.size w.drew (w.drew.alloc (.cells #[.int .i64 0,.int .i64 0,.int .i64 0] 159)):=by go_grown
 go_simp
 refine hK.out _ _ ?_ (fun hS1=>?_)
 ·exact ⟨cells_kept hal _ _ hS0.1,cells_kept hal _ _ hS0.2.1,cells_kept hal _ _ hS0.2.2.1,cells_kept hal _ _ hS0.2.2.2.1,cells_kept hal _ _ hS0.2.2.2.2⟩
 clear hK
 try simp only [Act.put,tka,tkb,tkc]
 refine tkz 11 (fun K hK=>?_)
 have hal2:Below w.drew.heap.size w.drew (w.drew.alloc (.cells #[.int .i64 2,.int .i64 q,.int .i64 a] 159)):=by go_grown
 go_simp
 refine hK.out _ _ ?_ (fun hS2=>?_)
 ·exact ⟨cells_kept hal2 _ _ hS0.1,cells_kept hal2 _ _ hS0.2.1,cells_kept hal2 _ _ hS0.2.2.1,cells_kept hal2 _ _ hS0.2.2.2.1,cells_kept hal2 _ _ hS0.2.2.2.2⟩
 clear hK
 try simp only [Act.put,tka,tkb,tkc]
 refine wpAnyH_done (by kernel_rfl) ?_ _
 clear hal hal2 hS0 hS1 hS2
 have bx:Below w.heap.size w (w.alloc (.cells #[.int .i64 2,.int .i64 q,.int .i64 a] 159)).drew:=by go_grown
 have pX:Blk (w.alloc (.cells #[.int .i64 2,.int .i64 q,.int .i64 a] 159)).drew w.heap.size 159 [.int .i64 2,.int .i64 q,.int .i64 a]:=Blk.new w 159 [.int .i64 2,.int .i64 q,.int .i64 a]
 have hgl:=hM.lt
 replace hM:=hM.below bx
 replace e1:=cells_kept bx _ _ e1
 have gx:w.grownBy (w.alloc (.cells #[.int .i64 2,.int .i64 q,.int .i64 a] 159)).drew (some g):=grown_new bx
 clear bx e0 q0 q1 q2
 generalize hW2:(w.alloc (.cells #[.int .i64 2,.int .i64 q,.int .i64 a] 159)).drew=W2 at *
 clear hW2
 have hne:w.heap.size≠g:=by omega
 generalize w.heap.size=gX at *
 have f1:=hM.frozen (k*4+1)
 have hM3:=hM.set (k*4+1) (.int .i64 ((p:Int)+1))
 rw [mt_pc _ _ _ _ hL hk] at hM3
 have pX3:=pX.off ⟨g,k*4+1,none⟩ (.int .i64 ((p:Int)+1)) hne
 have g3:=grown_tr gx (grown_cell W2 g (k*4+1) (.int .i64 ((p:Int)+1)))
 have u0:=pX3.cell 0
 have u1:=pX3.cell 1
 have u2:=pX3.cell 2
 simp only [List.getElem?_cons_zero,List.getElem?_cons_succ] at u0 u1 u2
 have r1:(W2.setCell ⟨g,k*4+1,none⟩ (.int .i64 ((p:Int)+1))).cell? ⟨g,k*4+2+a,none⟩=some (.int .i64 vv):=(hM3.cell _).trans ((mc_reg _ _ _ _ hk ha).trans (congrArg (fun z=>some (Value.int .i64 z)) hvv))
 obtain ⟨old,r2⟩:∃ u,(W2.setCell ⟨g,k*4+1,none⟩ (.int .i64 ((p:Int)+1))).cell? ⟨g,12+q,none⟩=some u:=⟨_,(hM3.cell _).trans (mc_var _ _ _ _ hq)⟩
 have f_s:=hM3.frozen (12+q)
 have hM4:=hM3.set (12+q) (.int .i64 vv)
 rw [mt_var _ _ _ _ (hL.pc _ _) hq] at hM4
 simp only at hM4
 have g4:=grown_tr g3 (grown_cell (W2.setCell ⟨g,k*4+1,none⟩ (.int .i64 ((p:Int)+1))) g (12+q) (.int .i64 vv))
 have ha2:(a:Int)<2:=by omega
 have hq4:(q:Int)<4:=by omega

 have hpw:IntKind.i64.wrap ((p:Int)+1)=(p:Int)+1:=IntWalk.i64_in _ (by omega)
 clear hM gx pX
 clear hvv hM3 g3 pX3
 go_wp2_with fail
 generalize (W2.setCell ⟨g,k*4+1,none⟩ (.int .i64 ((p:Int)+1)))=W3 at *
 go_region
 go_wp2
 go_ret
 exact ⟨rfl,hM4,grown_drew g4⟩
theorem step_set (g k p b off n c:Nat) (a:Nat) (z:Int) (cs:Sl × Sl × Sl) (m:V4) (w:World) (hk:k<3) (hp:p<n) (hp6:p≤6) (hL:LenOk m) (hM:Blk w g 91 (machR fv cs.1.val cs.2.1.val cs.2.2.val m)) (hg:g≠b∨True)
  (e0:w.cell? ⟨g,k*4,none⟩=some (.slice (some ⟨b,off,none⟩) n c)) (e1:w.cell? ⟨g,k*4+1,none⟩=some (.int .i64 p)) (q0:w.cell? ⟨b,off+p*3,none⟩=some (.int .i64 3)) (q1:w.cell? ⟨b,off+p*3+1,none⟩=some (.int .i64 a)) (q2:w.cell? ⟨b,off+p*3+2,none⟩=some (.int .i64 z)) (ha:a<2) :
  Calls Tryz.prog 76 #[.pointer (some ⟨g,0,none⟩),.int .i64 k] w fun e w'=>e=.returned (.int .i64 0)∧Blk w' g 91 (machR fv cs.1.val cs.2.1.val cs.2.2.val (m.1.set k ((p:Int)+1),m.2.1,m.2.2.1,m.2.2.2.set (k*2+a) z))∧w.grownBy w' (some g):=by
 have hk3:(k:Int)<3:=by omega
 have hpn:(p:Int)<(n:Int):=by omega
 go_enter Tryz.func76,Tryz.ntmps76
 go_wp2_with fail
 refine wp_region_held_drew (S:=(fun w'=>w'.cell? ⟨g,k*4,none⟩=some (.slice (some ⟨b,off,none⟩) n c)∧w'.cell? ⟨g,k*4+1,none⟩=some (.int .i64 p)∧w'.cell? ⟨b,off+p*3,none⟩=some (.int .i64 3)∧w'.cell? ⟨b,off+p*3+1,none⟩=some (.int .i64 a)∧w'.cell? ⟨b,off+p*3+2,none⟩=some (.int .i64 z))) (by kernel_rfl) ⟨e0,e1,q0,q1,q2⟩ (fun hS0=>?_)
 refine tkm 0 12 (.pointer (some ⟨g,k*4,none⟩)) ?_
 refine tkm 1 13 (.pointer (some ⟨g,k*4,none⟩)) ?_
 refine tkm 2 14 (.pointer (some ⟨g,k*4,none⟩)) ?_
 refine tkm 3 15 (.slice (some ⟨b,off,none⟩) n c) ?_
 refine tkm 4 16 (.pointer (some ⟨g,k*4,none⟩)) ?_
 refine tkm 5 17 (.pointer (some ⟨g,k*4,none⟩)) ?_
 refine tkm 6 18 (.pointer (some ⟨g,k*4+1,none⟩)) ?_
 refine tkm 7 19 (.int .i64 p) ?_
 refine tkm 8 20 (.pointer (some ⟨b,off+p*3,none⟩)) ?_
 refine tkm 9 21 (.agg #[.int .i64 3,.int .i64 a,.int .i64 z]) ?_
 refine tkr 10 6 (fun K hK=>?_)
 have hal:Below w.drew.heap.size w.drew (w.drew.alloc (.cells #[.int .i64 0,.int .i64 0,.int .i64 0] 159)):=by go_grown
 go_simp
 refine hK.out _ _ ?_ (fun hS1=>?_)
 ·exact ⟨cells_kept hal _ _ hS0.1,cells_kept hal _ _ hS0.2.1,cells_kept hal _ _ hS0.2.2.1,cells_kept hal _ _ hS0.2.2.2.1,cells_kept hal _ _ hS0.2.2.2.2⟩
 clear hK
 try simp only [Act.put,tka,tkb,tkc]
 refine tkz 11 (fun K hK=>?_)
 have hal2:Below w.drew.heap.size w.drew (w.drew.alloc (.cells #[.int .i64 3,.int .i64 a,.int .i64 z] 159)):=by go_grown
 go_simp
 refine hK.out _ _ ?_ (fun hS2=>?_)
 ·exact ⟨cells_kept hal2 _ _ hS0.1,cells_kept hal2 _ _ hS0.2.1,cells_kept hal2 _ _ hS0.2.2.1,cells_kept hal2 _ _ hS0.2.2.2.1,cells_kept hal2 _ _ hS0.2.2.2.2⟩
 clear hK
 try simp only [Act.put,tka,tkb,tkc]
 refine wpAnyH_done (by kernel_rfl) ?_ _
 clear hal hal2 hS0 hS1 hS2
 have bx:Below w.heap.size w (w.alloc (.cells #[.int .i64 3,.int .i64 a,.int .i64 z] 159)).drew:=by go_grown
 have pX:Blk (w.alloc (.cells #[.int .i64 3,.int .i64 a,.int .i64 z] 159)).drew w.heap.size 159 [.int .i64 3,.int .i64 a,.int .i64 z]:=Blk.new w 159 [.int .i64 3,.int .i64 a,.int .i64 z]
 have hgl:=hM.lt
 replace hM:=hM.below bx
 replace e1:=cells_kept bx _ _ e1
 have gx:w.grownBy (w.alloc (.cells #[.int .i64 3,.int .i64 a,.int .i64 z] 159)).drew (some g):=grown_new bx
 clear bx e0 q0 q1 q2
 generalize hW2:(w.alloc (.cells #[.int .i64 3,.int .i64 a,.int .i64 z] 159)).drew=W2 at *
 clear hW2
 have hne:w.heap.size≠g:=by omega
 generalize w.heap.size=gX at *
 have f1:=hM.frozen (k*4+1)
 have hM3:=hM.set (k*4+1) (.int .i64 ((p:Int)+1))
 rw [mt_pc _ _ _ _ hL hk] at hM3
 have pX3:=pX.off ⟨g,k*4+1,none⟩ (.int .i64 ((p:Int)+1)) hne
 have g3:=grown_tr gx (grown_cell W2 g (k*4+1) (.int .i64 ((p:Int)+1)))
 have u0:=pX3.cell 0
 have u1:=pX3.cell 1
 have u2:=pX3.cell 2
 simp only [List.getElem?_cons_zero,List.getElem?_cons_succ] at u0 u1 u2
 obtain ⟨old,r2⟩:∃ u,(W2.setCell ⟨g,k*4+1,none⟩ (.int .i64 ((p:Int)+1))).cell? ⟨g,k*4+2+a,none⟩=some u:=⟨_,(hM3.cell _).trans (mc_reg _ _ _ _ hk ha)⟩
 have f_s:=hM3.frozen (k*4+2+a)
 have hM4:=hM3.set (k*4+2+a) (.int .i64 z)
 rw [mt_reg _ _ _ _ (hL.pc _ _) hk ha] at hM4
 simp only at hM4
 have g4:=grown_tr g3 (grown_cell (W2.setCell ⟨g,k*4+1,none⟩ (.int .i64 ((p:Int)+1))) g (k*4+2+a) (.int .i64 z))
 have ha2:(a:Int)<2:=by omega

 have hpw:IntKind.i64.wrap ((p:Int)+1)=(p:Int)+1:=IntWalk.i64_in _ (by omega)
 clear hM gx pX
 clear hM3 g3 pX3
 go_wp2_with fail
 generalize (W2.setCell ⟨g,k*4+1,none⟩ (.int .i64 ((p:Int)+1)))=W3 at *
 go_region
 go_wp2
 go_ret
 exact ⟨rfl,hM4,grown_drew g4⟩
theorem step_add (g k p b off n c:Nat) (a:Nat) (z vv t:Int) (cs:Sl × Sl × Sl) (m:V4) (w:World) (hk:k<3) (hp:p<n) (hp6:p≤6) (hL:LenOk m) (hM:Blk w g 91 (machR fv cs.1.val cs.2.1.val cs.2.2.val m)) (hg:g≠b∨True)
  (e0:w.cell? ⟨g,k*4,none⟩=some (.slice (some ⟨b,off,none⟩) n c)) (e1:w.cell? ⟨g,k*4+1,none⟩=some (.int .i64 p)) (q0:w.cell? ⟨b,off+p*3,none⟩=some (.int .i64 4)) (q1:w.cell? ⟨b,off+p*3+1,none⟩=some (.int .i64 a)) (q2:w.cell? ⟨b,off+p*3+2,none⟩=some (.int .i64 z)) (ha:a<2) (hvv:m.2.2.2.getD (k*2+a) 0=vv) (hz:0≤z∧z≤9) (hv9:0≤vv∧vv≤9) (ht:(vv+z) % 10=t) :
  Calls Tryz.prog 76 #[.pointer (some ⟨g,0,none⟩),.int .i64 k] w fun e w'=>e=.returned (.int .i64 0)∧Blk w' g 91 (machR fv cs.1.val cs.2.1.val cs.2.2.val (m.1.set k ((p:Int)+1),m.2.1,m.2.2.1,m.2.2.2.set (k*2+a) t))∧w.grownBy w' (some g):=by
 have hk3:(k:Int)<3:=by omega
 have hpn:(p:Int)<(n:Int):=by omega
 go_enter Tryz.func76,Tryz.ntmps76
 go_wp2_with fail
 refine wp_region_held_drew (S:=(fun w'=>w'.cell? ⟨g,k*4,none⟩=some (.slice (some ⟨b,off,none⟩) n c)∧w'.cell? ⟨g,k*4+1,none⟩=some (.int .i64 p)∧w'.cell? ⟨b,off+p*3,none⟩=some (.int .i64 4)∧w'.cell? ⟨b,off+p*3+1,none⟩=some (.int .i64 a)∧w'.cell? ⟨b,off+p*3+2,none⟩=some (.int .i64 z))) (by kernel_rfl) ⟨e0,e1,q0,q1,q2⟩ (fun hS0=>?_)
 refine tkm 0 12 (.pointer (some ⟨g,k*4,none⟩)) ?_
 refine tkm 1 13 (.pointer (some ⟨g,k*4,none⟩)) ?_
 refine tkm 2 14 (.pointer (some ⟨g,k*4,none⟩)) ?_
 refine tkm 3 15 (.slice (some ⟨b,off,none⟩) n c) ?_
 refine tkm 4 16 (.pointer (some ⟨g,k*4,none⟩)) ?_
 refine tkm 5 17 (.pointer (some ⟨g,k*4,none⟩)) ?_
 refine tkm 6 18 (.pointer (some ⟨g,k*4+1,none⟩)) ?_
 refine tkm 7 19 (.int .i64 p) ?_
 refine tkm 8 20 (.pointer (some ⟨b,off+p*3,none⟩)) ?_
 refine tkm 9 21 (.agg #[.int .i64 4,.int .i64 a,.int .i64 z]) ?_
 refine tkr 10 6 (fun K hK=>?_)
 have hal:Below w.drew.heap.size w.drew (w.drew.alloc (.cells #[.int .i64 0,.int .i64 0,.int .i64 0] 159)):=by go_grown
 go_simp
 refine hK.out _ _ ?_ (fun hS1=>?_)
 ·exact ⟨cells_kept hal _ _ hS0.1,cells_kept hal _ _ hS0.2.1,cells_kept hal _ _ hS0.2.2.1,cells_kept hal _ _ hS0.2.2.2.1,cells_kept hal _ _ hS0.2.2.2.2⟩
 clear hK
 try simp only [Act.put,tka,tkb,tkc]
 refine tkz 11 (fun K hK=>?_)
 have hal2:Below w.drew.heap.size w.drew (w.drew.alloc (.cells #[.int .i64 4,.int .i64 a,.int .i64 z] 159)):=by go_grown
 go_simp
 refine hK.out _ _ ?_ (fun hS2=>?_)
 ·exact ⟨cells_kept hal2 _ _ hS0.1,cells_kept hal2 _ _ hS0.2.1,cells_kept hal2 _ _ hS0.2.2.1,cells_kept hal2 _ _ hS0.2.2.2.1,cells_kept hal2 _ _ hS0.2.2.2.2⟩
 clear hK
 try simp only [Act.put,tka,tkb,tkc]
 refine wpAnyH_done (by kernel_rfl) ?_ _
 clear hal hal2 hS0 hS1 hS2
 have bx:Below w.heap.size w (w.alloc (.cells #[.int .i64 4,.int .i64 a,.int .i64 z] 159)).drew:=by go_grown
 have pX:Blk (w.alloc (.cells #[.int .i64 4,.int .i64 a,.int .i64 z] 159)).drew w.heap.size 159 [.int .i64 4,.int .i64 a,.int .i64 z]:=Blk.new w 159 [.int .i64 4,.int .i64 a,.int .i64 z]
 have hgl:=hM.lt
 replace hM:=hM.below bx
 replace e1:=cells_kept bx _ _ e1
 have gx:w.grownBy (w.alloc (.cells #[.int .i64 4,.int .i64 a,.int .i64 z] 159)).drew (some g):=grown_new bx
 clear bx e0 q0 q1 q2
 generalize hW2:(w.alloc (.cells #[.int .i64 4,.int .i64 a,.int .i64 z] 159)).drew=W2 at *
 clear hW2
 have hne:w.heap.size≠g:=by omega
 generalize w.heap.size=gX at *
 have f1:=hM.frozen (k*4+1)
 have hM3:=hM.set (k*4+1) (.int .i64 ((p:Int)+1))
 rw [mt_pc _ _ _ _ hL hk] at hM3
 have pX3:=pX.off ⟨g,k*4+1,none⟩ (.int .i64 ((p:Int)+1)) hne
 have g3:=grown_tr gx (grown_cell W2 g (k*4+1) (.int .i64 ((p:Int)+1)))
 have u0:=pX3.cell 0
 have u1:=pX3.cell 1
 have u2:=pX3.cell 2
 simp only [List.getElem?_cons_zero,List.getElem?_cons_succ] at u0 u1 u2
 have r1:(W2.setCell ⟨g,k*4+1,none⟩ (.int .i64 ((p:Int)+1))).cell? ⟨g,k*4+2+a,none⟩=some (.int .i64 vv):=(hM3.cell _).trans ((mc_reg _ _ _ _ hk ha).trans (congrArg (fun z=>some (Value.int .i64 z)) hvv))
 have f_s:=hM3.frozen (k*4+2+a)
 have hM4:=hM3.set (k*4+2+a) (.int .i64 t)
 rw [mt_reg _ _ _ _ (hL.pc _ _) hk ha] at hM4
 simp only at hM4
 have g4:=grown_tr g3 (grown_cell (W2.setCell ⟨g,k*4+1,none⟩ (.int .i64 ((p:Int)+1))) g (k*4+2+a) (.int .i64 t))
 have ha2:(a:Int)<2:=by omega
 have hw1:IntKind.i64.wrap (vv+z)=vv+z:=IntWalk.i64_in _ (by omega)
 have hw2:(vv+z).tmod 10=t:=by rw [← ht,Int.tmod_eq_emod_of_nonneg (by omega)]
 have hw3:IntKind.i64.wrap t=t:=IntWalk.i64_in _ (by omega)

 have hpw:IntKind.i64.wrap ((p:Int)+1)=(p:Int)+1:=IntWalk.i64_in _ (by omega)
 clear hM gx pX
 clear hvv hM3 g3 pX3
 go_wp2_with fail
 generalize (W2.setCell ⟨g,k*4+1,none⟩ (.int .i64 ((p:Int)+1)))=W3 at *
 go_region
 go_wp2
 go_ret
 exact ⟨rfl,hM4,grown_drew g4⟩
theorem step_lock (g k p b off n c:Nat) (a:Nat) (z:Int) (cs:Sl × Sl × Sl) (m:V4) (w:World) (hk:k<3) (hp:p<n) (hp6:p≤6) (hL:LenOk m) (hM:Blk w g 91 (machR fv cs.1.val cs.2.1.val cs.2.2.val m)) (hg:g≠b∨True)
  (e0:w.cell? ⟨g,k*4,none⟩=some (.slice (some ⟨b,off,none⟩) n c)) (e1:w.cell? ⟨g,k*4+1,none⟩=some (.int .i64 p)) (q0:w.cell? ⟨b,off+p*3,none⟩=some (.int .i64 5)) (q1:w.cell? ⟨b,off+p*3+1,none⟩=some (.int .i64 a)) (q2:w.cell? ⟨b,off+p*3+2,none⟩=some (.int .i64 z)) (ha:a<2) :
  Calls Tryz.prog 76 #[.pointer (some ⟨g,0,none⟩),.int .i64 k] w fun e w'=>e=.returned (.int .i64 0)∧Blk w' g 91 (machR fv cs.1.val cs.2.1.val cs.2.2.val (m.1.set k ((p:Int)+1),m.2.1,m.2.2.1.set a ((k:Int)+1),m.2.2.2))∧w.grownBy w' (some g):=by
 have hk3:(k:Int)<3:=by omega
 have hpn:(p:Int)<(n:Int):=by omega
 go_enter Tryz.func76,Tryz.ntmps76
 go_wp2_with fail
 refine wp_region_held_drew (S:=(fun w'=>w'.cell? ⟨g,k*4,none⟩=some (.slice (some ⟨b,off,none⟩) n c)∧w'.cell? ⟨g,k*4+1,none⟩=some (.int .i64 p)∧w'.cell? ⟨b,off+p*3,none⟩=some (.int .i64 5)∧w'.cell? ⟨b,off+p*3+1,none⟩=some (.int .i64 a)∧w'.cell? ⟨b,off+p*3+2,none⟩=some (.int .i64 z))) (by kernel_rfl) ⟨e0,e1,q0,q1,q2⟩ (fun hS0=>?_)
 refine tkm 0 12 (.pointer (some ⟨g,k*4,none⟩)) ?_
 refine tkm 1 13 (.pointer (some ⟨g,k*4,none⟩)) ?_
 refine tkm 2 14 (.pointer (some ⟨g,k*4,none⟩)) ?_
 refine tkm 3 15 (.slice (some ⟨b,off,none⟩) n c) ?_
 refine tkm 4 16 (.pointer (some ⟨g,k*4,none⟩)) ?_
 refine tkm 5 17 (.pointer (some ⟨g,k*4,none⟩)) ?_
 refine tkm 6 18 (.pointer (some ⟨g,k*4+1,none⟩)) ?_
 refine tkm 7 19 (.int .i64 p) ?_
 refine tkm 8 20 (.pointer (some ⟨b,off+p*3,none⟩)) ?_
 refine tkm 9 21 (.agg #[.int .i64 5,.int .i64 a,.int .i64 z]) ?_
 refine tkr 10 6 (fun K hK=>?_)
 have hal:Below w.drew.heap.size w.drew (w.drew.alloc (.cells #[.int .i64 0,.int .i64 0,.int .i64 0] 159)):=by go_grown
 go_simp
 refine hK.out _ _ ?_ (fun hS1=>?_)
 ·exact ⟨cells_kept hal _ _ hS0.1,cells_kept hal _ _ hS0.2.1,cells_kept hal _ _ hS0.2.2.1,cells_kept hal _ _ hS0.2.2.2.1,cells_kept hal _ _ hS0.2.2.2.2⟩
 clear hK
 try simp only [Act.put,tka,tkb,tkc]
 refine tkz 11 (fun K hK=>?_)
 have hal2:Below w.drew.heap.size w.drew (w.drew.alloc (.cells #[.int .i64 5,.int .i64 a,.int .i64 z] 159)):=by go_grown
 go_simp
 refine hK.out _ _ ?_ (fun hS2=>?_)
 ·exact ⟨cells_kept hal2 _ _ hS0.1,cells_kept hal2 _ _ hS0.2.1,cells_kept hal2 _ _ hS0.2.2.1,cells_kept hal2 _ _ hS0.2.2.2.1,cells_kept hal2 _ _ hS0.2.2.2.2⟩
 clear hK
 try simp only [Act.put,tka,tkb,tkc]
 refine wpAnyH_done (by kernel_rfl) ?_ _
 clear hal hal2 hS0 hS1 hS2
 have bx:Below w.heap.size w (w.alloc (.cells #[.int .i64 5,.int .i64 a,.int .i64 z] 159)).drew:=by go_grown
 have pX:Blk (w.alloc (.cells #[.int .i64 5,.int .i64 a,.int .i64 z] 159)).drew w.heap.size 159 [.int .i64 5,.int .i64 a,.int .i64 z]:=Blk.new w 159 [.int .i64 5,.int .i64 a,.int .i64 z]
 have hgl:=hM.lt
 replace hM:=hM.below bx
 replace e1:=cells_kept bx _ _ e1
 have gx:w.grownBy (w.alloc (.cells #[.int .i64 5,.int .i64 a,.int .i64 z] 159)).drew (some g):=grown_new bx
 clear bx e0 q0 q1 q2
 generalize hW2:(w.alloc (.cells #[.int .i64 5,.int .i64 a,.int .i64 z] 159)).drew=W2 at *
 clear hW2
 have hne:w.heap.size≠g:=by omega
 generalize w.heap.size=gX at *
 have f1:=hM.frozen (k*4+1)
 have hM3:=hM.set (k*4+1) (.int .i64 ((p:Int)+1))
 rw [mt_pc _ _ _ _ hL hk] at hM3
 have pX3:=pX.off ⟨g,k*4+1,none⟩ (.int .i64 ((p:Int)+1)) hne
 have g3:=grown_tr gx (grown_cell W2 g (k*4+1) (.int .i64 ((p:Int)+1)))
 have u0:=pX3.cell 0
 have u1:=pX3.cell 1
 have u2:=pX3.cell 2
 simp only [List.getElem?_cons_zero,List.getElem?_cons_succ] at u0 u1 u2
 obtain ⟨old,r2⟩:∃ u,(W2.setCell ⟨g,k*4+1,none⟩ (.int .i64 ((p:Int)+1))).cell? ⟨g,16+a,none⟩=some u:=⟨_,(hM3.cell _).trans (mc_held _ _ _ _ ha)⟩
 have f_s:=hM3.frozen (16+a)
 have hM4:=hM3.set (16+a) (.int .i64 ((k:Int)+1))
 rw [mt_held _ _ _ _ (hL.pc _ _) ha] at hM4
 simp only at hM4
 have g4:=grown_tr g3 (grown_cell (W2.setCell ⟨g,k*4+1,none⟩ (.int .i64 ((p:Int)+1))) g (16+a) (.int .i64 ((k:Int)+1)))
 have ha2:(a:Int)<2:=by omega
 have hkw:IntKind.i64.wrap ((k:Int)+1)=(k:Int)+1:=IntWalk.i64_in _ (by omega)

 have hpw:IntKind.i64.wrap ((p:Int)+1)=(p:Int)+1:=IntWalk.i64_in _ (by omega)
 clear hM gx pX
 clear hM3 g3 pX3
 go_wp2_with fail
 generalize (W2.setCell ⟨g,k*4+1,none⟩ (.int .i64 ((p:Int)+1)))=W3 at *
 go_region
 go_wp2
 go_ret
 exact ⟨rfl,hM4,grown_drew g4⟩
theorem step_unlock_yes (g k p b off n c:Nat) (a:Nat) (z:Int) (cs:Sl × Sl × Sl) (m:V4) (w:World) (hk:k<3) (hp:p<n) (hp6:p≤6) (hL:LenOk m) (hM:Blk w g 91 (machR fv cs.1.val cs.2.1.val cs.2.2.val m)) (hg:g≠b∨True)
  (e0:w.cell? ⟨g,k*4,none⟩=some (.slice (some ⟨b,off,none⟩) n c)) (e1:w.cell? ⟨g,k*4+1,none⟩=some (.int .i64 p)) (q0:w.cell? ⟨b,off+p*3,none⟩=some (.int .i64 6)) (q1:w.cell? ⟨b,off+p*3+1,none⟩=some (.int .i64 a)) (q2:w.cell? ⟨b,off+p*3+2,none⟩=some (.int .i64 z)) (ha:a<2) (hv:m.2.2.1.getD a 0=(k:Int)+1) :
  Calls Tryz.prog 76 #[.pointer (some ⟨g,0,none⟩),.int .i64 k] w fun e w'=>e=.returned (.int .i64 0)∧Blk w' g 91 (machR fv cs.1.val cs.2.1.val cs.2.2.val (m.1.set k ((p:Int)+1),m.2.1,m.2.2.1.set a 0,m.2.2.2))∧w.grownBy w' (some g):=by
 have hk3:(k:Int)<3:=by omega
 have hpn:(p:Int)<(n:Int):=by omega
 go_enter Tryz.func76,Tryz.ntmps76
 go_wp2_with fail
 refine wp_region_held_drew (S:=(fun w'=>w'.cell? ⟨g,k*4,none⟩=some (.slice (some ⟨b,off,none⟩) n c)∧w'.cell? ⟨g,k*4+1,none⟩=some (.int .i64 p)∧w'.cell? ⟨b,off+p*3,none⟩=some (.int .i64 6)∧w'.cell? ⟨b,off+p*3+1,none⟩=some (.int .i64 a)∧w'.cell? ⟨b,off+p*3+2,none⟩=some (.int .i64 z))) (by kernel_rfl) ⟨e0,e1,q0,q1,q2⟩ (fun hS0=>?_)
 refine tkm 0 12 (.pointer (some ⟨g,k*4,none⟩)) ?_
 refine tkm 1 13 (.pointer (some ⟨g,k*4,none⟩)) ?_
 refine tkm 2 14 (.pointer (some ⟨g,k*4,none⟩)) ?_
 refine tkm 3 15 (.slice (some ⟨b,off,none⟩) n c) ?_
 refine tkm 4 16 (.pointer (some ⟨g,k*4,none⟩)) ?_
 refine tkm 5 17 (.pointer (some ⟨g,k*4,none⟩)) ?_
 refine tkm 6 18 (.pointer (some ⟨g,k*4+1,none⟩)) ?_
 refine tkm 7 19 (.int .i64 p) ?_
 refine tkm 8 20 (.pointer (some ⟨b,off+p*3,none⟩)) ?_
 refine tkm 9 21 (.agg #[.int .i64 6,.int .i64 a,.int .i64 z]) ?_
 refine tkr 10 6 (fun K hK=>?_)
 have hal:Below w.drew.heap.size w.drew (w.drew.alloc (.cells #[.int .i64 0,.int .i64 0,.int .i64 0] 159)):=by go_grown
 go_simp
 refine hK.out _ _ ?_ (fun hS1=>?_)
 ·exact ⟨cells_kept hal _ _ hS0.1,cells_kept hal _ _ hS0.2.1,cells_kept hal _ _ hS0.2.2.1,cells_kept hal _ _ hS0.2.2.2.1,cells_kept hal _ _ hS0.2.2.2.2⟩
 clear hK
 try simp only [Act.put,tka,tkb,tkc]
 refine tkz 11 (fun K hK=>?_)
 have hal2:Below w.drew.heap.size w.drew (w.drew.alloc (.cells #[.int .i64 6,.int .i64 a,.int .i64 z] 159)):=by go_grown
 go_simp
 refine hK.out _ _ ?_ (fun hS2=>?_)
 ·exact ⟨cells_kept hal2 _ _ hS0.1,cells_kept hal2 _ _ hS0.2.1,cells_kept hal2 _ _ hS0.2.2.1,cells_kept hal2 _ _ hS0.2.2.2.1,cells_kept hal2 _ _ hS0.2.2.2.2⟩
 clear hK
 try simp only [Act.put,tka,tkb,tkc]
 refine wpAnyH_done (by kernel_rfl) ?_ _
 clear hal hal2 hS0 hS1 hS2
 have bx:Below w.heap.size w (w.alloc (.cells #[.int .i64 6,.int .i64 a,.int .i64 z] 159)).drew:=by go_grown
 have pX:Blk (w.alloc (.cells #[.int .i64 6,.int .i64 a,.int .i64 z] 159)).drew w.heap.size 159 [.int .i64 6,.int .i64 a,.int .i64 z]:=Blk.new w 159 [.int .i64 6,.int .i64 a,.int .i64 z]
 have hgl:=hM.lt
 replace hM:=hM.below bx
 replace e1:=cells_kept bx _ _ e1
 have gx:w.grownBy (w.alloc (.cells #[.int .i64 6,.int .i64 a,.int .i64 z] 159)).drew (some g):=grown_new bx
 clear bx e0 q0 q1 q2
 generalize hW2:(w.alloc (.cells #[.int .i64 6,.int .i64 a,.int .i64 z] 159)).drew=W2 at *
 clear hW2
 have hne:w.heap.size≠g:=by omega
 generalize w.heap.size=gX at *
 have f1:=hM.frozen (k*4+1)
 have hM3:=hM.set (k*4+1) (.int .i64 ((p:Int)+1))
 rw [mt_pc _ _ _ _ hL hk] at hM3
 have pX3:=pX.off ⟨g,k*4+1,none⟩ (.int .i64 ((p:Int)+1)) hne
 have g3:=grown_tr gx (grown_cell W2 g (k*4+1) (.int .i64 ((p:Int)+1)))
 have u0:=pX3.cell 0
 have u1:=pX3.cell 1
 have u2:=pX3.cell 2
 simp only [List.getElem?_cons_zero,List.getElem?_cons_succ] at u0 u1 u2

 have hpw:IntKind.i64.wrap ((p:Int)+1)=(p:Int)+1:=IntWalk.i64_in _ (by omega)
 clear hM gx pX
 have kU:=unlock_yes g k a cs (m.1.set k ((p:Int)+1),m.2) (W2.setCell ⟨g,k*4+1,none⟩ (.int .i64 ((p:Int)+1))) hk ha (hL.pc _ _) hM3 hv
 clear hv
 go_wp2_with fail
 generalize (W2.setCell ⟨g,k*4+1,none⟩ (.int .i64 ((p:Int)+1)))=W3 at *
 refine kU.mono ?_
 rintro e w4 ⟨rfl,hM4,g4⟩
 go_wp2
 go_ret
 exact ⟨rfl,hM4,grown_tr g3 g4⟩
theorem step_unlock_no (g k p b off n c:Nat) (a:Nat) (z:Int) (cs:Sl × Sl × Sl) (m:V4) (w:World) (hk:k<3) (hp:p<n) (hp6:p≤6) (hL:LenOk m) (hM:Blk w g 91 (machR fv cs.1.val cs.2.1.val cs.2.2.val m)) (hg:g≠b∨True)
  (e0:w.cell? ⟨g,k*4,none⟩=some (.slice (some ⟨b,off,none⟩) n c)) (e1:w.cell? ⟨g,k*4+1,none⟩=some (.int .i64 p)) (q0:w.cell? ⟨b,off+p*3,none⟩=some (.int .i64 6)) (q1:w.cell? ⟨b,off+p*3+1,none⟩=some (.int .i64 a)) (q2:w.cell? ⟨b,off+p*3+2,none⟩=some (.int .i64 z)) (ha:a<2) (hv:m.2.2.1.getD a 0≠(k:Int)+1) :
  Calls Tryz.prog 76 #[.pointer (some ⟨g,0,none⟩),.int .i64 k] w fun e w'=>e=.returned (.int .i64 13)∧Blk w' g 91 (machR fv cs.1.val cs.2.1.val cs.2.2.val (m.1.set k ((p:Int)+1),m.2))∧w.grownBy w' (some g):=by
 have hk3:(k:Int)<3:=by omega
 have hpn:(p:Int)<(n:Int):=by omega
 go_enter Tryz.func76,Tryz.ntmps76
 go_wp2_with fail
 refine wp_region_held_drew (S:=(fun w'=>w'.cell? ⟨g,k*4,none⟩=some (.slice (some ⟨b,off,none⟩) n c)∧w'.cell? ⟨g,k*4+1,none⟩=some (.int .i64 p)∧w'.cell? ⟨b,off+p*3,none⟩=some (.int .i64 6)∧w'.cell? ⟨b,off+p*3+1,none⟩=some (.int .i64 a)∧w'.cell? ⟨b,off+p*3+2,none⟩=some (.int .i64 z))) (by kernel_rfl) ⟨e0,e1,q0,q1,q2⟩ (fun hS0=>?_)
 refine tkm 0 12 (.pointer (some ⟨g,k*4,none⟩)) ?_
 refine tkm 1 13 (.pointer (some ⟨g,k*4,none⟩)) ?_
 refine tkm 2 14 (.pointer (some ⟨g,k*4,none⟩)) ?_
 refine tkm 3 15 (.slice (some ⟨b,off,none⟩) n c) ?_
 refine tkm 4 16 (.pointer (some ⟨g,k*4,none⟩)) ?_
 refine tkm 5 17 (.pointer (some ⟨g,k*4,none⟩)) ?_
 refine tkm 6 18 (.pointer (some ⟨g,k*4+1,none⟩)) ?_
 refine tkm 7 19 (.int .i64 p) ?_
 refine tkm 8 20 (.pointer (some ⟨b,off+p*3,none⟩)) ?_
 refine tkm 9 21 (.agg #[.int .i64 6,.int .i64 a,.int .i64 z]) ?_
 refine tkr 10 6 (fun K hK=>?_)
 have hal:Below w.drew.heap.size w.drew (w.drew.alloc (.cells #[.int .i64 0,.int .i64 0,.int .i64 0] 159)):=by go_grown
 go_simp
 refine hK.out _ _ ?_ (fun hS1=>?_)
 ·exact ⟨cells_kept hal _ _ hS0.1,cells_kept hal _ _ hS0.2.1,cells_kept hal _ _ hS0.2.2.1,cells_kept hal _ _ hS0.2.2.2.1,cells_kept hal _ _ hS0.2.2.2.2⟩
 clear hK
 try simp only [Act.put,tka,tkb,tkc]
 refine tkz 11 (fun K hK=>?_)
 have hal2:Below w.drew.heap.size w.drew (w.drew.alloc (.cells #[.int .i64 6,.int .i64 a,.int .i64 z] 159)):=by go_grown
 go_simp
 refine hK.out _ _ ?_ (fun hS2=>?_)
 ·exact ⟨cells_kept hal2 _ _ hS0.1,cells_kept hal2 _ _ hS0.2.1,cells_kept hal2 _ _ hS0.2.2.1,cells_kept hal2 _ _ hS0.2.2.2.1,cells_kept hal2 _ _ hS0.2.2.2.2⟩
 clear hK
 try simp only [Act.put,tka,tkb,tkc]
 refine wpAnyH_done (by kernel_rfl) ?_ _
 clear hal hal2 hS0 hS1 hS2
 have bx:Below w.heap.size w (w.alloc (.cells #[.int .i64 6,.int .i64 a,.int .i64 z] 159)).drew:=by go_grown
 have pX:Blk (w.alloc (.cells #[.int .i64 6,.int .i64 a,.int .i64 z] 159)).drew w.heap.size 159 [.int .i64 6,.int .i64 a,.int .i64 z]:=Blk.new w 159 [.int .i64 6,.int .i64 a,.int .i64 z]
 have hgl:=hM.lt
 replace hM:=hM.below bx
 replace e1:=cells_kept bx _ _ e1
 have gx:w.grownBy (w.alloc (.cells #[.int .i64 6,.int .i64 a,.int .i64 z] 159)).drew (some g):=grown_new bx
 clear bx e0 q0 q1 q2
 generalize hW2:(w.alloc (.cells #[.int .i64 6,.int .i64 a,.int .i64 z] 159)).drew=W2 at *
 clear hW2
 have hne:w.heap.size≠g:=by omega
 generalize w.heap.size=gX at *
 have f1:=hM.frozen (k*4+1)
 have hM3:=hM.set (k*4+1) (.int .i64 ((p:Int)+1))
 rw [mt_pc _ _ _ _ hL hk] at hM3
 have pX3:=pX.off ⟨g,k*4+1,none⟩ (.int .i64 ((p:Int)+1)) hne
 have g3:=grown_tr gx (grown_cell W2 g (k*4+1) (.int .i64 ((p:Int)+1)))
 have u0:=pX3.cell 0
 have u1:=pX3.cell 1
 have u2:=pX3.cell 2
 simp only [List.getElem?_cons_zero,List.getElem?_cons_succ] at u0 u1 u2

 have hpw:IntKind.i64.wrap ((p:Int)+1)=(p:Int)+1:=IntWalk.i64_in _ (by omega)
 clear hM gx pX
 have kU:=unlock_no g k a cs (m.1.set k ((p:Int)+1),m.2) (W2.setCell ⟨g,k*4+1,none⟩ (.int .i64 ((p:Int)+1))) hk ha hM3 hv
 clear hv
 go_wp2_with fail
 generalize (W2.setCell ⟨g,k*4+1,none⟩ (.int .i64 ((p:Int)+1)))=W3 at *
 refine kU.mono ?_
 rintro e w4 ⟨rfl,rfl⟩
 go_wp2
 go_ret
 exact ⟨rfl,hM3,g3⟩
theorem step_stay (g k p b off n c:Nat) (a:Nat) (z:Int) (cs:Sl × Sl × Sl) (m:V4) (w:World) (hk:k<3) (hp:p<n) (hp6:p≤6) (hL:LenOk m) (hM:Blk w g 91 (machR fv cs.1.val cs.2.1.val cs.2.2.val m)) (hg:g≠b∨True)
  (e0:w.cell? ⟨g,k*4,none⟩=some (.slice (some ⟨b,off,none⟩) n c)) (e1:w.cell? ⟨g,k*4+1,none⟩=some (.int .i64 p)) (q0:w.cell? ⟨b,off+p*3,none⟩=some (.int .i64 7)) (q1:w.cell? ⟨b,off+p*3+1,none⟩=some (.int .i64 a)) (q2:w.cell? ⟨b,off+p*3+2,none⟩=some (.int .i64 z)) (ha:a<2) (hvv:m.2.2.2.getD (k*2+a) 0=0) :
  Calls Tryz.prog 76 #[.pointer (some ⟨g,0,none⟩),.int .i64 k] w fun e w'=>e=.returned (.int .i64 0)∧Blk w' g 91 (machR fv cs.1.val cs.2.1.val cs.2.2.val (m.1.set k ((p:Int)+1),m.2))∧w.grownBy w' (some g):=by
 have hk3:(k:Int)<3:=by omega
 have hpn:(p:Int)<(n:Int):=by omega
 go_enter Tryz.func76,Tryz.ntmps76
 go_wp2_with fail
 refine wp_region_held_drew (S:=(fun w'=>w'.cell? ⟨g,k*4,none⟩=some (.slice (some ⟨b,off,none⟩) n c)∧w'.cell? ⟨g,k*4+1,none⟩=some (.int .i64 p)∧w'.cell? ⟨b,off+p*3,none⟩=some (.int .i64 7)∧w'.cell? ⟨b,off+p*3+1,none⟩=some (.int .i64 a)∧w'.cell? ⟨b,off+p*3+2,none⟩=some (.int .i64 z))) (by kernel_rfl) ⟨e0,e1,q0,q1,q2⟩ (fun hS0=>?_)
 refine tkm 0 12 (.pointer (some ⟨g,k*4,none⟩)) ?_
 refine tkm 1 13 (.pointer (some ⟨g,k*4,none⟩)) ?_
 refine tkm 2 14 (.pointer (some ⟨g,k*4,none⟩)) ?_
 refine tkm 3 15 (.slice (some ⟨b,off,none⟩) n c) ?_
 refine tkm 4 16 (.pointer (some ⟨g,k*4,none⟩)) ?_
 refine tkm 5 17 (.pointer (some ⟨g,k*4,none⟩)) ?_
 refine tkm 6 18 (.pointer (some ⟨g,k*4+1,none⟩)) ?_
 refine tkm 7 19 (.int .i64 p) ?_
 refine tkm 8 20 (.pointer (some ⟨b,off+p*3,none⟩)) ?_
 refine tkm 9 21 (.agg #[.int .i64 7,.int .i64 a,.int .i64 z]) ?_
 refine tkr 10 6 (fun K hK=>?_)
 have hal:Below w.drew.heap.size w.drew (w.drew.alloc (.cells #[.int .i64 0,.int .i64 0,.int .i64 0] 159)):=by go_grown
 go_simp
 refine hK.out _ _ ?_ (fun hS1=>?_)
 ·exact ⟨cells_kept hal _ _ hS0.1,cells_kept hal _ _ hS0.2.1,cells_kept hal _ _ hS0.2.2.1,cells_kept hal _ _ hS0.2.2.2.1,cells_kept hal _ _ hS0.2.2.2.2⟩
 clear hK
 try simp only [Act.put,tka,tkb,tkc]
 refine tkz 11 (fun K hK=>?_)
 have hal2:Below w.drew.heap.size w.drew (w.drew.alloc (.cells #[.int .i64 7,.int .i64 a,.int .i64 z] 159)):=by go_grown
 go_simp
 refine hK.out _ _ ?_ (fun hS2=>?_)
 ·exact ⟨cells_kept hal2 _ _ hS0.1,cells_kept hal2 _ _ hS0.2.1,cells_kept hal2 _ _ hS0.2.2.1,cells_kept hal2 _ _ hS0.2.2.2.1,cells_kept hal2 _ _ hS0.2.2.2.2⟩
 clear hK
 try simp only [Act.put,tka,tkb,tkc]
 refine wpAnyH_done (by kernel_rfl) ?_ _
 clear hal hal2 hS0 hS1 hS2
 have bx:Below w.heap.size w (w.alloc (.cells #[.int .i64 7,.int .i64 a,.int .i64 z] 159)).drew:=by go_grown
 have pX:Blk (w.alloc (.cells #[.int .i64 7,.int .i64 a,.int .i64 z] 159)).drew w.heap.size 159 [.int .i64 7,.int .i64 a,.int .i64 z]:=Blk.new w 159 [.int .i64 7,.int .i64 a,.int .i64 z]
 have hgl:=hM.lt
 replace hM:=hM.below bx
 replace e1:=cells_kept bx _ _ e1
 have gx:w.grownBy (w.alloc (.cells #[.int .i64 7,.int .i64 a,.int .i64 z] 159)).drew (some g):=grown_new bx
 clear bx e0 q0 q1 q2
 generalize hW2:(w.alloc (.cells #[.int .i64 7,.int .i64 a,.int .i64 z] 159)).drew=W2 at *
 clear hW2
 have hne:w.heap.size≠g:=by omega
 generalize w.heap.size=gX at *
 have f1:=hM.frozen (k*4+1)
 have hM3:=hM.set (k*4+1) (.int .i64 ((p:Int)+1))
 rw [mt_pc _ _ _ _ hL hk] at hM3
 have pX3:=pX.off ⟨g,k*4+1,none⟩ (.int .i64 ((p:Int)+1)) hne
 have g3:=grown_tr gx (grown_cell W2 g (k*4+1) (.int .i64 ((p:Int)+1)))
 have u0:=pX3.cell 0
 have u1:=pX3.cell 1
 have u2:=pX3.cell 2
 simp only [List.getElem?_cons_zero,List.getElem?_cons_succ] at u0 u1 u2
 have r1:(W2.setCell ⟨g,k*4+1,none⟩ (.int .i64 ((p:Int)+1))).cell? ⟨g,k*4+2+a,none⟩=some (.int .i64 0):=(hM3.cell _).trans ((mc_reg _ _ _ _ hk ha).trans (congrArg (fun z=>some (Value.int .i64 z)) hvv))
 have ha2:(a:Int)<2:=by omega

 have hpw:IntKind.i64.wrap ((p:Int)+1)=(p:Int)+1:=IntWalk.i64_in _ (by omega)
 clear hM gx pX
 clear hvv pX3
 go_wp2_with fail
 generalize (W2.setCell ⟨g,k*4+1,none⟩ (.int .i64 ((p:Int)+1)))=W3 at *
 go_quiet (fail)
 go_wp2
 go_ret
 exact ⟨rfl,hM3,grown_drewN g3 _⟩
theorem step_jump (g k p b off n c:Nat) (a:Nat) (z vv:Int) (cs:Sl × Sl × Sl) (m:V4) (w:World) (hk:k<3) (hp:p<n) (hp6:p≤6) (hL:LenOk m) (hM:Blk w g 91 (machR fv cs.1.val cs.2.1.val cs.2.2.val m)) (hg:g≠b∨True)
  (e0:w.cell? ⟨g,k*4,none⟩=some (.slice (some ⟨b,off,none⟩) n c)) (e1:w.cell? ⟨g,k*4+1,none⟩=some (.int .i64 p)) (q0:w.cell? ⟨b,off+p*3,none⟩=some (.int .i64 7)) (q1:w.cell? ⟨b,off+p*3+1,none⟩=some (.int .i64 a)) (q2:w.cell? ⟨b,off+p*3+2,none⟩=some (.int .i64 z)) (ha:a<2) (hvv:m.2.2.2.getD (k*2+a) 0=vv) (hv0:vv≠0) :
  Calls Tryz.prog 76 #[.pointer (some ⟨g,0,none⟩),.int .i64 k] w fun e w'=>e=.returned (.int .i64 0)∧Blk w' g 91 (machR fv cs.1.val cs.2.1.val cs.2.2.val (m.1.set k z,m.2))∧w.grownBy w' (some g):=by
 have hk3:(k:Int)<3:=by omega
 have hpn:(p:Int)<(n:Int):=by omega
 go_enter Tryz.func76,Tryz.ntmps76
 go_wp2_with fail
 refine wp_region_held_drew (S:=(fun w'=>w'.cell? ⟨g,k*4,none⟩=some (.slice (some ⟨b,off,none⟩) n c)∧w'.cell? ⟨g,k*4+1,none⟩=some (.int .i64 p)∧w'.cell? ⟨b,off+p*3,none⟩=some (.int .i64 7)∧w'.cell? ⟨b,off+p*3+1,none⟩=some (.int .i64 a)∧w'.cell? ⟨b,off+p*3+2,none⟩=some (.int .i64 z))) (by kernel_rfl) ⟨e0,e1,q0,q1,q2⟩ (fun hS0=>?_)
 refine tkm 0 12 (.pointer (some ⟨g,k*4,none⟩)) ?_
 refine tkm 1 13 (.pointer (some ⟨g,k*4,none⟩)) ?_
 refine tkm 2 14 (.pointer (some ⟨g,k*4,none⟩)) ?_
 refine tkm 3 15 (.slice (some ⟨b,off,none⟩) n c) ?_
 refine tkm 4 16 (.pointer (some ⟨g,k*4,none⟩)) ?_
 refine tkm 5 17 (.pointer (some ⟨g,k*4,none⟩)) ?_
 refine tkm 6 18 (.pointer (some ⟨g,k*4+1,none⟩)) ?_
 refine tkm 7 19 (.int .i64 p) ?_
 refine tkm 8 20 (.pointer (some ⟨b,off+p*3,none⟩)) ?_
 refine tkm 9 21 (.agg #[.int .i64 7,.int .i64 a,.int .i64 z]) ?_
 refine tkr 10 6 (fun K hK=>?_)
 have hal:Below w.drew.heap.size w.drew (w.drew.alloc (.cells #[.int .i64 0,.int .i64 0,.int .i64 0] 159)):=by go_grown
 go_simp
 refine hK.out _ _ ?_ (fun hS1=>?_)
 ·exact ⟨cells_kept hal _ _ hS0.1,cells_kept hal _ _ hS0.2.1,cells_kept hal _ _ hS0.2.2.1,cells_kept hal _ _ hS0.2.2.2.1,cells_kept hal _ _ hS0.2.2.2.2⟩
 clear hK
 try simp only [Act.put,tka,tkb,tkc]
 refine tkz 11 (fun K hK=>?_)
 have hal2:Below w.drew.heap.size w.drew (w.drew.alloc (.cells #[.int .i64 7,.int .i64 a,.int .i64 z] 159)):=by go_grown
 go_simp
 refine hK.out _ _ ?_ (fun hS2=>?_)
 ·exact ⟨cells_kept hal2 _ _ hS0.1,cells_kept hal2 _ _ hS0.2.1,cells_kept hal2 _ _ hS0.2.2.1,cells_kept hal2 _ _ hS0.2.2.2.1,cells_kept hal2 _ _ hS0.2.2.2.2⟩
 clear hK
 try simp only [Act.put,tka,tkb,tkc]
 refine wpAnyH_done (by kernel_rfl) ?_ _
 clear hal hal2 hS0 hS1 hS2
 have bx:Below w.heap.size w (w.alloc (.cells #[.int .i64 7,.int .i64 a,.int .i64 z] 159)).drew:=by go_grown
 have pX:Blk (w.alloc (.cells #[.int .i64 7,.int .i64 a,.int .i64 z] 159)).drew w.heap.size 159 [.int .i64 7,.int .i64 a,.int .i64 z]:=Blk.new w 159 [.int .i64 7,.int .i64 a,.int .i64 z]
 have hgl:=hM.lt
 replace hM:=hM.below bx
 replace e1:=cells_kept bx _ _ e1
 have gx:w.grownBy (w.alloc (.cells #[.int .i64 7,.int .i64 a,.int .i64 z] 159)).drew (some g):=grown_new bx
 clear bx e0 q0 q1 q2
 generalize hW2:(w.alloc (.cells #[.int .i64 7,.int .i64 a,.int .i64 z] 159)).drew=W2 at *
 clear hW2
 have hne:w.heap.size≠g:=by omega
 generalize w.heap.size=gX at *
 have f1:=hM.frozen (k*4+1)
 have hM3:=hM.set (k*4+1) (.int .i64 ((p:Int)+1))
 rw [mt_pc _ _ _ _ hL hk] at hM3
 have pX3:=pX.off ⟨g,k*4+1,none⟩ (.int .i64 ((p:Int)+1)) hne
 have g3:=grown_tr gx (grown_cell W2 g (k*4+1) (.int .i64 ((p:Int)+1)))
 have u0:=pX3.cell 0
 have u1:=pX3.cell 1
 have u2:=pX3.cell 2
 simp only [List.getElem?_cons_zero,List.getElem?_cons_succ] at u0 u1 u2
 have r1:(W2.setCell ⟨g,k*4+1,none⟩ (.int .i64 ((p:Int)+1))).cell? ⟨g,k*4+2+a,none⟩=some (.int .i64 vv):=(hM3.cell _).trans ((mc_reg _ _ _ _ hk ha).trans (congrArg (fun z=>some (Value.int .i64 z)) hvv))
 have ha2:(a:Int)<2:=by omega
 have hn0:(vv != 0)=true:=by simp [hv0]
 have r2:(W2.setCell ⟨g,k*4+1,none⟩ (.int .i64 ((p:Int)+1))).cell? ⟨g,k*4+1,none⟩=some (.int .i64 ((p:Int)+1)):=(hM3.cell _).trans ((mc_pc _ _ _ _ hk).trans (by simp [List.getD,hL.1,hk]))
 have f2:=hM3.frozen (k*4+1)
 have hM4:=hM3.set (k*4+1) (.int .i64 z)
 rw [mt_pc _ _ _ _ (hL.pc _ _) hk] at hM4
 simp only [List.set_set] at hM4
 have g4:=grown_tr g3 (grown_cell (W2.setCell ⟨g,k*4+1,none⟩ (.int .i64 ((p:Int)+1))) g (k*4+1) (.int .i64 z))

 have hpw:IntKind.i64.wrap ((p:Int)+1)=(p:Int)+1:=IntWalk.i64_in _ (by omega)
 clear hM gx pX
 clear hvv hM3 g3 pX3
 go_wp2_with fail
 generalize (W2.setCell ⟨g,k*4+1,none⟩ (.int .i64 ((p:Int)+1)))=W3 at *
 go_quiet (fail)
 go_wp2
 go_ret
 exact ⟨rfl,hM4,grown_drewN g4 _⟩
theorem step_assert_yes (g k p b off n c:Nat) (a:Nat) (z:Int) (cs:Sl × Sl × Sl) (m:V4) (w:World) (hk:k<3) (hp:p<n) (hp6:p≤6) (hL:LenOk m) (hM:Blk w g 91 (machR fv cs.1.val cs.2.1.val cs.2.2.val m)) (hg:g≠b∨True)
  (e0:w.cell? ⟨g,k*4,none⟩=some (.slice (some ⟨b,off,none⟩) n c)) (e1:w.cell? ⟨g,k*4+1,none⟩=some (.int .i64 p)) (q0:w.cell? ⟨b,off+p*3,none⟩=some (.int .i64 8)) (q1:w.cell? ⟨b,off+p*3+1,none⟩=some (.int .i64 a)) (q2:w.cell? ⟨b,off+p*3+2,none⟩=some (.int .i64 z)) (ha:a<2) (hvv:m.2.2.2.getD (k*2+a) 0=z) :
  Calls Tryz.prog 76 #[.pointer (some ⟨g,0,none⟩),.int .i64 k] w fun e w'=>e=.returned (.int .i64 0)∧Blk w' g 91 (machR fv cs.1.val cs.2.1.val cs.2.2.val (m.1.set k ((p:Int)+1),m.2))∧w.grownBy w' (some g):=by
 have hk3:(k:Int)<3:=by omega
 have hpn:(p:Int)<(n:Int):=by omega
 go_enter Tryz.func76,Tryz.ntmps76
 go_wp2_with fail
 refine wp_region_held_drew (S:=(fun w'=>w'.cell? ⟨g,k*4,none⟩=some (.slice (some ⟨b,off,none⟩) n c)∧w'.cell? ⟨g,k*4+1,none⟩=some (.int .i64 p)∧w'.cell? ⟨b,off+p*3,none⟩=some (.int .i64 8)∧w'.cell? ⟨b,off+p*3+1,none⟩=some (.int .i64 a)∧w'.cell? ⟨b,off+p*3+2,none⟩=some (.int .i64 z))) (by kernel_rfl) ⟨e0,e1,q0,q1,q2⟩ (fun hS0=>?_)
 refine tkm 0 12 (.pointer (some ⟨g,k*4,none⟩)) ?_
 refine tkm 1 13 (.pointer (some ⟨g,k*4,none⟩)) ?_
 refine tkm 2 14 (.pointer (some ⟨g,k*4,none⟩)) ?_
 refine tkm 3 15 (.slice (some ⟨b,off,none⟩) n c) ?_
 refine tkm 4 16 (.pointer (some ⟨g,k*4,none⟩)) ?_
 refine tkm 5 17 (.pointer (some ⟨g,k*4,none⟩)) ?_
 refine tkm 6 18 (.pointer (some ⟨g,k*4+1,none⟩)) ?_
 refine tkm 7 19 (.int .i64 p) ?_
 refine tkm 8 20 (.pointer (some ⟨b,off+p*3,none⟩)) ?_
 refine tkm 9 21 (.agg #[.int .i64 8,.int .i64 a,.int .i64 z]) ?_
 refine tkr 10 6 (fun K hK=>?_)
 have hal:Below w.drew.heap.size w.drew (w.drew.alloc (.cells #[.int .i64 0,.int .i64 0,.int .i64 0] 159)):=by go_grown
 go_simp
 refine hK.out _ _ ?_ (fun hS1=>?_)
 ·exact ⟨cells_kept hal _ _ hS0.1,cells_kept hal _ _ hS0.2.1,cells_kept hal _ _ hS0.2.2.1,cells_kept hal _ _ hS0.2.2.2.1,cells_kept hal _ _ hS0.2.2.2.2⟩
 clear hK
 try simp only [Act.put,tka,tkb,tkc]
 refine tkz 11 (fun K hK=>?_)
 have hal2:Below w.drew.heap.size w.drew (w.drew.alloc (.cells #[.int .i64 8,.int .i64 a,.int .i64 z] 159)):=by go_grown
 go_simp
 refine hK.out _ _ ?_ (fun hS2=>?_)
 ·exact ⟨cells_kept hal2 _ _ hS0.1,cells_kept hal2 _ _ hS0.2.1,cells_kept hal2 _ _ hS0.2.2.1,cells_kept hal2 _ _ hS0.2.2.2.1,cells_kept hal2 _ _ hS0.2.2.2.2⟩
 clear hK
 try simp only [Act.put,tka,tkb,tkc]
 refine wpAnyH_done (by kernel_rfl) ?_ _
 clear hal hal2 hS0 hS1 hS2
 have bx:Below w.heap.size w (w.alloc (.cells #[.int .i64 8,.int .i64 a,.int .i64 z] 159)).drew:=by go_grown
 have pX:Blk (w.alloc (.cells #[.int .i64 8,.int .i64 a,.int .i64 z] 159)).drew w.heap.size 159 [.int .i64 8,.int .i64 a,.int .i64 z]:=Blk.new w 159 [.int .i64 8,.int .i64 a,.int .i64 z]
 have hgl:=hM.lt
 replace hM:=hM.below bx
 replace e1:=cells_kept bx _ _ e1
 have gx:w.grownBy (w.alloc (.cells #[.int .i64 8,.int .i64 a,.int .i64 z] 159)).drew (some g):=grown_new bx
 clear bx e0 q0 q1 q2
 generalize hW2:(w.alloc (.cells #[.int .i64 8,.int .i64 a,.int .i64 z] 159)).drew=W2 at *
 clear hW2
 have hne:w.heap.size≠g:=by omega
 generalize w.heap.size=gX at *
 have f1:=hM.frozen (k*4+1)
 have hM3:=hM.set (k*4+1) (.int .i64 ((p:Int)+1))
 rw [mt_pc _ _ _ _ hL hk] at hM3
 have pX3:=pX.off ⟨g,k*4+1,none⟩ (.int .i64 ((p:Int)+1)) hne
 have g3:=grown_tr gx (grown_cell W2 g (k*4+1) (.int .i64 ((p:Int)+1)))
 have u0:=pX3.cell 0
 have u1:=pX3.cell 1
 have u2:=pX3.cell 2
 simp only [List.getElem?_cons_zero,List.getElem?_cons_succ] at u0 u1 u2
 have r1:(W2.setCell ⟨g,k*4+1,none⟩ (.int .i64 ((p:Int)+1))).cell? ⟨g,k*4+2+a,none⟩=some (.int .i64 z):=(hM3.cell _).trans ((mc_reg _ _ _ _ hk ha).trans (congrArg (fun z=>some (Value.int .i64 z)) hvv))
 have ha2:(a:Int)<2:=by omega
 have hn0:(z != z)=false:=by simp

 have hpw:IntKind.i64.wrap ((p:Int)+1)=(p:Int)+1:=IntWalk.i64_in _ (by omega)
 clear hM gx pX
 clear hvv pX3
 go_wp2_with fail
 generalize (W2.setCell ⟨g,k*4+1,none⟩ (.int .i64 ((p:Int)+1)))=W3 at *
 go_quiet (fail)
 go_wp2
 go_ret
 exact ⟨rfl,hM3,grown_drewN g3 _⟩
theorem step_assert_no (g k p b off n c:Nat) (a:Nat) (z vv:Int) (cs:Sl × Sl × Sl) (m:V4) (w:World) (hk:k<3) (hp:p<n) (hp6:p≤6) (hL:LenOk m) (hM:Blk w g 91 (machR fv cs.1.val cs.2.1.val cs.2.2.val m)) (hg:g≠b∨True)
  (e0:w.cell? ⟨g,k*4,none⟩=some (.slice (some ⟨b,off,none⟩) n c)) (e1:w.cell? ⟨g,k*4+1,none⟩=some (.int .i64 p)) (q0:w.cell? ⟨b,off+p*3,none⟩=some (.int .i64 8)) (q1:w.cell? ⟨b,off+p*3+1,none⟩=some (.int .i64 a)) (q2:w.cell? ⟨b,off+p*3+2,none⟩=some (.int .i64 z)) (ha:a<2) (hvv:m.2.2.2.getD (k*2+a) 0=vv) (hv0:vv≠z) :
  Calls Tryz.prog 76 #[.pointer (some ⟨g,0,none⟩),.int .i64 k] w fun e w'=>e=.returned (.int .i64 12)∧Blk w' g 91 (machR fv cs.1.val cs.2.1.val cs.2.2.val (m.1.set k ((p:Int)+1),m.2))∧w.grownBy w' (some g):=by
 have hk3:(k:Int)<3:=by omega
 have hpn:(p:Int)<(n:Int):=by omega
 go_enter Tryz.func76,Tryz.ntmps76
 go_wp2_with fail
 refine wp_region_held_drew (S:=(fun w'=>w'.cell? ⟨g,k*4,none⟩=some (.slice (some ⟨b,off,none⟩) n c)∧w'.cell? ⟨g,k*4+1,none⟩=some (.int .i64 p)∧w'.cell? ⟨b,off+p*3,none⟩=some (.int .i64 8)∧w'.cell? ⟨b,off+p*3+1,none⟩=some (.int .i64 a)∧w'.cell? ⟨b,off+p*3+2,none⟩=some (.int .i64 z))) (by kernel_rfl) ⟨e0,e1,q0,q1,q2⟩ (fun hS0=>?_)
 refine tkm 0 12 (.pointer (some ⟨g,k*4,none⟩)) ?_
 refine tkm 1 13 (.pointer (some ⟨g,k*4,none⟩)) ?_
 refine tkm 2 14 (.pointer (some ⟨g,k*4,none⟩)) ?_
 refine tkm 3 15 (.slice (some ⟨b,off,none⟩) n c) ?_
 refine tkm 4 16 (.pointer (some ⟨g,k*4,none⟩)) ?_
 refine tkm 5 17 (.pointer (some ⟨g,k*4,none⟩)) ?_
 refine tkm 6 18 (.pointer (some ⟨g,k*4+1,none⟩)) ?_
 refine tkm 7 19 (.int .i64 p) ?_
 refine tkm 8 20 (.pointer (some ⟨b,off+p*3,none⟩)) ?_
 refine tkm 9 21 (.agg #[.int .i64 8,.int .i64 a,.int .i64 z]) ?_
 refine tkr 10 6 (fun K hK=>?_)
 have hal:Below w.drew.heap.size w.drew (w.drew.alloc (.cells #[.int .i64 0,.int .i64 0,.int .i64 0] 159)):=by go_grown
 go_simp
 refine hK.out _ _ ?_ (fun hS1=>?_)
 ·exact ⟨cells_kept hal _ _ hS0.1,cells_kept hal _ _ hS0.2.1,cells_kept hal _ _ hS0.2.2.1,cells_kept hal _ _ hS0.2.2.2.1,cells_kept hal _ _ hS0.2.2.2.2⟩
 clear hK
 try simp only [Act.put,tka,tkb,tkc]
 refine tkz 11 (fun K hK=>?_)
 have hal2:Below w.drew.heap.size w.drew (w.drew.alloc (.cells #[.int .i64 8,.int .i64 a,.int .i64 z] 159)):=by go_grown
 go_simp
 refine hK.out _ _ ?_ (fun hS2=>?_)
 ·exact ⟨cells_kept hal2 _ _ hS0.1,cells_kept hal2 _ _ hS0.2.1,cells_kept hal2 _ _ hS0.2.2.1,cells_kept hal2 _ _ hS0.2.2.2.1,cells_kept hal2 _ _ hS0.2.2.2.2⟩
 clear hK
 try simp only [Act.put,tka,tkb,tkc]
 refine wpAnyH_done (by kernel_rfl) ?_ _
 clear hal hal2 hS0 hS1 hS2
 have bx:Below w.heap.size w (w.alloc (.cells #[.int .i64 8,.int .i64 a,.int .i64 z] 159)).drew:=by go_grown
 have pX:Blk (w.alloc (.cells #[.int .i64 8,.int .i64 a,.int .i64 z] 159)).drew w.heap.size 159 [.int .i64 8,.int .i64 a,.int .i64 z]:=Blk.new w 159 [.int .i64 8,.int .i64 a,.int .i64 z]
 have hgl:=hM.lt
 replace hM:=hM.below bx
 replace e1:=cells_kept bx _ _ e1
 have gx:w.grownBy (w.alloc (.cells #[.int .i64 8,.int .i64 a,.int .i64 z] 159)).drew (some g):=grown_new bx
 clear bx e0 q0 q1 q2
 generalize hW2:(w.alloc (.cells #[.int .i64 8,.int .i64 a,.int .i64 z] 159)).drew=W2 at *
 clear hW2
 have hne:w.heap.size≠g:=by omega
 generalize w.heap.size=gX at *
 have f1:=hM.frozen (k*4+1)
 have hM3:=hM.set (k*4+1) (.int .i64 ((p:Int)+1))
 rw [mt_pc _ _ _ _ hL hk] at hM3
 have pX3:=pX.off ⟨g,k*4+1,none⟩ (.int .i64 ((p:Int)+1)) hne
 have g3:=grown_tr gx (grown_cell W2 g (k*4+1) (.int .i64 ((p:Int)+1)))
 have u0:=pX3.cell 0
 have u1:=pX3.cell 1
 have u2:=pX3.cell 2
 simp only [List.getElem?_cons_zero,List.getElem?_cons_succ] at u0 u1 u2
 have r1:(W2.setCell ⟨g,k*4+1,none⟩ (.int .i64 ((p:Int)+1))).cell? ⟨g,k*4+2+a,none⟩=some (.int .i64 vv):=(hM3.cell _).trans ((mc_reg _ _ _ _ hk ha).trans (congrArg (fun z=>some (Value.int .i64 z)) hvv))
 have ha2:(a:Int)<2:=by omega
 have hn0:(vv != z)=true:=by simp [hv0]

 have hpw:IntKind.i64.wrap ((p:Int)+1)=(p:Int)+1:=IntWalk.i64_in _ (by omega)
 clear hM gx pX
 clear hvv pX3
 go_wp2_with fail
 generalize (W2.setCell ⟨g,k*4+1,none⟩ (.int .i64 ((p:Int)+1)))=W3 at *
 go_quiet (fail)
 go_wp2
 go_ret
 exact ⟨rfl,hM3,grown_drewN g3 _⟩
theorem step_is {w:World} {g:Nat} {cs:Sl × Sl × Sl} {rows:List (List I3)} {m:V4} (h:MachAt fv w g cs rows m) (hp:progOk rows=true) (hs:shapeOk m=true) {k:Nat} (hk:k<3) (hd:doneM rows m k=false) :
  Calls Tryz.prog 76 #[.pointer (some ⟨g,0,none⟩),.int .i64 k] w fun e w'=>e=.returned (.int .i64 (stepM m (insM rows m k) k).2)∧Blk w' g 91 (machR fv cs.1.val cs.2.1.val cs.2.2.val (stepM m (insM rows m k) k).1)∧w.grownBy w' (some g):=by
 obtain ⟨p,ep,hlt,hi,hok⟩:=at_ins hp hs hk hd
 have hl6:=(codeM_len hp hk).1
 have e0:=h.code hk
 have e1:=h.pc hk
 rw [ep] at e1
 obtain ⟨b,off,ea,hpn,q0,q1,q2⟩:=ins_at (h.2 k hk) hlt
 rw [← hi] at q0 q1 q2
 rw [ea] at e0
 have hL:=LenOk.of hs
 have hr9:=(shape_bounds hs).2.2.2
 generalize insM rows m k=x at *
 rcases okI_parts hok with ⟨a,q,rfl,ha,hq⟩ | ⟨q,a,rfl,hq,ha⟩ | ⟨a,z,rfl,ha⟩ | ⟨a,z,rfl,ha,hz⟩ | ⟨a,z,rfl,ha⟩ | ⟨a,z,rfl,ha⟩ | ⟨a,z,rfl,ha,hz⟩ | ⟨a,z,rfl,ha⟩<;>simp only at q0 q1 q2
 ·rw [stepM_1,ep]
  exact step_load g k p b off _ _ a q _ cs m w hk hpn (by omega) hL h.1 (.inr trivial) e0 e1 q0 q1 q2 ha hq rfl
 ·rw [stepM_2,ep]
  exact step_store g k p b off _ _ a q _ cs m w hk hpn (by omega) hL h.1 (.inr trivial) e0 e1 q0 q1 q2 ha hq rfl
 ·rw [stepM_3,ep]
  exact step_set g k p b off _ _ a z cs m w hk hpn (by omega) hL h.1 (.inr trivial) e0 e1 q0 q1 q2 ha
 ·rw [stepM_4,ep]
  exact step_add g k p b off _ _ a z _ _ cs m w hk hpn (by omega) hL h.1 (.inr trivial) e0 e1 q0 q1 q2 ha rfl hz (getD_in hr9 (by decide) _) rfl
 ·rw [stepM_5,ep]
  exact step_lock g k p b off _ _ a z cs m w hk hpn (by omega) hL h.1 (.inr trivial) e0 e1 q0 q1 q2 ha
 ·rw [stepM_6,ep]
  by_cases hv:m.2.2.1.getD a 0=(k:Int)+1
  ·rw [if_pos hv]
   exact step_unlock_yes g k p b off _ _ a z cs m w hk hpn (by omega) hL h.1 (.inr trivial) e0 e1 q0 q1 q2 ha hv
  ·rw [if_neg hv]
   exact step_unlock_no g k p b off _ _ a z cs m w hk hpn (by omega) hL h.1 (.inr trivial) e0 e1 q0 q1 q2 ha hv
 ·rw [stepM_7,ep]
  by_cases hv:m.2.2.2.getD (k*2+a) 0=0
  ·rw [if_pos hv]
   exact step_stay g k p b off _ _ a z cs m w hk hpn (by omega) hL h.1 (.inr trivial) e0 e1 q0 q1 q2 ha hv
  ·rw [if_neg hv]
   exact step_jump g k p b off _ _ a z _ cs m w hk hpn (by omega) hL h.1 (.inr trivial) e0 e1 q0 q1 q2 ha rfl hv
 ·rw [stepM_8,ep]
  by_cases hv:m.2.2.2.getD (k*2+a) 0=z
  ·rw [if_pos hv]
   exact step_assert_yes g k p b off _ _ a z cs m w hk hpn (by omega) hL h.1 (.inr trivial) e0 e1 q0 q1 q2 ha hv
  ·rw [if_neg hv]
   exact step_assert_no g k p b off _ _ a z _ cs m w hk hpn (by omega) hL h.1 (.inr trivial) e0 e1 q0 q1 q2 ha rfl hv

end Rp

open Go.RowKit
set_option linter.unusedVariables false

def haltM (rows:List (List I3)) (m:V4) (k:Int):Int:=
 if 0≤k∧k≤2 then (if doneM rows m k.toNat then 10 else if canM rows m k.toNat then 0 else 11) else 4
def goM (rows:List (List I3)) (m:V4) (k:Int):V4 × Int:=stepM m (insM rows m k.toNat) k.toNat
def ownM (rows:List (List I3)) (m:V4) (k:Int):List I3:=if (goM rows m k).2=0 then [] else [((goM rows m k).2,k,m.1.getD k.toNat 0)]
def deadM (rows:List (List I3)) (m:V4):List I3:=if stuckM rows m then [(14,0,0)] else []
def foundM (rows:List (List I3)) (m:V4) (k:Int):List I3:=if stuckM rows (goM rows m k).1 then putB (ownM rows m k) (14,0,0) else ownM rows m k

def runI (rows:List (List I3)):V4→List I3→List Int→V4 × List I3 × Int
 | m,fs,[]=>(m,fs,0)
 | m,fs,k::ks=>if haltM rows m k=0 then runI rows (goM rows m k).1 (fs++ownM rows m k) ks else (m,fs,haltM rows m k)
def runS (rows:List (List I3)):V4→List I3→List Int→V4 × List I3 × Int
 | m,out,[]=>(m,out,0)
 | m,out,k::ks=>if haltM rows m k=0 then runS rows (goM rows m k).1 (mergeB out (foundM rows m k)) ks else (m,out,haltM rows m k)

theorem halt_can {rows:List (List I3)} {m:V4} {k:Int} (h:haltM rows m k=0):0≤k∧k≤2∧doneM rows m k.toNat=false∧canM rows m k.toNat=true:=by
 unfold haltM at h
 split at h
 ·rename_i hk
  cases hd:doneM rows m k.toNat
  ·cases hc:canM rows m k.toNat
   ·rw [hd,hc] at h;simp at h
   ·exact ⟨hk.1,hk.2,rfl,rfl⟩
  ·rw [hd] at h;simp at h
 ·cases h
theorem can_not_stuck {rows:List (List I3)} {m:V4} {k:Nat} (hk:k<3) (h:canM rows m k=true):stuckM rows m=false:=by
 have hm:(k:Int) ∈ enabM rows m 3:=(mem_enab 3).2 ⟨hk,h⟩
 unfold stuckM
 have hne:¬ (enabM rows m 3=[]):=fun e=>by rw [e] at hm;simp at hm
 simp [hne]
theorem mem_found {rows:List (List I3)} {m:V4} {k:Int} {x:I3}:x ∈ foundM rows m k↔x ∈ ownM rows m k∨x ∈ deadM rows (goM rows m k).1:=by
 unfold foundM deadM
 cases stuckM rows (goM rows m k).1
 ·simp
 ·simp only [if_true,mem_putB,List.mem_singleton]
theorem run_same {rows:List (List I3)}:∀ (ks:List Int) (m:V4) (fs out:List I3),out=mergeB fs (deadM rows m) →
  (runS rows m out ks).1=(runI rows m fs ks).1∧(runS rows m out ks).2.2=(runI rows m fs ks).2.2∧(runS rows m out ks).2.1=mergeB (runI rows m fs ks).2.1 (deadM rows (runI rows m fs ks).1)
 | [],m,fs,out,h=>⟨rfl,rfl,h⟩
 | k::ks,m,fs,out,h=>by
  by_cases hz:haltM rows m k=0
  ·obtain ⟨h0,h2,_,hc⟩:=halt_can hz
   have hst:=can_not_stuck (rows:=rows) (m:=m) (k:=k.toNat) (by omega) hc
   have hd:deadM rows m=[]:=by unfold deadM;rw [hst];rfl
   have e1:runS rows m out (k::ks)=runS rows (goM rows m k).1 (mergeB out (foundM rows m k)) ks:=by
    show (if haltM rows m k=0 then _ else _)=_
    rw [if_pos hz]
   have e2:runI rows m fs (k::ks)=runI rows (goM rows m k).1 (fs++ownM rows m k) ks:=by
    show (if haltM rows m k=0 then _ else _)=_
    rw [if_pos hz]
   rw [e1,e2]
   refine run_same ks _ _ _ ((mergeB_rises _ _).same (mergeB_rises _ _) fun x=>?_)
   rw [mem_mergeB,mem_mergeB,h,mem_mergeB,hd,mem_found,List.mem_append]
   simp only [List.not_mem_nil,or_false,or_assoc]
  ·have e1:runS rows m out (k::ks)=(m,out,haltM rows m k):=by
    show (if haltM rows m k=0 then _ else _)=_
    rw [if_neg hz]
   have e2:runI rows m fs (k::ks)=(m,fs,haltM rows m k):=by
    show (if haltM rows m k=0 then _ else _)=_
    rw [if_neg hz]
   rw [e1,e2]
   exact ⟨rfl,rfl,h⟩
theorem runI_len {rows:List (List I3)}:∀ (ks:List Int) (m:V4) (fs:List I3),(runI rows m fs ks).2.1.length≤fs.length+ks.length
 | [],m,fs=>by simp [runI]
 | k::ks,m,fs=>by
  have h1:(ownM rows m k).length≤1:=by unfold ownM;split<;>simp
  have h2:=runI_len (rows:=rows) ks (goM rows m k).1 (fs++ownM rows m k)
  unfold runI
  split
  ·rw [List.length_append] at h2
   simp only [List.length_cons]
   omega
  ·simp only [List.length_cons]
   omega
end Go.Proofs.YtifoggpohlegmaaGreatDoor
