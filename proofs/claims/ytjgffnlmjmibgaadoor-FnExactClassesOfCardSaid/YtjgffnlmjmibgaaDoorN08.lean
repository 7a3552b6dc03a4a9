/-
  Joined: Parts, Vm4, Mach0, FulP.
-/
import Derived.Deep.RegionLaw
import Derived.Laws.OwnMore
import Derived.Test.YtjgffnlmjmibgaaDoorN04
import Derived.Test.YtjgffnlmjmibgaaDoorN07

namespace Go.Proofs.YtjgffnlmjmibgaaDoor
set_option maxRecDepth 100000
set_option maxHeartbeats 16000000
open Go.RowKit

theorem okFrom_mem {n:Nat}:∀ {xs:List I3} {i:Nat},okFrom n i xs=true→∀ x ∈ xs,okI x=true
 | [],_,_,x,hx=>by cases hx
 | y::ys,i,h,x,hx=>by
  unfold okFrom at h
  simp only [Bool.and_eq_true] at h
  rcases List.mem_cons.1 hx with rfl | hx
  ·exact h.1.1
  ·exact okFrom_mem h.2 x hx
theorem progOk_parts {rows:List (List I3)} (h:progOk rows=true):rows.length=3∧∀ r ∈ rows,r.length≤6∧∀ x ∈ r,okI x=true:=by
 unfold progOk at h
 simp only [Bool.and_eq_true,decide_eq_true_eq,List.all_eq_true] at h
 refine ⟨h.1,fun r hr=>?_⟩
 have:=h.2 r hr
 unfold codeOk at this
 simp only [Bool.and_eq_true,decide_eq_true_eq] at this
 exact ⟨this.1,okFrom_mem this.2⟩
theorem step_append_mine {P:Program} {ops:Array Oper} {o:Oper} {a:Act} {w:World} {K:Act→World→Prop} {Q:Exit→Act→World→Prop} {E:Prop}
  (hg:o.guard=none) (s x:Operand) (t:TypeId) (hop:o.op=Op.call { callee:=Callee.builtin Builtin.append,args:=#[s,x],argTypes:=#[t,t] })
  (base:Nat) (e:TypeId) (i:TypeInfo) (z:Value) (size bytes:Nat) (h1:P.underlying t=some (.slice e)) (h2:P.info? e=some i) (h3:i.zero=some z) (h4:i.size=size) (h5:i.bytes=bytes) (h6:z.cells.size=size) (h7:0<size)
  (v:Value) (n:Nat) (olds:List Value) (hs:a.eval s=v) (hown:w.ownsRow base e size v n olds)
  (ad:Addr) (m c:Nat) (news:List Value) (hx:a.eval x=.slice (some ad) m c) (hn:news.length=m*size) (hc:∀ j u,news[j]?=some u→w.cell? (ad.add j)=some u) (h1c:∀ u ∈ news,u.oneCell'=true)
  (b1:n+m≤maxLen) (b2:(n+m)*bytes≤140737488355328) (hbw:base≤w.heap.size)
  (hK:∀ v' w',w'.ownsRow base e size v' (n+m) (olds++news)→w.grownBy w' v.ownBlock→K (a.put o.dst v') w') :
  if Region.wanted o (yielded ops a.tmps)=true then Oper.wp P o a w K Q else E:=by
 have hw:Region.wanted o (yielded ops a.tmps)=true:=by simp [Region.wanted,hg]
 rw [if_pos hw]
 obtain ⟨v',w',hrun,r1,r2,_⟩:=run_append_own (P:=P) w base t o.type e i z size bytes h1 h2 h3 h4 h5 h6 h7 v n olds hown ad m c news hn hc h1c b1 b2 hbw
 subst hs
 unfold Oper.wp
 simp [execOp,hop,resolve,invoke,builtin,hx,hrun,Result.andThen]
 exact hK v' w' r1 r2
theorem cell_three_new (w:World) (x y z:Value) (t:TypeId):∀ j u,[x,y,z][j]?=some u→(w.alloc (.cells #[x,y,z] t)).cell? ((⟨w.heap.size,0,none⟩:Addr).add j)=some u:=by
 intro j u hj
 match j,hj with
 | 0,hj=>simp at hj;subst hj;simp [Addr.add]
 | 1,hj=>simp at hj;subst hj;simp [Addr.add]
 | 2,hj=>simp at hj;subst hj;simp [Addr.add]
 | (j+3),hj=>simp at hj


def allOf (m:V4):List Int:=((m.1++m.2.1)++m.2.2.1)++m.2.2.2
def keyT (m:V4):ByteArray:=strOfNums ((allOf m).map fun z=>48+z)
theorem allIn_parts {zs:List Int} {n high:Int} (h:allIn zs n high=true):(zs.length:Int)=n∧∀ z ∈ zs,0≤z∧z≤high:=by
 unfold allIn at h
 simp at h
 exact ⟨h.2,h.1⟩
theorem shape_parts {m:V4} (h:shapeOk m=true):m.1.length=3∧m.2.1.length=4∧m.2.2.1.length=2∧m.2.2.2.length=6∧∀ z ∈ allOf m,0≤z∧z≤9:=by
 unfold shapeOk at h
 simp only [Bool.and_eq_true] at h
 obtain ⟨h0,h1,h2,h3⟩:=h
 obtain ⟨l0,e0⟩:=allIn_parts h0
 obtain ⟨l1,e1⟩:=allIn_parts h1
 obtain ⟨l2,e2⟩:=allIn_parts h2
 obtain ⟨l3,e3⟩:=allIn_parts h3
 refine ⟨by omega,by omega,by omega,by omega,fun z hz=>?_⟩
 unfold allOf at hz
 simp only [List.mem_append] at hz
 rcases hz with ((hz | hz) | hz) | hz
 ·have:=e0 z hz;omega
 ·exact e1 z hz
 ·have:=e2 z hz;omega
 ·exact e3 z hz
theorem ints_news {w:World} {b off n c:Nat} {zs:List Int} (h:Ints .i64 w (some ⟨b,off,none⟩) n c zs):∀ j u,(zs.map (Value.int .i64))[j]?=some u→w.cell? ((⟨b,off,none⟩:Addr).add j)=some u:=by
 obtain ⟨hl,_,_,h0⟩:=h
 intro j u hj
 have hjl:j<zs.length:=by
  rcases Nat.lt_or_ge j zs.length with h | h
  ·exact h
  ·simp [List.getElem?_eq_none h] at hj
 rcases h0 with h0 | ⟨b',off',ha,_,hc⟩
 ·omega
 ·cases ha
  have e:(⟨b,off,none⟩:Addr).add j=⟨b,off+j,none⟩:=by unfold Addr.add;split<;>simp_all
  rw [e,hc j (by omega)]
  simp [hjl] at hj
  simp [List.getD,hjl,hj]
theorem one_i64s (zs:List Int):∀ u ∈ zs.map (Value.int .i64),u.oneCell'=true:=by intro u hu;obtain ⟨z,_,rfl⟩:=List.mem_map.1 hu;rfl
theorem own_empty (w:World) (t s B:Nat) (hB:B≤w.heap.size):(w.alloc (.cells #[] t)).ownsRow B t s (.slice (some ⟨w.heap.size,0,none⟩) 0 0) 0 []:=World.ownsRow_lit w #[] 0 hB (by unfold maxLen;omega) (by simp)
theorem some_of_ints {w:World} {a:Option Addr} {n c k:Nat} {zs:List Int} (h:Ints .i64 w a n c zs) (hl:zs.length=k) (hk:0<k):n=k∧∃ b off,a=some ⟨b,off,none⟩:=by
 have hn:n=k:=h.1.symm.trans hl
 rcases h.2.2.2 with h0 | ⟨b,off,ha,_⟩
 ·omega
 ·exact ⟨hn,b,off,ha⟩

theorem l03Key_is (s:S4) (m:V4) (w:World) (h:Vmem w s m) (hok:shapeOk m=true) :
  Calls Tryd.prog 84 #[s.val] w fun e w'=>e=.returned (.string (keyT m))∧Below w.heap.size w w':=by
 obtain ⟨i0,hi,hz0,hz1,hz2⟩:=info_parts info_int
 obtain ⟨l0,l1,l2,l3,hdig⟩:=shape_parts hok
 have HD:Hid (∀ z ∈ allOf m,0≤z∧z≤9):=hdig
 obtain ⟨fin,hfin⟩:∃ fin,fin=keyT m:=⟨_,rfl⟩
 rw [← hfin]
 have HF:Hid (fin=strOfNums ((allOf m).map fun z=>48+z)):=hfin
 clear hdig hfin hok
 obtain ⟨⟨j0,_⟩,⟨j1,_⟩,⟨j2,_⟩,⟨j3,_⟩⟩:=h
 obtain ⟨⟨a0,n0,c0⟩,⟨a1,n1,c1⟩,⟨a2,n2,c2⟩,⟨a3,n3,c3⟩⟩:=s
 obtain ⟨zs,hzs⟩:∃ zs,zs=allOf m:=⟨_,rfl⟩
 rw [← hzs] at HD HF
 have hall:zs=((m.1++m.2.1)++m.2.2.1)++m.2.2.2:=hzs
 clear hzs
 obtain ⟨m0,m1,m2,m3⟩:=m
 simp only at j0 j1 j2 j3 l0 l1 l2 l3 hall
 obtain ⟨rfl,b0,o0,rfl⟩:=some_of_ints j0 l0 (by omega)
 obtain ⟨rfl,b1,o1,rfl⟩:=some_of_ints j1 l1 (by omega)
 obtain ⟨rfl,b2,o2,rfl⟩:=some_of_ints j2 l2 (by omega)
 obtain ⟨rfl,b3,o3,rfl⟩:=some_of_ints j3 l3 (by omega)
 unfold S4.val
 simp only
 have bw:Below w.heap.size w ((w.alloc (.cells #[.slice (some ⟨b0,o0,none⟩) 3 c0,.slice (some ⟨b1,o1,none⟩) 4 c1,.slice (some ⟨b2,o2,none⟩) 2 c2,.slice (some ⟨b3,o3,none⟩) 6 c3] 30)).alloc (.cells #[] 5)):=by go_grown
 have pP:((w.alloc (.cells #[.slice (some ⟨b0,o0,none⟩) 3 c0,.slice (some ⟨b1,o1,none⟩) 4 c1,.slice (some ⟨b2,o2,none⟩) 2 c2,.slice (some ⟨b3,o3,none⟩) 6 c3] 30)).alloc (.cells #[] 5)).ownsRow w.heap.size 30 4 (.slice (some ⟨w.heap.size,0,none⟩) 1 1) 1 [.slice (some ⟨b0,o0,none⟩) 3 c0,.slice (some ⟨b1,o1,none⟩) 4 c1,.slice (some ⟨b2,o2,none⟩) 2 c2,.slice (some ⟨b3,o3,none⟩) 6 c3]:=(box4 w _ _ _ _ 30 w.heap.size (Nat.le_refl _)).alloc _
 have pQ:((w.alloc (.cells #[.slice (some ⟨b0,o0,none⟩) 3 c0,.slice (some ⟨b1,o1,none⟩) 4 c1,.slice (some ⟨b2,o2,none⟩) 2 c2,.slice (some ⟨b3,o3,none⟩) 6 c3] 30)).alloc (.cells #[] 5)).ownsRow w.heap.size 5 1 (.slice (some ⟨w.heap.size+1,0,none⟩) 0 0) 0 (u8s []):=by
  have h9:=own_empty (w.alloc (.cells #[.slice (some ⟨b0,o0,none⟩) 3 c0,.slice (some ⟨b1,o1,none⟩) 4 c1,.slice (some ⟨b2,o2,none⟩) 2 c2,.slice (some ⟨b3,o3,none⟩) 6 c3] 30)) 5 1 w.heap.size (by simp)
  simp only [World.size_alloc] at h9
  exact h9
 go_enter Tryd.func84,Tryd.ntmps84
 go_wp2_with fail
 generalize ((w.alloc (.cells #[.slice (some ⟨b0,o0,none⟩) 3 c0,.slice (some ⟨b1,o1,none⟩) 4 c1,.slice (some ⟨b2,o2,none⟩) 2 c2,.slice (some ⟨b3,o3,none⟩) 6 c3] 30)).alloc (.cells #[] 5))=W0 at *
 generalize w.heap.size+1=Q at *
 have g0:W0.cell? ⟨w.heap.size,0,none⟩=some (.slice (some ⟨b0,o0,none⟩) 3 c0):=by simpa using pP.cellAt 0 (by simp)
 have g1:W0.cell? ⟨w.heap.size,1,none⟩=some (.slice (some ⟨b1,o1,none⟩) 4 c1):=by simpa using pP.cellAt 1 (by simp)
 have g2:W0.cell? ⟨w.heap.size,2,none⟩=some (.slice (some ⟨b2,o2,none⟩) 2 c2):=by simpa using pP.cellAt 2 (by simp)
 have g3:W0.cell? ⟨w.heap.size,3,none⟩=some (.slice (some ⟨b3,o3,none⟩) 6 c3):=by simpa using pP.cellAt 3 (by simp)
 refine wp_region_held_drew (S:=(fun w'=>w'.cell? ⟨w.heap.size,0,none⟩=some (.slice (some ⟨b0,o0,none⟩) 3 c0)∧w'.cell? ⟨w.heap.size,1,none⟩=some (.slice (some ⟨b1,o1,none⟩) 4 c1)∧w'.cell? ⟨w.heap.size,2,none⟩=some (.slice (some ⟨b2,o2,none⟩) 2 c2)∧w'.cell? ⟨w.heap.size,3,none⟩=some (.slice (some ⟨b3,o3,none⟩) 6 c3))) (by kernel_rfl) ⟨g0,g1,g2,g3⟩ (fun hS0=>?_)
 refine tkm 1 8 (.pointer (some ⟨w.heap.size,0,none⟩)) ?_
 refine tkm 2 9 (.slice (some ⟨b0,o0,none⟩) 3 c0) ?_
 refine tkm 4 11 (.pointer (some ⟨w.heap.size,1,none⟩)) ?_
 refine tkm 5 12 (.slice (some ⟨b1,o1,none⟩) 4 c1) ?_
 refine tkm 7 14 (.pointer (some ⟨w.heap.size,2,none⟩)) ?_
 refine tkm 8 15 (.slice (some ⟨b2,o2,none⟩) 2 c2) ?_
 refine tkm 10 17 (.pointer (some ⟨w.heap.size,3,none⟩)) ?_
 refine tkm 11 18 (.slice (some ⟨b3,o3,none⟩) 6 c3) ?_
 refine tkr 0 7 (fun K hK=>?_)
 have hsz0:w.heap.size≤W0.heap.size:=bw.size
 have q0:=(own_empty W0 3 1 w.heap.size hsz0).drew
 have hal:Below W0.heap.size W0 (W0.alloc (.cells #[] 3)).drew:=by go_grown
 replace bw:=bel_trans bw hal
 replace pP:=owns_below pP hal
 replace pQ:=owns_below pQ hal
 clear hal
 have y0:(W0.alloc (.cells #[] 3)).drew.cell? ⟨w.heap.size,0,none⟩=some (.slice (some ⟨b0,o0,none⟩) 3 c0):=by simpa using pP.cellAt 0 (by simp)
 have y1:(W0.alloc (.cells #[] 3)).drew.cell? ⟨w.heap.size,1,none⟩=some (.slice (some ⟨b1,o1,none⟩) 4 c1):=by simpa using pP.cellAt 1 (by simp)
 have y2:(W0.alloc (.cells #[] 3)).drew.cell? ⟨w.heap.size,2,none⟩=some (.slice (some ⟨b2,o2,none⟩) 2 c2):=by simpa using pP.cellAt 2 (by simp)
 have y3:(W0.alloc (.cells #[] 3)).drew.cell? ⟨w.heap.size,3,none⟩=some (.slice (some ⟨b3,o3,none⟩) 6 c3):=by simpa using pP.cellAt 3 (by simp)
 go_simp
 refine hK.out _ _ ⟨y0,y1,y2,y3⟩ (fun hS1=>?_)
 clear hK y0 y1 y2 y3
 generalize (W0.alloc (.cells #[] 3)).drew=U0 at *
 refine tkr 3 10 (fun K hK=>?_)
 refine step_append_mine rfl _ _ 27 rfl w.heap.size 3 i0 (.int .i64 0) 1 8 Tryd.underlying27 hi hz0 hz1 hz2 rfl (by decide) _ _ _ rfl q0 ⟨b0,o0,none⟩ 3 c0 (m0.map (Value.int .i64)) rfl (by simp [l0]) (ints_news (j0.below bw)) (one_i64s _) (by unfold maxLen;omega) (by omega) bw.size ?_
 intro v1 U1 q1 gr1
 replace pP:=pP.kept gr1 (owns_ne pP q0 (by decide))
 replace pQ:=pQ.kept gr1 (owns_ne pQ q0 (by decide))
 replace bw:=bw.grown gr1 bw.size (fun k hk=>(q0.lt k hk).1)
 have y0:U1.cell? ⟨w.heap.size,0,none⟩=some (.slice (some ⟨b0,o0,none⟩) 3 c0):=by simpa using pP.cellAt 0 (by simp)
 have y1:U1.cell? ⟨w.heap.size,1,none⟩=some (.slice (some ⟨b1,o1,none⟩) 4 c1):=by simpa using pP.cellAt 1 (by simp)
 have y2:U1.cell? ⟨w.heap.size,2,none⟩=some (.slice (some ⟨b2,o2,none⟩) 2 c2):=by simpa using pP.cellAt 2 (by simp)
 have y3:U1.cell? ⟨w.heap.size,3,none⟩=some (.slice (some ⟨b3,o3,none⟩) 6 c3):=by simpa using pP.cellAt 3 (by simp)
 refine hK.out _ _ ⟨y0,y1,y2,y3⟩ (fun hS2=>?_)
 clear hK y0 y1 y2 y3 q0 gr1
 simp only [Act.put,tka,tkb,tkc]
 refine tkr 6 13 (fun K hK=>?_)
 refine step_append_mine rfl _ _ 27 rfl w.heap.size 3 i0 (.int .i64 0) 1 8 Tryd.underlying27 hi hz0 hz1 hz2 rfl (by decide) _ _ _ rfl q1 ⟨b1,o1,none⟩ 4 c1 (m1.map (Value.int .i64)) rfl (by simp [l1]) (ints_news (j1.below bw)) (one_i64s _) (by unfold maxLen;omega) (by omega) bw.size ?_
 intro v2 U2 q2 gr2
 replace pP:=pP.kept gr2 (owns_ne pP q1 (by decide))
 replace pQ:=pQ.kept gr2 (owns_ne pQ q1 (by decide))
 replace bw:=bw.grown gr2 bw.size (fun k hk=>(q1.lt k hk).1)
 have y0:U2.cell? ⟨w.heap.size,0,none⟩=some (.slice (some ⟨b0,o0,none⟩) 3 c0):=by simpa using pP.cellAt 0 (by simp)
 have y1:U2.cell? ⟨w.heap.size,1,none⟩=some (.slice (some ⟨b1,o1,none⟩) 4 c1):=by simpa using pP.cellAt 1 (by simp)
 have y2:U2.cell? ⟨w.heap.size,2,none⟩=some (.slice (some ⟨b2,o2,none⟩) 2 c2):=by simpa using pP.cellAt 2 (by simp)
 have y3:U2.cell? ⟨w.heap.size,3,none⟩=some (.slice (some ⟨b3,o3,none⟩) 6 c3):=by simpa using pP.cellAt 3 (by simp)
 refine hK.out _ _ ⟨y0,y1,y2,y3⟩ (fun hS3=>?_)
 clear hK y0 y1 y2 y3 q1 gr2
 simp only [Act.put,tka,tkb,tkc]
 refine tkr 9 16 (fun K hK=>?_)
 refine step_append_mine rfl _ _ 27 rfl w.heap.size 3 i0 (.int .i64 0) 1 8 Tryd.underlying27 hi hz0 hz1 hz2 rfl (by decide) _ _ _ rfl q2 ⟨b2,o2,none⟩ 2 c2 (m2.map (Value.int .i64)) rfl (by simp [l2]) (ints_news (j2.below bw)) (one_i64s _) (by unfold maxLen;omega) (by omega) bw.size ?_
 intro v3 U3 q3 gr3
 replace pP:=pP.kept gr3 (owns_ne pP q2 (by decide))
 replace pQ:=pQ.kept gr3 (owns_ne pQ q2 (by decide))
 replace bw:=bw.grown gr3 bw.size (fun k hk=>(q2.lt k hk).1)
 have y0:U3.cell? ⟨w.heap.size,0,none⟩=some (.slice (some ⟨b0,o0,none⟩) 3 c0):=by simpa using pP.cellAt 0 (by simp)
 have y1:U3.cell? ⟨w.heap.size,1,none⟩=some (.slice (some ⟨b1,o1,none⟩) 4 c1):=by simpa using pP.cellAt 1 (by simp)
 have y2:U3.cell? ⟨w.heap.size,2,none⟩=some (.slice (some ⟨b2,o2,none⟩) 2 c2):=by simpa using pP.cellAt 2 (by simp)
 have y3:U3.cell? ⟨w.heap.size,3,none⟩=some (.slice (some ⟨b3,o3,none⟩) 6 c3):=by simpa using pP.cellAt 3 (by simp)
 refine hK.out _ _ ⟨y0,y1,y2,y3⟩ (fun hS4=>?_)
 clear hK y0 y1 y2 y3 q2 gr3
 simp only [Act.put,tka,tkb,tkc]
 refine tkr 12 19 (fun K hK=>?_)
 refine step_append_mine rfl _ _ 27 rfl w.heap.size 3 i0 (.int .i64 0) 1 8 Tryd.underlying27 hi hz0 hz1 hz2 rfl (by decide) _ _ _ rfl q3 ⟨b3,o3,none⟩ 6 c3 (m3.map (Value.int .i64)) rfl (by simp [l3]) (ints_news (j3.below bw)) (one_i64s _) (by unfold maxLen;omega) (by omega) bw.size ?_
 intro v4 U4 q4 gr4
 replace pP:=pP.kept gr4 (owns_ne pP q3 (by decide))
 replace pQ:=pQ.kept gr4 (owns_ne pQ q3 (by decide))
 replace bw:=bw.grown gr4 bw.size (fun k hk=>(q3.lt k hk).1)
 have y0:U4.cell? ⟨w.heap.size,0,none⟩=some (.slice (some ⟨b0,o0,none⟩) 3 c0):=by simpa using pP.cellAt 0 (by simp)
 have y1:U4.cell? ⟨w.heap.size,1,none⟩=some (.slice (some ⟨b1,o1,none⟩) 4 c1):=by simpa using pP.cellAt 1 (by simp)
 have y2:U4.cell? ⟨w.heap.size,2,none⟩=some (.slice (some ⟨b2,o2,none⟩) 2 c2):=by simpa using pP.cellAt 2 (by simp)
 have y3:U4.cell? ⟨w.heap.size,3,none⟩=some (.slice (some ⟨b3,o3,none⟩) 6 c3):=by simpa using pP.cellAt 3 (by simp)
 refine hK.out _ _ ⟨y0,y1,y2,y3⟩ (fun hS5=>?_)
 clear hK y0 y1 y2 y3 q3 gr4
 simp only [Act.put,tka,tkb,tkc]
 refine tkm 13 4 v4 ?_
 refine wpAnyH_done (by kernel_rfl) ?_ _
 clear hS0 hS1 hS2 hS3 hS4 hS5 pP g0 g1 g2 g3 hsz0 hi hz0 hz1 hz2
 have q5:U4.ownsRow w.heap.size 3 1 v4 15 (zs.map (Value.int .i64)):=by
  rw [hall]
  simpa [List.append_assoc] using q4
 clear q4 hall
 obtain ⟨g,capA,rfl⟩:∃ g c,v4=.slice (some ⟨g,0,none⟩) 15 c:=by
  rcases q5.2 with ⟨rfl,h5⟩ | ⟨g,cap,cur,hv,_⟩
  ·exact absurd h5 (by decide)
  ·exact ⟨g,cap,hv⟩
 have hl15:zs.length=15:=by simpa using q5.1
 have HL:Hid (zs.length=15):=hl15
 clear hl15
 obtain ⟨i8,hi8,hy0,hy1,hy2⟩:=info_parts info_u8
 go_wp2
 go_loopw [3,5] (fun so si wr=>∃ j:Nat,j≤15∧si=.int .i64 j∧wr.ownsRow w.heap.size 5 1 so j (u8s ((zs.map fun z=>48+z).take j))∧wr.ownsRow w.heap.size 3 1 (.slice (some ⟨g,0,none⟩) 15 capA) 15 (zs.map (Value.int .i64))∧Below w.heap.size w wr) (fun _ si _=>15 - (intOf si).toNat)
 case atStart=>exact ⟨0,by omega,rfl,by simpa using pQ,q5,bw⟩
 case round =>
  clear pQ q5 bw
  obtain ⟨j,hj,rfl,hr,hq,hbw⟩:=hrel
  by_cases hlt:j<15
  ·have hjl:j<zs.length:=by rw [HL.out];exact hlt
   have hc:wr.cell? ⟨g,j,none⟩=some (.int .i64 (zs.getD j 0)):=by
    have:=hq.cellAt j (by omega)
    rw [this]
    simp [List.getD,hjl]
   have hx:=HD.out (zs.getD j 0) (by simp [List.getD,hjl])
   have HX:Hid ((zs.map fun z=>48+z).take (j+1)=(zs.map fun z=>48+z).take j++[48+zs.getD j 0]):=by
    rw [Hid,List.take_succ_eq_append_getElem (by simpa using hjl)]
    simp [List.getD,hjl]
   obtain ⟨d,hd⟩:∃ d:Nat,zs.getD j 0=(d:Int):=⟨(zs.getD j 0).toNat,by omega⟩
   rw [hd] at hc hx HX
   have hd9:d≤9:=by omega
   clear hx hd hjl
   have hsz:=hbw.size
   have hj15:(j:Int)<15:=by omega
   go_wp2_with (at_builtin;refine wpList_append_own _ rfl _ _ 22 rfl w.heap.size 5 i8 (.int .u8 0) 1 1 Tryd.underlying22 hi8 hy0 hy1 hy2 rfl (by decide) _ _ _ rfl (hr.alloc _) ⟨wr.heap.size,0,none⟩ 1 1 [.int .u8 (48+(d:Int))] rfl rfl (cell_one_new _ _ _) (one_u8 _) ?c3 ?c4 ?c5 ?_)
   case c3=>unfold maxLen;omega
   case c4=>omega
   case c5=>simp;omega
   intro v' w2 hown' hgrow _
   have R:w2.ownsRow w.heap.size 5 1 v' (j+1) (u8s ((zs.map fun z=>48+z).take (j+1))):=by
    rw [HX.out]
    simpa [u8s] using hown'
   have hq2:=(hq.alloc (.cells #[.int .u8 (48+(d:Int))] 5)).kept hgrow (owns_ne hq hr (by decide))
   have b2:Below w.heap.size w w2:=(hbw.alloc hsz _).grown hgrow (by simp;omega) (fun k hk=>(hr.lt k hk).1)
   clear hown' hgrow hr hq hbw hc HX
   go_wp2
   go_roundw
   case rel=>exact ⟨j+1,by omega,by go_num,R,hq2,b2⟩
   case measure=>simp [intOf];omega
  ·obtain rfl:j=15:=by omega
   have hfull:(zs.map fun z=>48+z).take 15=zs.map fun z=>48+z:=List.take_of_length_le (by simp [HL.out])
   rw [hfull] at hr
   have hcv:=conv_owned hr
   rw [← HF.out] at hcv
   clear hr hq hfull
   go_wp2
   go_ret
   exact ⟨rfl,hbw⟩


def codeM (rows:List (List I3)) (k:Nat):List I3:=rows.getD k []
def doneM (rows:List (List I3)) (m:V4) (k:Nat):Bool:=decide (((codeM rows k).length:Int)≤m.1.getD k 0)
def insM (rows:List (List I3)) (m:V4) (k:Nat):I3:=(codeM rows k).getD (m.1.getD k 0).toNat (0,0,0)
def atLock (m:V4) (x:I3):Bool:=decide (x.1=5) && !decide (m.2.2.1.getD x.2.1.toNat 0=0)
def waitM (rows:List (List I3)) (m:V4) (k:Nat):Bool:=!doneM rows m k && atLock m (insM rows m k)
def canM (rows:List (List I3)) (m:V4) (k:Nat):Bool:=!doneM rows m k && !atLock m (insM rows m k)
def enabM (rows:List (List I3)) (m:V4):Nat→List Int
 | 0=>[]
 | k+1=>if canM rows m k then enabM rows m k++[(k:Int)] else enabM rows m k
def leftM (rows:List (List I3)) (m:V4) (k:Nat):Bool:=(List.range' k (3 - k)).any fun i=>!doneM rows m i
def stuckM (rows:List (List I3)) (m:V4):Bool:=decide (enabM rows m 3=[]) && leftM rows m 0
def stepM (m:V4) (x:I3) (k:Nat):V4 × Int:=
 if x.1=1 then ((m.1.set k (m.1.getD k 0+1),m.2.1,m.2.2.1,m.2.2.2.set (k*2+x.2.1.toNat) (m.2.1.getD x.2.2.toNat 0)),0)
 else if x.1=2 then ((m.1.set k (m.1.getD k 0+1),m.2.1.set x.2.1.toNat (m.2.2.2.getD (k*2+x.2.2.toNat) 0),m.2.2.1,m.2.2.2),0)
 else if x.1=3 then ((m.1.set k (m.1.getD k 0+1),m.2.1,m.2.2.1,m.2.2.2.set (k*2+x.2.1.toNat) x.2.2),0)
 else if x.1=4 then ((m.1.set k (m.1.getD k 0+1),m.2.1,m.2.2.1,m.2.2.2.set (k*2+x.2.1.toNat) ((m.2.2.2.getD (k*2+x.2.1.toNat) 0+x.2.2) % 10)),0)
 else if x.1=5 then ((m.1.set k (m.1.getD k 0+1),m.2.1,m.2.2.1.set x.2.1.toNat (k+1),m.2.2.2),0)
 else if x.1=6 then
  if m.2.2.1.getD x.2.1.toNat 0=k+1 then ((m.1.set k (m.1.getD k 0+1),m.2.1,m.2.2.1.set x.2.1.toNat 0,m.2.2.2),0)
  else ((m.1.set k (m.1.getD k 0+1),m.2.1,m.2.2.1,m.2.2.2),13)
 else if x.1=7 then
  if m.2.2.2.getD (k*2+x.2.1.toNat) 0=0 then ((m.1.set k (m.1.getD k 0+1),m.2.1,m.2.2.1,m.2.2.2),0)
  else ((m.1.set k x.2.2,m.2.1,m.2.2.1,m.2.2.2),0)
 else if m.2.2.2.getD (k*2+x.2.1.toNat) 0=x.2.2 then ((m.1.set k (m.1.getD k 0+1),m.2.1,m.2.2.1,m.2.2.2),0)
 else ((m.1.set k (m.1.getD k 0+1),m.2.1,m.2.2.1,m.2.2.2),12)

theorem leftM_step (rows:List (List I3)) (m:V4) {k:Nat} (hk:k<3):leftM rows m k=(!doneM rows m k || leftM rows m (k+1)):=by
 unfold leftM
 obtain ⟨n,hn⟩:∃ n,3 - k=n+1:=⟨3 - k - 1,by omega⟩
 have hn':3 - (k+1)=n:=by omega
 rw [hn,hn',List.range'_succ,List.any_cons]
theorem leftM_end (rows:List (List I3)) (m:V4):leftM rows m 3=false:=rfl

theorem shape_lists {m:V4} (h:shapeOk m=true):∃ p0 p1 p2 v0 v1 v2 v3 h0 h1 x0 y0 x1 y1 x2 y2:Int,m=([p0,p1,p2],[v0,v1,v2,v3],[h0,h1],[x0,y0,x1,y1,x2,y2]):=by
 obtain ⟨l0,l1,l2,l3,_⟩:=shape_parts h
 obtain ⟨a,b,c,d⟩:=m
 simp only at l0 l1 l2 l3
 match a,b,c,d,l0,l1,l2,l3 with
 | [p0,p1,p2],[v0,v1,v2,v3],[h0,h1],[x0,y0,x1,y1,x2,y2],_,_,_,_=>exact ⟨p0,p1,p2,v0,v1,v2,v3,h0,h1,x0,y0,x1,y1,x2,y2,rfl⟩
theorem shape_bounds {m:V4} (h:shapeOk m=true):(∀ z ∈ m.1,0≤z∧z≤6)∧(∀ z ∈ m.2.1,0≤z∧z≤9)∧(∀ z ∈ m.2.2.1,0≤z∧z≤3)∧∀ z ∈ m.2.2.2,0≤z∧z≤9:=by
 unfold shapeOk at h
 simp only [Bool.and_eq_true] at h
 exact ⟨(allIn_parts h.1).2,(allIn_parts h.2.1).2,(allIn_parts h.2.2.1).2,(allIn_parts h.2.2.2).2⟩
theorem getD_in {zs:List Int} {lo hi:Int} (h:∀ z ∈ zs,lo≤z∧z≤hi) (h0:lo≤0∧0≤hi) (k:Nat):lo≤zs.getD k 0∧zs.getD k 0≤hi:=by
 rcases Nat.lt_or_ge k zs.length with hk | hk
 ·simp only [List.getD,List.getElem?_eq_getElem hk,Option.getD_some]
  exact h _ (List.getElem_mem hk)
 ·simp [List.getD,List.getElem?_eq_none hk,h0]

def machCells (c0 c1 c2:Value) (m:V4):List Value:=
 [c0,.int .i64 (m.1.getD 0 0),.int .i64 (m.2.2.2.getD 0 0),.int .i64 (m.2.2.2.getD 1 0),
  c1,.int .i64 (m.1.getD 1 0),.int .i64 (m.2.2.2.getD 2 0),.int .i64 (m.2.2.2.getD 3 0),
  c2,.int .i64 (m.1.getD 2 0),.int .i64 (m.2.2.2.getD 4 0),.int .i64 (m.2.2.2.getD 5 0),
  .int .i64 (m.2.1.getD 0 0),.int .i64 (m.2.1.getD 1 0),.int .i64 (m.2.1.getD 2 0),.int .i64 (m.2.1.getD 3 0),
  .int .i64 (m.2.2.1.getD 0 0),.int .i64 (m.2.2.1.getD 1 0)]
def codeV (c0 c1 c2:Value) (k:Nat):Value:=[c0,c1,c2].getD k undef

section
variable (c0 c1 c2 : Value) (m : V4)
theorem mc_code {k:Nat} (hk:k<3):(machCells c0 c1 c2 m)[k*4]?=some (codeV c0 c1 c2 k):=by
 match k,hk with
 | 0,_=>rfl
 | 1,_=>rfl
 | 2,_=>rfl
theorem mc_pc {k:Nat} (hk:k<3):(machCells c0 c1 c2 m)[k*4+1]?=some (.int .i64 (m.1.getD k 0)):=by
 match k,hk with
 | 0,_=>rfl
 | 1,_=>rfl
 | 2,_=>rfl
theorem mc_reg {k a:Nat} (hk:k<3) (ha:a<2):(machCells c0 c1 c2 m)[k*4+2+a]?=some (.int .i64 (m.2.2.2.getD (k*2+a) 0)):=by
 match k,hk,a,ha with
 | 0,_,0,_=>rfl
 | 1,_,0,_=>rfl
 | 2,_,0,_=>rfl
 | 0,_,1,_=>rfl
 | 1,_,1,_=>rfl
 | 2,_,1,_=>rfl
theorem mc_var {a:Nat} (ha:a<4):(machCells c0 c1 c2 m)[12+a]?=some (.int .i64 (m.2.1.getD a 0)):=by
 match a,ha with
 | 0,_=>rfl
 | 1,_=>rfl
 | 2,_=>rfl
 | 3,_=>rfl
theorem mc_held {a:Nat} (ha:a<2):(machCells c0 c1 c2 m)[16+a]?=some (.int .i64 (m.2.2.1.getD a 0)):=by
 match a,ha with
 | 0,_=>rfl
 | 1,_=>rfl
end

section
variable (c0 c1 c2 : Value) (m : V4) (h : shapeOk m = true)
include h
end

def Blk (w:World) (g:Nat) (t:TypeId) (cs:List Value):Prop:=w.heap[g]?=some (.cells cs.toArray t (0,0))
theorem Blk.lt {w:World} {g t:Nat} {cs:List Value} (h:Blk w g t cs):g<w.heap.size:=(Array.getElem?_eq_some_iff.1 h).1
theorem Blk.cell {w:World} {g t:Nat} {cs:List Value} (h:Blk w g t cs) (i:Nat):w.cell? ⟨g,i,none⟩=cs[i]?:=by
 unfold Blk at h
 simp [World.cell?,h]
theorem Blk.frozen {w:World} {g t:Nat} {cs:List Value} (h:Blk w g t cs) (i:Nat):w.frozen? ⟨g,i,none⟩=false:=by
 unfold Blk at h
 simp [World.frozen?,h]
theorem Blk.set {w:World} {g t:Nat} {cs:List Value} (h:Blk w g t cs) (i:Nat) (v:Value):Blk (w.setCell ⟨g,i,none⟩ v) g t (cs.set i v):=by
 have hl:=h.lt
 unfold Blk at h ⊢
 simp [World.setCell,Array.getElem?_modify,h]
theorem Blk.below {w w':World} {g t:Nat} {cs:List Value} (h:Blk w g t cs) (hb:Below w.heap.size w w'):Blk w' g t cs:=(hb.block g h.lt).trans h
theorem Blk.new (w:World) (t:Nat) (cs:List Value):Blk (w.alloc (.cells cs.toArray t)) w.heap.size t cs:=by
 show (w.heap.push _)[w.heap.size]?=_
 simp
theorem Blk.drew {w:World} {g t:Nat} {cs:List Value} (h:Blk w g t cs):Blk w.drew g t cs:=h
theorem Blk.drewN {w:World} {g t:Nat} {cs:List Value} (h:Blk w g t cs) (d:Nat):Blk (w.drewN d) g t cs:=h
theorem Blk.off {w:World} {g t:Nat} {cs:List Value} (h:Blk w g t cs) (p:Addr) (v:Value) (hp:g≠p.block):Blk (w.setCell p v) g t cs:=(Below.heap_setCell w p v g hp).trans h

set_option linter.unusedVariables false

section
variable {σ : Type} [DecidableEq σ]
abbrev Rec6 (σ:Type):=σ × Nat × Int
def hasS (S:List (Rec6 σ)) (x:σ):Bool:=S.any fun r=>decide (r.1=x)
theorem hasS_iff {S:List (Rec6 σ)} {x:σ}:hasS S x=true↔x ∈ S.map (·.1):=by
 unfold hasS
 simp
def putS (i:Nat) (S:List (Rec6 σ)) (kx:Int × σ):List (Rec6 σ):=if hasS S kx.2 then S else S++[(kx.2,i,kx.1)]
def onS (i:Nat) (S:List (Rec6 σ)) (ts:List (Int × σ)):List (Rec6 σ):=ts.foldl (putS i) S
def srch (nx:σ→List (Int × σ)):Nat→Nat→List (Rec6 σ)→List (Rec6 σ)
 | 0,_,S=>S
 | f+1,i,S=>match S[i]? with
  | none=>S
  | some r=>srch nx f (i+1) (onS i S (nx r.1))
theorem putS_pre (i:Nat) (S:List (Rec6 σ)) (kx:Int × σ):S <+: putS i S kx:=by
 unfold putS
 split
 ·exact List.prefix_refl _
 ·exact List.prefix_append _ _
theorem onS_pre (i:Nat):∀ (ts:List (Int × σ)) (S:List (Rec6 σ)),S <+: onS i S ts
 | [],S=>List.prefix_refl _
 | t::ts,S=>(putS_pre i S t).trans (onS_pre i ts (putS i S t))
theorem srch_pre (nx:σ→List (Int × σ)):∀ (f i:Nat) (S:List (Rec6 σ)),S <+: srch nx f i S
 | 0,_,S=>List.prefix_refl _
 | f+1,i,S=>by
  unfold srch
  split
  ·exact List.prefix_refl _
  ·exact (onS_pre i _ S).trans (srch_pre nx f (i+1) _)
theorem srch_end {nx:σ→List (Int × σ)} {f i:Nat} {S:List (Rec6 σ)} (h:S.length≤i):srch nx f i S=S:=by
 cases f with
 | zero=>rfl
 | succ f=>unfold srch;rw [List.getElem?_eq_none h]
theorem srch_go {nx:σ→List (Int × σ)} {f i:Nat} {S:List (Rec6 σ)} (h:i<S.length):srch nx (f+1) i S=srch nx f (i+1) (onS i S (nx (S[i]'h).1)):=by
 conv=>lhs;unfold srch
 rw [List.getElem?_eq_getElem h]
theorem onS_cons (i:Nat) (S:List (Rec6 σ)) (t:Int × σ) (ts:List (Int × σ)):onS i S (t::ts)=onS i (putS i S t) ts:=rfl
theorem putS_has (i:Nat) (S:List (Rec6 σ)) (kx:Int × σ):kx.2 ∈ (putS i S kx).map (·.1):=by
 unfold putS
 split
 ·rename_i h;exact hasS_iff.1 h
 ·simp
omit [DecidableEq σ] in
theorem pre_mem {S T:List (Rec6 σ)} {x:σ} (h:S <+: T) (hx:x ∈ S.map (·.1)):x ∈ T.map (·.1):=by
 obtain ⟨r,rfl⟩:=h
 rw [List.map_append]
 exact List.mem_append_left _ hx
theorem onS_has {i:Nat}:∀ (ts:List (Int × σ)) (S:List (Rec6 σ)) (t:Int × σ),t ∈ ts→t.2 ∈ (onS i S ts).map (·.1)
 | [],S,t,h=>by simp at h
 | u::ts,S,t,h=>by
  rw [onS_cons]
  rcases List.mem_cons.1 h with rfl | h
  ·exact pre_mem (onS_pre i ts _) (putS_has i S t)
  ·exact onS_has ts _ t h
theorem srch_closed {nx:σ→List (Int × σ)}:∀ (f i:Nat) (S:List (Rec6 σ)),(∀ j r,j<i→S[j]?=some r→∀ t ∈ nx r.1,t.2 ∈ S.map (·.1))→i≤S.length→(srch nx f i S).length≤i+f →
  ∀ r ∈ srch nx f i S,∀ t ∈ nx r.1,t.2 ∈ (srch nx f i S).map (·.1)
 | 0,i,S,h,hi,hl=>by
  intro r hr t ht
  obtain ⟨j,hj,rfl⟩:=List.getElem_of_mem hr
  have hl':S.length≤i:=hl
  exact h j _ (by have:j<S.length:=hj;omega) (List.getElem?_eq_getElem hj) t ht
 | f+1,i,S,h,hi,hl=>by
  by_cases he:i<S.length
  ·rw [srch_go he] at hl ⊢
   refine srch_closed f (i+1) _ ?_ ?_ (by omega)
   ·intro j r hj hr t ht
    obtain ⟨rest,hrest⟩:=onS_pre i (nx (S[i]'he).1) S
    have hjS:j<S.length:=by omega
    have hr':S[j]?=some r:=by
     rw [← hrest,List.getElem?_append_left hjS] at hr
     exact hr
    by_cases e:j=i
    ·subst e
     rw [List.getElem?_eq_getElem he] at hr'
     cases hr'
     exact onS_has _ S t ht
    ·exact pre_mem ⟨rest,hrest⟩ (h j r (by omega) hr' t ht)
   ·have:=(onS_pre i (nx (S[i]'he).1) S).length_le
    omega
  ·rw [srch_end (by omega)] at hl ⊢
   intro r hr t ht
   obtain ⟨j,hj,rfl⟩:=List.getElem_of_mem hr
   exact h j _ (by omega) (List.getElem?_eq_getElem hj) t ht
end
end Go.Proofs.YtjgffnlmjmibgaaDoor
