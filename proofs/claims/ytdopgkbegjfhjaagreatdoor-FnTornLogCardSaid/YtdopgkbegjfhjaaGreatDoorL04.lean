/-
  Joined: Vm4, BlkT, Mach0, VmI, VmLaid.
-/
import Derived.Test.YtdopgkbegjfhjaaGreatDoorRows
import Derived.ProofKit
import Derived.OpenShut
import Derived.LaidMore
import Derived.MakeChecks
import Derived.Stop.LaidErr
import Derived.Test.YtdopgkbegjfhjaaGreatDoorL03

namespace Go.Proofs.YtdopgkbegjfhjaaGreatDoor
set_option maxRecDepth 100000
set_option maxHeartbeats 16000000
open Go.RowKit

def allOf (m:V4):List Int:=((m.1++m.2.1)++m.2.2.1)++m.2.2.2
def keyT (m:V4):ByteArray:=strOfNums ((allOf m).map fun z=>48+z)
theorem allIn_parts {zs:List Int} {n high:Int} (h:allIn zs n high=true):(zs.length:Int)=n∧∀ z ∈ zs,0≤z∧z≤high:=by
 unfold allIn at h
 simp at h
 exact ⟨h.2,h.1⟩
theorem shape_parts {m:V4} (h:shapeOk m=true):m.1.length=3∧m.2.1.length=4∧m.2.2.1.length=2∧m.2.2.2.length=6∧∀ z ∈ allOf m,0≤z∧z≤9:=by
 unfold shapeOk at h
 simp only [Bool.and_eq_true] at h
 obtain ⟨h0,h1,h2,h3⟩:=h
 obtain ⟨l0,e0⟩:=allIn_parts h0
 obtain ⟨l1,e1⟩:=allIn_parts h1
 obtain ⟨l2,e2⟩:=allIn_parts h2
 obtain ⟨l3,e3⟩:=allIn_parts h3
 refine ⟨by omega,by omega,by omega,by omega,fun z hz=>?_⟩
 unfold allOf at hz
 simp only [List.mem_append] at hz
 rcases hz with ((hz | hz) | hz) | hz
 ·have:=e0 z hz;omega
 ·exact e1 z hz
 ·have:=e2 z hz;omega
 ·exact e3 z hz
theorem ints_news {w:World} {b off n c:Nat} {zs:List Int} (h:Ints .i64 w (some ⟨b,off,none⟩) n c zs):∀ j u,(zs.map (Value.int .i64))[j]?=some u→w.cell? ((⟨b,off,none⟩:Addr).add j)=some u:=by
 obtain ⟨hl,_,_,h0⟩:=h
 intro j u hj
 have hjl:j<zs.length:=by
  rcases Nat.lt_or_ge j zs.length with h | h
  ·exact h
  ·simp [List.getElem?_eq_none h] at hj
 rcases h0 with h0 | ⟨b',off',ha,_,hc⟩
 ·omega
 ·cases ha
  have e:(⟨b,off,none⟩:Addr).add j=⟨b,off+j,none⟩:=by unfold Addr.add;split<;>simp_all
  rw [e,hc j (by omega)]
  simp [hjl] at hj
  simp [List.getD,hjl,hj]
theorem one_i64s (zs:List Int):∀ u ∈ zs.map (Value.int .i64),u.oneCell'=true:=by intro u hu;obtain ⟨z,_,rfl⟩:=List.mem_map.1 hu;rfl
theorem own_empty (w:World) (t s B:Nat) (hB:B≤w.heap.size):(w.alloc (.cells #[] t)).ownsRow B t s (.slice (some ⟨w.heap.size,0,none⟩) 0 0) 0 []:=World.ownsRow_lit w #[] 0 hB (by unfold maxLen;omega) (by simp)
theorem some_of_ints {w:World} {a:Option Addr} {n c k:Nat} {zs:List Int} (h:Ints .i64 w a n c zs) (hl:zs.length=k) (hk:0<k):n=k∧∃ b off,a=some ⟨b,off,none⟩:=by
 have hn:n=k:=h.1.symm.trans hl
 rcases h.2.2.2 with h0 | ⟨b,off,ha,_⟩
 ·omega
 ·exact ⟨hn,b,off,ha⟩

theorem l03Key_is (s:S4) (m:V4) (w:World) (h:Vmem w s m) (hok:shapeOk m=true) :
  Calls Tryz.prog 88 #[s.val] w fun e w'=>e=.returned (.string (keyT m))∧Below w.heap.size w w':=by
 obtain ⟨i0,hi,hz0,hz1,hz2⟩:=info_parts info_int
 obtain ⟨l0,l1,l2,l3,hdig⟩:=shape_parts hok
 have HD:Hid (∀ z ∈ allOf m,0≤z∧z≤9):=hdig
 obtain ⟨fin,hfin⟩:∃ fin,fin=keyT m:=⟨_,rfl⟩
 rw [← hfin]
 have HF:Hid (fin=strOfNums ((allOf m).map fun z=>48+z)):=hfin
 clear hdig hfin hok
 obtain ⟨⟨j0,_⟩,⟨j1,_⟩,⟨j2,_⟩,⟨j3,_⟩⟩:=h
 obtain ⟨⟨a0,n0,c0⟩,⟨a1,n1,c1⟩,⟨a2,n2,c2⟩,⟨a3,n3,c3⟩⟩:=s
 obtain ⟨zs,hzs⟩:∃ zs,zs=allOf m:=⟨_,rfl⟩
 rw [← hzs] at HD HF
 have hall:zs=((m.1++m.2.1)++m.2.2.1)++m.2.2.2:=hzs
 clear hzs
 obtain ⟨m0,m1,m2,m3⟩:=m
 simp only at j0 j1 j2 j3 l0 l1 l2 l3 hall
 obtain ⟨rfl,b0,o0,rfl⟩:=some_of_ints j0 l0 (by omega)
 obtain ⟨rfl,b1,o1,rfl⟩:=some_of_ints j1 l1 (by omega)
 obtain ⟨rfl,b2,o2,rfl⟩:=some_of_ints j2 l2 (by omega)
 obtain ⟨rfl,b3,o3,rfl⟩:=some_of_ints j3 l3 (by omega)
 unfold S4.val
 simp only
 have bw:Below w.heap.size w ((w.alloc (.cells #[.slice (some ⟨b0,o0,none⟩) 3 c0,.slice (some ⟨b1,o1,none⟩) 4 c1,.slice (some ⟨b2,o2,none⟩) 2 c2,.slice (some ⟨b3,o3,none⟩) 6 c3] 123)).alloc (.cells #[] 5)):=by go_grown
 have pP:((w.alloc (.cells #[.slice (some ⟨b0,o0,none⟩) 3 c0,.slice (some ⟨b1,o1,none⟩) 4 c1,.slice (some ⟨b2,o2,none⟩) 2 c2,.slice (some ⟨b3,o3,none⟩) 6 c3] 123)).alloc (.cells #[] 5)).ownsRow w.heap.size 123 4 (.slice (some ⟨w.heap.size,0,none⟩) 1 1) 1 [.slice (some ⟨b0,o0,none⟩) 3 c0,.slice (some ⟨b1,o1,none⟩) 4 c1,.slice (some ⟨b2,o2,none⟩) 2 c2,.slice (some ⟨b3,o3,none⟩) 6 c3]:=(box4 w _ _ _ _ 123 w.heap.size (Nat.le_refl _)).alloc _
 have pQ:((w.alloc (.cells #[.slice (some ⟨b0,o0,none⟩) 3 c0,.slice (some ⟨b1,o1,none⟩) 4 c1,.slice (some ⟨b2,o2,none⟩) 2 c2,.slice (some ⟨b3,o3,none⟩) 6 c3] 123)).alloc (.cells #[] 5)).ownsRow w.heap.size 5 1 (.slice (some ⟨w.heap.size+1,0,none⟩) 0 0) 0 (u8s []):=by
  have h9:=own_empty (w.alloc (.cells #[.slice (some ⟨b0,o0,none⟩) 3 c0,.slice (some ⟨b1,o1,none⟩) 4 c1,.slice (some ⟨b2,o2,none⟩) 2 c2,.slice (some ⟨b3,o3,none⟩) 6 c3] 123)) 5 1 w.heap.size (by simp)
  simp only [World.size_alloc] at h9
  exact h9
 go_enter Tryz.func88,Tryz.ntmps88
 go_wp2_with fail
 generalize ((w.alloc (.cells #[.slice (some ⟨b0,o0,none⟩) 3 c0,.slice (some ⟨b1,o1,none⟩) 4 c1,.slice (some ⟨b2,o2,none⟩) 2 c2,.slice (some ⟨b3,o3,none⟩) 6 c3] 123)).alloc (.cells #[] 5))=W0 at *
 generalize w.heap.size+1=Q at *
 have g0:W0.cell? ⟨w.heap.size,0,none⟩=some (.slice (some ⟨b0,o0,none⟩) 3 c0):=by simpa using pP.cellAt 0 (by simp)
 have g1:W0.cell? ⟨w.heap.size,1,none⟩=some (.slice (some ⟨b1,o1,none⟩) 4 c1):=by simpa using pP.cellAt 1 (by simp)
 have g2:W0.cell? ⟨w.heap.size,2,none⟩=some (.slice (some ⟨b2,o2,none⟩) 2 c2):=by simpa using pP.cellAt 2 (by simp)
 have g3:W0.cell? ⟨w.heap.size,3,none⟩=some (.slice (some ⟨b3,o3,none⟩) 6 c3):=by simpa using pP.cellAt 3 (by simp)
 refine wp_region_held_drew (S:=(fun w'=>w'.cell? ⟨w.heap.size,0,none⟩=some (.slice (some ⟨b0,o0,none⟩) 3 c0)∧w'.cell? ⟨w.heap.size,1,none⟩=some (.slice (some ⟨b1,o1,none⟩) 4 c1)∧w'.cell? ⟨w.heap.size,2,none⟩=some (.slice (some ⟨b2,o2,none⟩) 2 c2)∧w'.cell? ⟨w.heap.size,3,none⟩=some (.slice (some ⟨b3,o3,none⟩) 6 c3))) (by kernel_rfl) ⟨g0,g1,g2,g3⟩ (fun hS0=>?_)
 refine tkm 1 8 (.pointer (some ⟨w.heap.size,0,none⟩)) ?_
 refine tkm 2 9 (.slice (some ⟨b0,o0,none⟩) 3 c0) ?_
 refine tkm 4 11 (.pointer (some ⟨w.heap.size,1,none⟩)) ?_
 refine tkm 5 12 (.slice (some ⟨b1,o1,none⟩) 4 c1) ?_
 refine tkm 7 14 (.pointer (some ⟨w.heap.size,2,none⟩)) ?_
 refine tkm 8 15 (.slice (some ⟨b2,o2,none⟩) 2 c2) ?_
 refine tkm 10 17 (.pointer (some ⟨w.heap.size,3,none⟩)) ?_
 refine tkm 11 18 (.slice (some ⟨b3,o3,none⟩) 6 c3) ?_
 refine tkr 0 7 (fun K hK=>?_)
 have hsz0:w.heap.size≤W0.heap.size:=bw.size
 have q0:=(own_empty W0 3 1 w.heap.size hsz0).drew
 have hal:Below W0.heap.size W0 (W0.alloc (.cells #[] 3)).drew:=by go_grown
 replace bw:=bel_trans bw hal
 replace pP:=owns_below pP hal
 replace pQ:=owns_below pQ hal
 clear hal
 have y0:(W0.alloc (.cells #[] 3)).drew.cell? ⟨w.heap.size,0,none⟩=some (.slice (some ⟨b0,o0,none⟩) 3 c0):=by simpa using pP.cellAt 0 (by simp)
 have y1:(W0.alloc (.cells #[] 3)).drew.cell? ⟨w.heap.size,1,none⟩=some (.slice (some ⟨b1,o1,none⟩) 4 c1):=by simpa using pP.cellAt 1 (by simp)
 have y2:(W0.alloc (.cells #[] 3)).drew.cell? ⟨w.heap.size,2,none⟩=some (.slice (some ⟨b2,o2,none⟩) 2 c2):=by simpa using pP.cellAt 2 (by simp)
 have y3:(W0.alloc (.cells #[] 3)).drew.cell? ⟨w.heap.size,3,none⟩=some (.slice (some ⟨b3,o3,none⟩) 6 c3):=by simpa using pP.cellAt 3 (by simp)
 go_simp
 refine hK.out _ _ ⟨y0,y1,y2,y3⟩ (fun hS1=>?_)
 clear hK y0 y1 y2 y3
 generalize (W0.alloc (.cells #[] 3)).drew=U0 at *
 refine tkr 3 10 (fun K hK=>?_)
 refine step_append_mine rfl _ _ 40 rfl w.heap.size 3 i0 (.int .i64 0) 1 8 Tryz.underlying40 hi hz0 hz1 hz2 rfl (by decide) _ _ _ rfl q0 ⟨b0,o0,none⟩ 3 c0 (m0.map (Value.int .i64)) rfl (by simp [l0]) (ints_news (j0.below bw)) (one_i64s _) (by unfold maxLen;omega) (by omega) bw.size ?_
 intro v1 U1 q1 gr1
 replace pP:=pP.kept gr1 (owns_ne pP q0 (by decide))
 replace pQ:=pQ.kept gr1 (owns_ne pQ q0 (by decide))
 replace bw:=bw.grown gr1 bw.size (fun k hk=>(q0.lt k hk).1)
 have y0:U1.cell? ⟨w.heap.size,0,none⟩=some (.slice (some ⟨b0,o0,none⟩) 3 c0):=by simpa using pP.cellAt 0 (by simp)
 have y1:U1.cell? ⟨w.heap.size,1,none⟩=some (.slice (some ⟨b1,o1,none⟩) 4 c1):=by simpa using pP.cellAt 1 (by simp)
 have y2:U1.cell? ⟨w.heap.size,2,none⟩=some (.slice (some ⟨b2,o2,none⟩) 2 c2):=by simpa using pP.cellAt 2 (by simp)
 have y3:U1.cell? ⟨w.heap.size,3,none⟩=some (.slice (some ⟨b3,o3,none⟩) 6 c3):=by simpa using pP.cellAt 3 (by simp)
 refine hK.out _ _ ⟨y0,y1,y2,y3⟩ (fun hS2=>?_)
 clear hK y0 y1 y2 y3 q0 gr1
 simp only [Act.put,tka,tkb,tkc]
 refine tkr 6 13 (fun K hK=>?_)
 refine step_append_mine rfl _ _ 40 rfl w.heap.size 3 i0 (.int .i64 0) 1 8 Tryz.underlying40 hi hz0 hz1 hz2 rfl (by decide) _ _ _ rfl q1 ⟨b1,o1,none⟩ 4 c1 (m1.map (Value.int .i64)) rfl (by simp [l1]) (ints_news (j1.below bw)) (one_i64s _) (by unfold maxLen;omega) (by omega) bw.size ?_
 intro v2 U2 q2 gr2
 replace pP:=pP.kept gr2 (owns_ne pP q1 (by decide))
 replace pQ:=pQ.kept gr2 (owns_ne pQ q1 (by decide))
 replace bw:=bw.grown gr2 bw.size (fun k hk=>(q1.lt k hk).1)
 have y0:U2.cell? ⟨w.heap.size,0,none⟩=some (.slice (some ⟨b0,o0,none⟩) 3 c0):=by simpa using pP.cellAt 0 (by simp)
 have y1:U2.cell? ⟨w.heap.size,1,none⟩=some (.slice (some ⟨b1,o1,none⟩) 4 c1):=by simpa using pP.cellAt 1 (by simp)
 have y2:U2.cell? ⟨w.heap.size,2,none⟩=some (.slice (some ⟨b2,o2,none⟩) 2 c2):=by simpa using pP.cellAt 2 (by simp)
 have y3:U2.cell? ⟨w.heap.size,3,none⟩=some (.slice (some ⟨b3,o3,none⟩) 6 c3):=by simpa using pP.cellAt 3 (by simp)
 refine hK.out _ _ ⟨y0,y1,y2,y3⟩ (fun hS3=>?_)
 clear hK y0 y1 y2 y3 q1 gr2
 simp only [Act.put,tka,tkb,tkc]
 refine tkr 9 16 (fun K hK=>?_)
 refine step_append_mine rfl _ _ 40 rfl w.heap.size 3 i0 (.int .i64 0) 1 8 Tryz.underlying40 hi hz0 hz1 hz2 rfl (by decide) _ _ _ rfl q2 ⟨b2,o2,none⟩ 2 c2 (m2.map (Value.int .i64)) rfl (by simp [l2]) (ints_news (j2.below bw)) (one_i64s _) (by unfold maxLen;omega) (by omega) bw.size ?_
 intro v3 U3 q3 gr3
 replace pP:=pP.kept gr3 (owns_ne pP q2 (by decide))
 replace pQ:=pQ.kept gr3 (owns_ne pQ q2 (by decide))
 replace bw:=bw.grown gr3 bw.size (fun k hk=>(q2.lt k hk).1)
 have y0:U3.cell? ⟨w.heap.size,0,none⟩=some (.slice (some ⟨b0,o0,none⟩) 3 c0):=by simpa using pP.cellAt 0 (by simp)
 have y1:U3.cell? ⟨w.heap.size,1,none⟩=some (.slice (some ⟨b1,o1,none⟩) 4 c1):=by simpa using pP.cellAt 1 (by simp)
 have y2:U3.cell? ⟨w.heap.size,2,none⟩=some (.slice (some ⟨b2,o2,none⟩) 2 c2):=by simpa using pP.cellAt 2 (by simp)
 have y3:U3.cell? ⟨w.heap.size,3,none⟩=some (.slice (some ⟨b3,o3,none⟩) 6 c3):=by simpa using pP.cellAt 3 (by simp)
 refine hK.out _ _ ⟨y0,y1,y2,y3⟩ (fun hS4=>?_)
 clear hK y0 y1 y2 y3 q2 gr3
 simp only [Act.put,tka,tkb,tkc]
 refine tkr 12 19 (fun K hK=>?_)
 refine step_append_mine rfl _ _ 40 rfl w.heap.size 3 i0 (.int .i64 0) 1 8 Tryz.underlying40 hi hz0 hz1 hz2 rfl (by decide) _ _ _ rfl q3 ⟨b3,o3,none⟩ 6 c3 (m3.map (Value.int .i64)) rfl (by simp [l3]) (ints_news (j3.below bw)) (one_i64s _) (by unfold maxLen;omega) (by omega) bw.size ?_
 intro v4 U4 q4 gr4
 replace pP:=pP.kept gr4 (owns_ne pP q3 (by decide))
 replace pQ:=pQ.kept gr4 (owns_ne pQ q3 (by decide))
 replace bw:=bw.grown gr4 bw.size (fun k hk=>(q3.lt k hk).1)
 have y0:U4.cell? ⟨w.heap.size,0,none⟩=some (.slice (some ⟨b0,o0,none⟩) 3 c0):=by simpa using pP.cellAt 0 (by simp)
 have y1:U4.cell? ⟨w.heap.size,1,none⟩=some (.slice (some ⟨b1,o1,none⟩) 4 c1):=by simpa using pP.cellAt 1 (by simp)
 have y2:U4.cell? ⟨w.heap.size,2,none⟩=some (.slice (some ⟨b2,o2,none⟩) 2 c2):=by simpa using pP.cellAt 2 (by simp)
 have y3:U4.cell? ⟨w.heap.size,3,none⟩=some (.slice (some ⟨b3,o3,none⟩) 6 c3):=by simpa using pP.cellAt 3 (by simp)
 refine hK.out _ _ ⟨y0,y1,y2,y3⟩ (fun hS5=>?_)
 clear hK y0 y1 y2 y3 q3 gr4
 simp only [Act.put,tka,tkb,tkc]
 refine tkm 13 4 v4 ?_
 refine wpAnyH_done (by kernel_rfl) ?_ _
 clear hS0 hS1 hS2 hS3 hS4 hS5 pP g0 g1 g2 g3 hsz0 hi hz0 hz1 hz2
 have q5:U4.ownsRow w.heap.size 3 1 v4 15 (zs.map (Value.int .i64)):=by
  rw [hall]
  simpa [List.append_assoc] using q4
 clear q4 hall
 obtain ⟨g,capA,rfl⟩:∃ g c,v4=.slice (some ⟨g,0,none⟩) 15 c:=by
  rcases q5.2 with ⟨rfl,h5⟩ | ⟨g,cap,cur,hv,_⟩
  ·exact absurd h5 (by decide)
  ·exact ⟨g,cap,hv⟩
 have hl15:zs.length=15:=by simpa using q5.1
 have HL:Hid (zs.length=15):=hl15
 clear hl15
 obtain ⟨i8,hi8,hy0,hy1,hy2⟩:=info_parts info_u8
 go_wp2
 go_loopw [3,5] (fun so si wr=>∃ j:Nat,j≤15∧si=.int .i64 j∧wr.ownsRow w.heap.size 5 1 so j (u8s ((zs.map fun z=>48+z).take j))∧wr.ownsRow w.heap.size 3 1 (.slice (some ⟨g,0,none⟩) 15 capA) 15 (zs.map (Value.int .i64))∧Below w.heap.size w wr) (fun _ si _=>15 - (intOf si).toNat)
 case atStart=>exact ⟨0,by omega,rfl,by simpa using pQ,q5,bw⟩
 case round =>
  clear pQ q5 bw
  obtain ⟨j,hj,rfl,hr,hq,hbw⟩:=hrel
  by_cases hlt:j<15
  ·have hjl:j<zs.length:=by rw [HL.out];exact hlt
   have hc:wr.cell? ⟨g,j,none⟩=some (.int .i64 (zs.getD j 0)):=by
    have:=hq.cellAt j (by omega)
    rw [this]
    simp [List.getD,hjl]
   have hx:=HD.out (zs.getD j 0) (by simp [List.getD,hjl])
   have HX:Hid ((zs.map fun z=>48+z).take (j+1)=(zs.map fun z=>48+z).take j++[48+zs.getD j 0]):=by
    rw [Hid,List.take_succ_eq_append_getElem (by simpa using hjl)]
    simp [List.getD,hjl]
   obtain ⟨d,hd⟩:∃ d:Nat,zs.getD j 0=(d:Int):=⟨(zs.getD j 0).toNat,by omega⟩
   rw [hd] at hc hx HX
   have hd9:d≤9:=by omega
   clear hx hd hjl
   have hsz:=hbw.size
   have hj15:(j:Int)<15:=by omega
   go_wp2_with (at_builtin;refine wpList_append_own _ rfl _ _ 22 rfl w.heap.size 5 i8 (.int .u8 0) 1 1 Tryz.underlying22 hi8 hy0 hy1 hy2 rfl (by decide) _ _ _ rfl (hr.alloc _) ⟨wr.heap.size,0,none⟩ 1 1 [.int .u8 (48+(d:Int))] rfl rfl (cell_one_new _ _ _) (one_u8 _) ?c3 ?c4 ?c5 ?_)
   case c3=>unfold maxLen;omega
   case c4=>omega
   case c5=>simp;omega
   intro v' w2 hown' hgrow _
   have R:w2.ownsRow w.heap.size 5 1 v' (j+1) (u8s ((zs.map fun z=>48+z).take (j+1))):=by
    rw [HX.out]
    simpa [u8s] using hown'
   have hq2:=(hq.alloc (.cells #[.int .u8 (48+(d:Int))] 5)).kept hgrow (owns_ne hq hr (by decide))
   have b2:Below w.heap.size w w2:=(hbw.alloc hsz _).grown hgrow (by simp;omega) (fun k hk=>(hr.lt k hk).1)
   clear hown' hgrow hr hq hbw hc HX
   go_wp2
   go_roundw
   case rel=>exact ⟨j+1,by omega,by go_num,R,hq2,b2⟩
   case measure=>simp [intOf];omega
  ·obtain rfl:j=15:=by omega
   have hfull:(zs.map fun z=>48+z).take 15=zs.map fun z=>48+z:=List.take_of_length_le (by simp [HL.out])
   rw [hfull] at hr
   have hcv:=conv_owned hr
   rw [← HF.out] at hcv
   clear hr hq hfull
   go_wp2
   go_ret
   exact ⟨rfl,hbw⟩


def Blk (w:World) (g:Nat) (t:TypeId) (cs:List Value):Prop:=w.heap[g]?=some (.cells cs.toArray t (0,0))
theorem Blk.lt {w:World} {g t:Nat} {cs:List Value} (h:Blk w g t cs):g<w.heap.size:=(Array.getElem?_eq_some_iff.1 h).1
theorem Blk.cell {w:World} {g t:Nat} {cs:List Value} (h:Blk w g t cs) (i:Nat):w.cell? ⟨g,i,none⟩=cs[i]?:=by
 unfold Blk at h
 simp [World.cell?,h]
theorem Blk.frozen {w:World} {g t:Nat} {cs:List Value} (h:Blk w g t cs) (i:Nat):w.frozen? ⟨g,i,none⟩=false:=by
 unfold Blk at h
 simp [World.frozen?,h]
theorem Blk.set {w:World} {g t:Nat} {cs:List Value} (h:Blk w g t cs) (i:Nat) (v:Value):Blk (w.setCell ⟨g,i,none⟩ v) g t (cs.set i v):=by
 have hl:=h.lt
 unfold Blk at h ⊢
 simp [World.setCell,Array.getElem?_modify,h]
theorem Blk.below {w w':World} {g t:Nat} {cs:List Value} (h:Blk w g t cs) (hb:Below w.heap.size w w'):Blk w' g t cs:=(hb.block g h.lt).trans h
theorem Blk.new (w:World) (t:Nat) (cs:List Value):Blk (w.alloc (.cells cs.toArray t)) w.heap.size t cs:=by
 show (w.heap.push _)[w.heap.size]?=_
 simp
theorem Blk.drew {w:World} {g t:Nat} {cs:List Value} (h:Blk w g t cs):Blk w.drew g t cs:=h
theorem Blk.drewN {w:World} {g t:Nat} {cs:List Value} (h:Blk w g t cs) (d:Nat):Blk (w.drewN d) g t cs:=h
theorem Blk.off {w:World} {g t:Nat} {cs:List Value} (h:Blk w g t cs) (p:Addr) (v:Value) (hp:g≠p.block):Blk (w.setCell p v) g t cs:=(Below.heap_setCell w p v g hp).trans h


def codeM (rows:List (List I3)) (k:Nat):List I3:=rows.getD k []
def doneM (rows:List (List I3)) (m:V4) (k:Nat):Bool:=decide (((codeM rows k).length:Int)≤m.1.getD k 0)
def insM (rows:List (List I3)) (m:V4) (k:Nat):I3:=(codeM rows k).getD (m.1.getD k 0).toNat (0,0,0)
def atLock (m:V4) (x:I3):Bool:=decide (x.1=5) && !decide (m.2.2.1.getD x.2.1.toNat 0=0)
def waitM (rows:List (List I3)) (m:V4) (k:Nat):Bool:=!doneM rows m k && atLock m (insM rows m k)
def canM (rows:List (List I3)) (m:V4) (k:Nat):Bool:=!doneM rows m k && !atLock m (insM rows m k)
def enabM (rows:List (List I3)) (m:V4):Nat→List Int
 | 0=>[]
 | k+1=>if canM rows m k then enabM rows m k++[(k:Int)] else enabM rows m k
def stepM (m:V4) (x:I3) (k:Nat):V4 × Int:=
 if x.1=1 then ((m.1.set k (m.1.getD k 0+1),m.2.1,m.2.2.1,m.2.2.2.set (k*2+x.2.1.toNat) (m.2.1.getD x.2.2.toNat 0)),0)
 else if x.1=2 then ((m.1.set k (m.1.getD k 0+1),m.2.1.set x.2.1.toNat (m.2.2.2.getD (k*2+x.2.2.toNat) 0),m.2.2.1,m.2.2.2),0)
 else if x.1=3 then ((m.1.set k (m.1.getD k 0+1),m.2.1,m.2.2.1,m.2.2.2.set (k*2+x.2.1.toNat) x.2.2),0)
 else if x.1=4 then ((m.1.set k (m.1.getD k 0+1),m.2.1,m.2.2.1,m.2.2.2.set (k*2+x.2.1.toNat) ((m.2.2.2.getD (k*2+x.2.1.toNat) 0+x.2.2) % 10)),0)
 else if x.1=5 then ((m.1.set k (m.1.getD k 0+1),m.2.1,m.2.2.1.set x.2.1.toNat (k+1),m.2.2.2),0)
 else if x.1=6 then
  if m.2.2.1.getD x.2.1.toNat 0=k+1 then ((m.1.set k (m.1.getD k 0+1),m.2.1,m.2.2.1.set x.2.1.toNat 0,m.2.2.2),0)
  else ((m.1.set k (m.1.getD k 0+1),m.2.1,m.2.2.1,m.2.2.2),13)
 else if x.1=7 then
  if m.2.2.2.getD (k*2+x.2.1.toNat) 0=0 then ((m.1.set k (m.1.getD k 0+1),m.2.1,m.2.2.1,m.2.2.2),0)
  else ((m.1.set k x.2.2,m.2.1,m.2.2.1,m.2.2.2),0)
 else if m.2.2.2.getD (k*2+x.2.1.toNat) 0=x.2.2 then ((m.1.set k (m.1.getD k 0+1),m.2.1,m.2.2.1,m.2.2.2),0)
 else ((m.1.set k (m.1.getD k 0+1),m.2.1,m.2.2.1,m.2.2.2),12)

theorem shape_lists {m:V4} (h:shapeOk m=true):∃ p0 p1 p2 v0 v1 v2 v3 h0 h1 x0 y0 x1 y1 x2 y2:Int,m=([p0,p1,p2],[v0,v1,v2,v3],[h0,h1],[x0,y0,x1,y1,x2,y2]):=by
 obtain ⟨l0,l1,l2,l3,_⟩:=shape_parts h
 obtain ⟨a,b,c,d⟩:=m
 simp only at l0 l1 l2 l3
 match a,b,c,d,l0,l1,l2,l3 with
 | [p0,p1,p2],[v0,v1,v2,v3],[h0,h1],[x0,y0,x1,y1,x2,y2],_,_,_,_=>exact ⟨p0,p1,p2,v0,v1,v2,v3,h0,h1,x0,y0,x1,y1,x2,y2,rfl⟩
theorem shape_bounds {m:V4} (h:shapeOk m=true):(∀ z ∈ m.1,0≤z∧z≤6)∧(∀ z ∈ m.2.1,0≤z∧z≤9)∧(∀ z ∈ m.2.2.1,0≤z∧z≤3)∧∀ z ∈ m.2.2.2,0≤z∧z≤9:=by
 unfold shapeOk at h
 simp only [Bool.and_eq_true] at h
 exact ⟨(allIn_parts h.1).2,(allIn_parts h.2.1).2,(allIn_parts h.2.2.1).2,(allIn_parts h.2.2.2).2⟩
theorem getD_in {zs:List Int} {lo hi:Int} (h:∀ z ∈ zs,lo≤z∧z≤hi) (h0:lo≤0∧0≤hi) (k:Nat):lo≤zs.getD k 0∧zs.getD k 0≤hi:=by
 rcases Nat.lt_or_ge k zs.length with hk | hk
 ·simp only [List.getD,List.getElem?_eq_getElem hk,Option.getD_some]
  exact h _ (List.getElem_mem hk)
 ·simp [List.getD,List.getElem?_eq_none hk,h0]

section
variable (c0 c1 c2 : Value) (m : V4)
end

section
variable (c0 c1 c2 : Value) (m : V4) (h : shapeOk m = true)
include h
end


def VmShape (w:World):Prop:=∀ i v,([3,6,4,9,2,3,6,9].map (Value.int .i64))[i]?=some v→w.cell? ⟨2,i,none⟩=some v
theorem VmShape.below {w w':World} (h:VmShape w) (hb:Below w.heap.size w w'):VmShape w':=fun i v hi=>cells_kept hb _ _ (h i v hi)

theorem lists_is (s:S4) (w:World) :
  Calls Tryz.prog 155 #[s.val] w fun e w'=>e=.returned s.val∧Below w.heap.size w w':=by
 obtain ⟨⟨a0,n0,c0⟩,⟨a1,n1,c1⟩,⟨a2,n2,c2⟩,⟨a3,n3,c3⟩⟩:=s
 unfold S4.val
 simp only
 go_enter Tryz.func155,Tryz.ntmps155
 go_wp2
 go_returns
 exact ⟨rfl,by go_grown⟩

theorem fits_is (n high:Int) (a:Option Addr) (len cap:Nat) (zs:List Int) (w:World) (h:Ints .i64 w a len cap zs) :
  Calls Tryz.prog 171 #[.agg #[.int .i64 n,.int .i64 high],.slice a len cap] w fun e w'=>e=.returned (.bool (allIn zs n high))∧Below w.heap.size w w':=by
 obtain ⟨hl,hlc,hcm,hcase⟩:=h
 unfold maxLen at hcm
 obtain ⟨fin,hfin⟩:∃ fin,fin=allIn zs n high:=⟨_,rfl⟩
 rw [← hfin]
 have HF:Hid (fin=allIn zs n high):=hfin
 clear hfin
 by_cases hn:(len:Int)=n
 ·have HE:Hid (Hid (∀ i,i<zs.length→0≤zs.getD i 0∧zs.getD i 0≤high)→fin=true):=fun h=>by rw [HF.out,allIn_end h.out,hl,decide_eq_true hn]
  have hne:((len:Int) != n)=false:=by simp [hn]
  by_cases h0:len=0
  ·subst h0
   obtain rfl:fin=true:=HE.out (fun i hi=>by omega)
   clear HE HF
   simp only [Int.natCast_zero] at hne
   go_enter Tryz.func171,Tryz.ntmps171
   go_wp2
   refine wp_loop_rounds 1 ?_
   rw [rounds_succ]
   go_wp2
   go_ret
   exact ⟨rfl,by go_grown⟩
  ·rcases hcase with h0' | ⟨bk,off,rfl,hblt,hcell⟩
   ·exact absurd h0' h0
   have bw:Below w.heap.size w (w.alloc (.cells #[.int .i64 n,.int .i64 high] 218)):=by go_grown
   have q1:(w.alloc (.cells #[.int .i64 n,.int .i64 high] 218)).cell? ⟨w.heap.size,1,none⟩=some (.int .i64 high):=by simp [go_sem]
   have hc2:∀ t,t<len→(w.alloc (.cells #[.int .i64 n,.int .i64 high] 218)).cell? ⟨bk,off+t,none⟩=some (.int .i64 (zs.getD t 0)):=fun t ht=>cells_kept bw _ _ (hcell t ht)
   clear hcell
   go_enter Tryz.func171,Tryz.ntmps171
   go_wp2
   generalize (w.alloc (.cells #[.int .i64 n,.int .i64 high] 218))=W at *
   go_loopw [14] (fun si wr=>∃ k:Nat,k≤len∧si=.int .i64 k∧Hid (∀ i,i<k→0≤zs.getD i 0∧zs.getD i 0≤high)∧W=wr) (fun si _=>len - (intOf si).toNat)
   case atStart=>exact ⟨0,by omega,rfl,(fun i hi=>by omega),rfl⟩
   case round =>
    obtain ⟨k,hk,rfl,HK,rfl⟩:=hrel
    by_cases hlt:k<len
    ·have hc:=hc2 k hlt
     have hlt':(k:Int)<(len:Int):=by omega
     have hno:¬ (0≤zs.getD k 0∧zs.getD k 0≤high)→fin=false:=fun hin=>by rw [HF.out];exact allIn_no (by omega) hin
     have HN:Hid (¬ (0≤zs.getD k 0∧zs.getD k 0≤high)→fin=false):=hno
     have HK2:Hid (0≤zs.getD k 0∧zs.getD k 0≤high→Hid (∀ i,i<k+1→0≤zs.getD i 0∧zs.getD i 0≤high)):=fun hin i hi=>by
      by_cases e:i=k
      ·subst e;exact hin
      ·exact HK.out i (by omega)
     clear hc2 hno
     generalize zs.getD k 0=x at hc HN HK2
     by_cases g0:x<0
     ·obtain rfl:fin=false:=HN.out (by omega)
      clear HN HK2 HK HF HE
      go_wp2
      go_ret
      exact ⟨rfl,bw⟩
     ·by_cases g1:high<x
      ·obtain rfl:fin=false:=HN.out (by omega)
       have g0':decide (x<0)=false:=by simp;omega
       clear HN HK2 HK HF HE
       go_wp2
       go_ret
       exact ⟨rfl,bw⟩
      ·have HK3:=HK2.out ⟨by omega,by omega⟩
       have g0':decide (x<0)=false:=by simp;omega
       have g1':decide (high<x)=false:=by simp;omega
       clear HN HK2 HK HF HE
       go_wp2
       go_roundw
       case rel=>exact ⟨k+1,by omega,by go_num,HK3,by trivial⟩
       case measure=>simp [intOf];omega
    ·obtain rfl:k=len:=by omega
     obtain rfl:fin=true:=HE.out (fun i hi=>HK.out i (by omega))
     clear hc2 HE HF HK
     go_wp2
     go_ret
     exact ⟨rfl,bw⟩
 ·obtain rfl:fin=false:=by
   rw [HF.out]
   unfold allIn
   rw [hl,decide_eq_false hn,Bool.and_false]
  have hne:((len:Int) != n)=true:=by simp [hn]
  clear HF hcase
  go_enter Tryz.func171,Tryz.ntmps171
  go_wp2
  go_ret
  exact ⟨rfl,by go_grown⟩

theorem idx4_0 (v0 v1 v2 v3:Value) (w:World):(Instr.index 193 (.agg #[v0,v1,v2,v3]) (.int .i64 0)).run Tryz.prog w=.ok v0 w:=by kernel_rfl
theorem idx4_1 (v0 v1 v2 v3:Value) (w:World):(Instr.index 193 (.agg #[v0,v1,v2,v3]) (.int .i64 1)).run Tryz.prog w=.ok v1 w:=by kernel_rfl
theorem idx4_2 (v0 v1 v2 v3:Value) (w:World):(Instr.index 193 (.agg #[v0,v1,v2,v3]) (.int .i64 2)).run Tryz.prog w=.ok v2 w:=by kernel_rfl
theorem idx4_3 (v0 v1 v2 v3:Value) (w:World):(Instr.index 193 (.agg #[v0,v1,v2,v3]) (.int .i64 3)).run Tryz.prog w=.ok v3 w:=by kernel_rfl

theorem right_is (s:S4) (m:V4) (w:World) (h:Vmem w s m) (hV:VmShape w) :
  Calls Tryz.prog 156 #[s.val] w fun e w'=>e=.returned (.bool (shapeOk m))∧Below w.heap.size w w':=by
 have kL:=lists_is s
 obtain ⟨⟨i0,_⟩,⟨i1,_⟩,⟨i2,_⟩,⟨i3,_⟩⟩:=h
 obtain ⟨⟨a0,n0,c0⟩,⟨a1,n1,c1⟩,⟨a2,n2,c2⟩,⟨a3,n3,c3⟩⟩:=s
 obtain ⟨m0,m1,m2,m3⟩:=m
 unfold S4.val at kL ⊢
 unfold shapeOk
 simp only at i0 i1 i2 i3 kL ⊢
 have bw:Below w.heap.size w (w.alloc (.cells #[.slice a0 n0 c0,.slice a1 n1 c1,.slice a2 n2 c2,.slice a3 n3 c3] 123)):=by go_grown
 have k0:=fun w h=>fits_is 3 6 a0 n0 c0 m0 w h
 have k1:=fun w h=>fits_is 4 9 a1 n1 c1 m1 w h
 have k2:=fun w h=>fits_is 2 3 a2 n2 c2 m2 w h
 have k3:=fun w h=>fits_is 6 9 a3 n3 c3 m3 w h
 generalize allIn m0 3 6=x0 at *
 generalize allIn m1 4 9=x1 at *
 generalize allIn m2 2 3=x2 at *
 generalize allIn m3 6 9=x3 at *
 have d0:=idx4_0 (.slice a0 n0 c0) (.slice a1 n1 c1) (.slice a2 n2 c2) (.slice a3 n3 c3)
 have d1:=idx4_1 (.slice a0 n0 c0) (.slice a1 n1 c1) (.slice a2 n2 c2) (.slice a3 n3 c3)
 have d2:=idx4_2 (.slice a0 n0 c0) (.slice a1 n1 c1) (.slice a2 n2 c2) (.slice a3 n3 c3)
 have d3:=idx4_3 (.slice a0 n0 c0) (.slice a1 n1 c1) (.slice a2 n2 c2) (.slice a3 n3 c3)
 go_enter Tryz.func156,Tryz.ntmps156
 go_wp2_with fail
 refine (kL _).mono ?_
 rintro e w1 ⟨rfl,hb⟩
 replace bw:=bel_trans bw hb
 replace hV:=hV.below bw
 clear hb kL
 have t0:=hV 0 _ rfl
 have t1:=hV 1 _ rfl
 go_wp2_with fail
 refine wp_loop_rounds 5 ?_
 rw [rounds_succ]
 go_wp2_with fail
 refine (k0 _ (i0.below bw)).mono ?_
 rintro e w2 ⟨rfl,hb⟩
 replace bw:=bel_trans bw hb
 replace hV:=hV.below hb
 clear hb k0 i0 t0 t1
 cases x0
 ·go_wp2
  go_ret
  exact ⟨rfl,bw⟩
 have t2:=hV 2 _ rfl
 have t3:=hV 3 _ rfl
 go_wp2_with fail
 rw [rounds_succ]
 go_wp2_with fail
 refine (k1 _ (i1.below bw)).mono ?_
 rintro e w3 ⟨rfl,hb⟩
 replace bw:=bel_trans bw hb
 replace hV:=hV.below hb
 clear hb k1 i1 t2 t3
 cases x1
 ·go_wp2
  go_ret
  exact ⟨rfl,bw⟩
 have t4:=hV 4 _ rfl
 have t5:=hV 5 _ rfl
 go_wp2_with fail
 rw [rounds_succ]
 go_wp2_with fail
 refine (k2 _ (i2.below bw)).mono ?_
 rintro e w4 ⟨rfl,hb⟩
 replace bw:=bel_trans bw hb
 replace hV:=hV.below hb
 clear hb k2 i2 t4 t5
 cases x2
 ·go_wp2
  go_ret
  exact ⟨rfl,bw⟩
 have t6:=hV 6 _ rfl
 have t7:=hV 7 _ rfl
 go_wp2_with fail
 rw [rounds_succ]
 go_wp2_with fail
 refine (k3 _ (i3.below bw)).mono ?_
 rintro e w5 ⟨rfl,hb⟩
 replace bw:=bel_trans bw hb
 clear hb k3 i3 t6 t7 hV
 cases x3
 ·go_wp2
  go_ret
  exact ⟨rfl,bw⟩
 go_wp2_with fail
 rw [rounds_succ]
 go_wp2
 go_ret
 exact ⟨rfl,bw⟩

open Go.RowKit Go.ChangeShapes

theorem gVmShape:Tryz.prog.globalNamed "loop.example/g00632/impl.vmShape"=some 2:=by kernel_rfl
theorem tVmShape:(Tryz.prog.globals[2]?).map (·.type)=some 219:=by kernel_rfl

section
variable {H : Type} {enc : TypeId × Value → H} {w : World} {base : Nat} {spare : Nat → Bool} {held : Bool}
theorem part_cells {fuel:Nat} {cs:List Value} {a b:Int} {p:List MemPlace} (h:DataW.trod enc Tryz.prog w base spare held fuel 218 cs=some (.agg [.lit (.int .i64 a),.lit (.int .i64 b)],p)):cs=[.int .i64 a,.int .i64 b]:=by
 obtain ⟨y0,y1,n,hx,hl,h0,h1⟩:=trod_struct2 Tryz.underlying218 h
 have hl2:cs.length=2:=hl.trans (by kernel_rfl)
 have hk:Tryz.prog.cellsOf 3=1:=by kernel_rfl
 match cs,hl2 with
 | [c0,c1],_ =>
  simp only [hk] at h0 h1
  obtain ⟨z0,e0,hy0,_⟩:=DataW.trod_int Tryz.underlying3 h0
  obtain ⟨z1,e1,hy1,_⟩:=DataW.trod_int Tryz.underlying3 h1
  simp at e0 e1
  subst hy0 hy1 e0 e1
  simp at hx
  simp [hx]
theorem shape_cells {fuel:Nat} {cs:List Value} {p:List MemPlace} (h:DataW.trod enc Tryz.prog w base spare held fuel 219 cs=some (Rows.laid_loop_example_g00632_impl_vmShape,p)):cs=[3,6,4,9,2,3,6,9].map (Value.int .i64):=by
 obtain ⟨xs,m,_,hx,hl,hn,hi⟩:=DataW.trod_array Tryz.underlying219 h
 have hk:Tryz.prog.cellsOf 218=2:=by kernel_rfl
 have hl8:cs.length=8:=hl.trans (by kernel_rfl)
 rw [hk] at hi
 match xs,hn with
 | [⟨x0,p0⟩,⟨x1,p1⟩,⟨x2,p2⟩,⟨x3,p3⟩],_ =>
  unfold Rows.laid_loop_example_g00632_impl_vmShape at hx
  simp at hx
  obtain ⟨⟨rfl,rfl,rfl,rfl⟩,_⟩:=hx
  match cs,hl8 with
  | [c0,c1,c2,c3,c4,c5,c6,c7],_ =>
   have g0:=part_cells (hi 0 (by decide))
   have g1:=part_cells (hi 1 (by decide))
   have g2:=part_cells (hi 2 (by decide))
   have g3:=part_cells (hi 3 (by decide))
   simp at g0 g1 g2 g3
   simp [g0,g1,g2,g3]
end

theorem vmShape_of_laid {W:World} {p:List (String × DataW Unit)} (hp:p=[("loop.example/g00632/impl.vmShape",Rows.laid_loop_example_g00632_impl_vmShape)]) (h:laidMetH Tryz.prog p W):VmShape W:=by
 subst hp
 rw [MakeChecks.laidMetH_plain _ _ _ (by kernel_rfl)] at h
 obtain ⟨ps,⟨g0,t0,cs0,f0,p0,q0,hg0,ht0,hv0,hd0,_,_⟩,_,_⟩:=h
 obtain rfl:=Option.some.inj (gVmShape.symm.trans hg0)
 obtain rfl:=Option.some.inj (tVmShape.symm.trans ht0)
 have hcs:=shape_cells hd0
 unfold World.var? at hv0
 simp only [gVmShape,Option.bind_some] at hv0
 cases hh:W.heap[2]? with
 | none=>rw [hh] at hv0;cases hv0
 | some o =>
  rw [hh] at hv0
  cases o with
  | cells cs t fr =>
   simp only [Option.some.injEq] at hv0
   subst hv0
   intro i v hi
   rw [← hcs] at hi
   simp only [World.cell?,hh]
   simpa using hi
  | _=>cases hv0
end Go.Proofs.YtdopgkbegjfhjaaGreatDoor
