/-
  Joined: Vm3, Vm4, Mach0, DrawQ, MachI.
-/
import Derived.Test.YtifoggpohlegmaaGreatDoorE04
import Derived.Test.YtifoggpohlegmaaGreatDoorE06

namespace Go.Proofs.YtifoggpohlegmaaGreatDoor
set_option maxRecDepth 100000
set_option maxHeartbeats 16000000
open Go.RowKit

def YR (zs:List Int) (n high:Int):Bool:=zs.all (fun z=>decide (0≤z∧z≤high)) && decide ((zs.length:Int)=n)
def Zk (m:V4):Bool:=YR m.1 3 6 && (YR m.2.1 4 9 && (YR m.2.2.1 2 3 && YR m.2.2.2 6 9))
theorem P7 {zs:List Int} {n high:Int} {k:Nat} (hk:k<zs.length) (h:¬ (0≤zs.getD k 0∧zs.getD k 0≤high)):YR zs n high=false:=by
 unfold YR
 have:zs.all (fun z=>decide (0≤z∧z≤high))=false:=by
  rw [List.all_eq_false]
  refine ⟨zs.getD k 0,by simp [List.getD,hk],?_⟩
  simpa using h
 rw [this];rfl
theorem QE {zs:List Int} {n high:Int} (h:∀ i,i<zs.length→0≤zs.getD i 0∧zs.getD i 0≤high):YR zs n high=decide ((zs.length:Int)=n):=by
 unfold YR
 have:zs.all (fun z=>decide (0≤z∧z≤high))=true:=by
  rw [List.all_eq_true]
  intro z hz
  obtain ⟨i,hi,rfl⟩:=List.getElem_of_mem hz
  have:=h i hi
  simpa [List.getD,hi] using this
 rw [this];rfl

theorem UC (a:Option Addr) (len cap:Nat) (zs:List Int) (n high:Int) (w:World) (h:YV .i64 w a len cap zs) :
  Calls Tryz.prog 172 #[.slice a len cap,.int .i64 n,.int .i64 high] w fun e w'=>e=.returned (.bool (YR zs n high))∧w=w':=by
 obtain ⟨hl,hlc,hcm,hcase⟩:=h
 unfold maxLen at hcm
 obtain ⟨fin,hfin⟩:∃ fin,fin=YR zs n high:=⟨_,rfl⟩
 rw [← hfin]
 have HF:Hid (fin=YR zs n high):=hfin
 clear hfin
 have hend:∀ b:Bool,b=decide ((len:Int)=n)→Hid (∀ i,i<zs.length→0≤zs.getD i 0∧zs.getD i 0≤high)→fin=b:=fun b hb h=>by rw [HF.out,QE h.out,hb,hl]
 obtain ⟨b,hb⟩:∃ b,b=decide ((len:Int)=n):=⟨_,rfl⟩
 have he:=hend b hb
 have hb2:((len:Int) == n)=b:=by rw [hb];by_cases h:(len:Int)=n<;>simp [h]
 clear hend hb
 have HE:Hid (Hid (∀ i,i<zs.length→0≤zs.getD i 0∧zs.getD i 0≤high)→fin=b):=he
 clear he
 by_cases h0:len=0
 ·subst h0
  obtain rfl:fin=b:=HE.out (fun i hi=>by omega)
  clear HE HF
  go_enter Tryz.func172,Tryz.ntmps172
  go_wp2
  refine wp_loop_rounds 1 ?_
  rw [rounds_succ]
  simp only [Int.natCast_zero] at hb2
  go_wp2
  go_ret
  exact ⟨rfl,rfl⟩
 rcases hcase with h0' | ⟨bk,off,rfl,hblt,hcell⟩
 ·exact absurd h0' h0
 go_enter Tryz.func172,Tryz.ntmps172
 go_wp2
 go_loopw [7] (fun si wr=>∃ k:Nat,k≤len∧si=.int .i64 k∧Hid (∀ i,i<k→0≤zs.getD i 0∧zs.getD i 0≤high)∧w=wr) (fun si _=>len - (intOf si).toNat)
 case atStart=>exact ⟨0,by omega,rfl,(fun i hi=>by omega),rfl⟩
 case round =>
  obtain ⟨k,hk,rfl,HK,rfl⟩:=hrel
  by_cases hlt:k<len
  ·have hc:=hcell k hlt
   have hlt':(k:Int)<(len:Int):=by omega
   by_cases hin:0≤zs.getD k 0∧zs.getD k 0≤high
   ·have HK2:Hid (∀ i,i<k+1→0≤zs.getD i 0∧zs.getD i 0≤high):=fun i hi=>by
     by_cases e:i=k
     ·subst e;exact hin
     exact HK.out i (by omega)
    have kI:=fun w=>Si (zs.getD k 0) 0 high w hin
    clear hcell hin
    generalize zs.getD k 0=x at hc kI
    go_wp2_with fail
    refine (kI _).mono ?_
    rintro e w1 ⟨rfl,rfl⟩
    go_wp2
    go_roundw
    case rel=>exact ⟨k+1,by omega,by go_num,HK2,by trivial⟩
    case measure=>simp [intOf];omega
   obtain rfl:fin=false:=by rw [HF.out];exact P7 (by omega) hin
   have kI:=fun w=>RS (zs.getD k 0) 0 high w hin
   clear hcell hin HE HF
   generalize zs.getD k 0=x at hc kI
   go_wp2_with fail
   refine (kI _).mono ?_
   rintro e w1 ⟨rfl,rfl⟩
   go_wp2
   go_ret
   exact ⟨rfl,rfl⟩
  obtain rfl:k=len:=by omega
  obtain rfl:fin=b:=HE.out (fun i hi=>HK.out i (by omega))
  clear hcell HE HF HK
  go_wp2
  go_ret
  exact ⟨rfl,rfl⟩

theorem NH (s:S4) (m:V4) (w:World) (h:Yl w s m) :
  Calls Tryz.prog 140 #[s.val] w fun e w'=>e=.returned (.bool (Zk m))∧Below w.heap.size w w':=by
 obtain ⟨⟨i0,_⟩,⟨i1,_⟩,⟨i2,_⟩,⟨i3,_⟩⟩:=h
 obtain ⟨⟨a0,n0,c0⟩,⟨a1,n1,c1⟩,⟨a2,n2,c2⟩,⟨a3,n3,c3⟩⟩:=s
 obtain ⟨m0,m1,m2,m3⟩:=m
 unfold S4.val Zk
 simp only at i0 i1 i2 i3 ⊢
 have bw:Below w.heap.size w (w.alloc (.cells #[.slice a0 n0 c0,.slice a1 n1 c1,.slice a2 n2 c2,.slice a3 n3 c3] 33)):=by go_grown
 have k0:=UC a0 n0 c0 m0 3 6 _ (i0.below bw)
 have k1:=UC a1 n1 c1 m1 4 9 _ (i1.below bw)
 have k2:=UC a2 n2 c2 m2 2 3 _ (i2.below bw)
 have k3:=UC a3 n3 c3 m3 6 9 _ (i3.below bw)
 clear i0 i1 i2 i3
 generalize YR m0 3 6=x0 at *
 generalize YR m1 4 9=x1 at *
 generalize YR m2 2 3=x2 at *
 generalize YR m3 6 9=x3 at *
 go_enter Tryz.func140,Tryz.ntmps140
 go_wp2_with fail
 refine k0.mono ?_
 rintro e w1 ⟨rfl,rfl⟩
 cases x0
 ·go_wp2
  go_ret
  exact ⟨rfl,bw⟩
 go_wp2_with fail
 refine k1.mono ?_
 rintro e w1 ⟨rfl,rfl⟩
 cases x1
 ·go_wp2
  go_ret
  exact ⟨rfl,bw⟩
 go_wp2_with fail
 refine k2.mono ?_
 rintro e w1 ⟨rfl,rfl⟩
 cases x2
 ·go_wp2
  go_ret
  exact ⟨rfl,bw⟩
 go_wp2_with fail
 refine k3.mono ?_
 rintro e w1 ⟨rfl,rfl⟩
 cases x3
 ·go_wp2
  go_ret
  exact ⟨rfl,bw⟩
 go_wp2
 go_ret
 exact ⟨rfl,bw⟩


def XS (m:V4):List Int:=((m.1++m.2.1)++m.2.2.1)++m.2.2.2
def Ye (m:V4):ByteArray:=strOfNums ((XS m).map fun z=>48+z)
theorem YS {zs:List Int} {n high:Int} (h:YR zs n high=true):(zs.length:Int)=n∧∀ z ∈ zs,0≤z∧z≤high:=by
 unfold YR at h
 simp at h
 exact ⟨h.2,h.1⟩
theorem ZV {m:V4} (h:Zk m=true):m.1.length=3∧m.2.1.length=4∧m.2.2.1.length=2∧m.2.2.2.length=6∧∀ z ∈ XS m,0≤z∧z≤9:=by
 unfold Zk at h
 simp only [Bool.and_eq_true] at h
 obtain ⟨h0,h1,h2,h3⟩:=h
 obtain ⟨l0,e0⟩:=YS h0
 obtain ⟨l1,e1⟩:=YS h1
 obtain ⟨l2,e2⟩:=YS h2
 obtain ⟨l3,e3⟩:=YS h3
 refine ⟨by omega,by omega,by omega,by omega,fun z hz=>?_⟩
 unfold XS at hz
 simp only [List.mem_append] at hz
 rcases hz with ((hz | hz) | hz) | hz
 ·have:=e0 z hz;omega
 ·exact e1 z hz
 ·have:=e2 z hz;omega
 exact e3 z hz
theorem XI {w:World} {b off n c:Nat} {zs:List Int} (h:YV .i64 w (some ⟨b,off,none⟩) n c zs):∀ j u,(zs.map (Value.int .i64))[j]?=some u→w.cell? ((⟨b,off,none⟩:Addr).add j)=some u:=by
 obtain ⟨hl,_,_,h0⟩:=h
 intro j u hj
 have hjl:j<zs.length:=by
  rcases Nat.lt_or_ge j zs.length with h | h
  ·exact h
  simp [List.getElem?_eq_none h] at hj
 rcases h0 with h0 | ⟨b',off',ha,_,hc⟩
 ·omega
 cases ha
 have e:(⟨b,off,none⟩:Addr).add j=⟨b,off+j,none⟩:=by unfold Addr.add;split<;>simp_all
 rw [e,hc j (by omega)]
 simp [hjl] at hj
 simp [List.getD,hjl,hj]
theorem Wn (zs:List Int):∀ u ∈ zs.map (Value.int .i64),u.oneCell'=true:=by intro u hu;obtain ⟨z,_,rfl⟩:=List.mem_map.1 hu;rfl
theorem X9 (w:World) (t s B:Nat) (hB:B≤w.heap.size):(w.alloc (.cells #[] t)).ownsRow B t s (.slice (some ⟨w.heap.size,0,none⟩) 0 0) 0 []:=World.ownsRow_lit w #[] 0 hB (by unfold maxLen;omega) (by simp)
theorem Zy {w:World} {a:Option Addr} {n c k:Nat} {zs:List Int} (h:YV .i64 w a n c zs) (hl:zs.length=k) (hk:0<k):n=k∧∃ b off,a=some ⟨b,off,none⟩:=by
 have hn:n=k:=h.1.symm.trans hl
 rcases h.2.2.2 with h0 | ⟨b,off,ha,_⟩
 ·omega
 exact ⟨hn,b,off,ha⟩

theorem Vu (s:S4) (m:V4) (w:World) (h:Yl w s m) (hok:Zk m=true) :
  Calls Tryz.prog 101 #[s.val] w fun e w'=>e=.returned (.string (Ye m))∧Below w.heap.size w w':=by
 obtain ⟨i0,hi,hz0,hz1,hz2⟩:=info_parts Xe
 obtain ⟨l0,l1,l2,l3,hdig⟩:=ZV hok
 have HD:Hid (∀ z ∈ XS m,0≤z∧z≤9):=hdig
 obtain ⟨fin,hfin⟩:∃ fin,fin=Ye m:=⟨_,rfl⟩
 rw [← hfin]
 have HF:Hid (fin=strOfNums ((XS m).map fun z=>48+z)):=hfin
 clear hdig hfin hok
 obtain ⟨⟨j0,_⟩,⟨j1,_⟩,⟨j2,_⟩,⟨j3,_⟩⟩:=h
 obtain ⟨⟨a0,n0,c0⟩,⟨a1,n1,c1⟩,⟨a2,n2,c2⟩,⟨a3,n3,c3⟩⟩:=s
 obtain ⟨zs,hzs⟩:∃ zs,zs=XS m:=⟨_,rfl⟩
 rw [← hzs] at HD HF
 have hall:zs=((m.1++m.2.1)++m.2.2.1)++m.2.2.2:=hzs
 clear hzs
 obtain ⟨m0,m1,m2,m3⟩:=m
 simp only at j0 j1 j2 j3 l0 l1 l2 l3 hall
 obtain ⟨rfl,b0,o0,rfl⟩:=Zy j0 l0 (by omega)
 obtain ⟨rfl,b1,o1,rfl⟩:=Zy j1 l1 (by omega)
 obtain ⟨rfl,b2,o2,rfl⟩:=Zy j2 l2 (by omega)
 obtain ⟨rfl,b3,o3,rfl⟩:=Zy j3 l3 (by omega)
 unfold S4.val
 simp only
 have bw:Below w.heap.size w ((w.alloc (.cells #[.slice (some ⟨b0,o0,none⟩) 3 c0,.slice (some ⟨b1,o1,none⟩) 4 c1,.slice (some ⟨b2,o2,none⟩) 2 c2,.slice (some ⟨b3,o3,none⟩) 6 c3] 33)).alloc (.cells #[] 5)):=by go_grown
 have pP:((w.alloc (.cells #[.slice (some ⟨b0,o0,none⟩) 3 c0,.slice (some ⟨b1,o1,none⟩) 4 c1,.slice (some ⟨b2,o2,none⟩) 2 c2,.slice (some ⟨b3,o3,none⟩) 6 c3] 33)).alloc (.cells #[] 5)).ownsRow w.heap.size 33 4 (.slice (some ⟨w.heap.size,0,none⟩) 1 1) 1 [.slice (some ⟨b0,o0,none⟩) 3 c0,.slice (some ⟨b1,o1,none⟩) 4 c1,.slice (some ⟨b2,o2,none⟩) 2 c2,.slice (some ⟨b3,o3,none⟩) 6 c3]:=(Da w _ _ _ _ 33 w.heap.size (Nat.le_refl _)).alloc _
 have pQ:((w.alloc (.cells #[.slice (some ⟨b0,o0,none⟩) 3 c0,.slice (some ⟨b1,o1,none⟩) 4 c1,.slice (some ⟨b2,o2,none⟩) 2 c2,.slice (some ⟨b3,o3,none⟩) 6 c3] 33)).alloc (.cells #[] 5)).ownsRow w.heap.size 5 1 (.slice (some ⟨w.heap.size+1,0,none⟩) 0 0) 0 (u8s []):=by
  have h9:=X9 (w.alloc (.cells #[.slice (some ⟨b0,o0,none⟩) 3 c0,.slice (some ⟨b1,o1,none⟩) 4 c1,.slice (some ⟨b2,o2,none⟩) 2 c2,.slice (some ⟨b3,o3,none⟩) 6 c3] 33)) 5 1 w.heap.size (by simp)
  simp only [World.size_alloc] at h9
  exact h9
 go_enter Tryz.func101,Tryz.ntmps101
 go_wp2_with fail
 generalize ((w.alloc (.cells #[.slice (some ⟨b0,o0,none⟩) 3 c0,.slice (some ⟨b1,o1,none⟩) 4 c1,.slice (some ⟨b2,o2,none⟩) 2 c2,.slice (some ⟨b3,o3,none⟩) 6 c3] 33)).alloc (.cells #[] 5))=W0 at *
 generalize w.heap.size+1=Q at *
 have g0:W0.cell? ⟨w.heap.size,0,none⟩=some (.slice (some ⟨b0,o0,none⟩) 3 c0):=by simpa using pP.cellAt 0 (by simp)
 have g1:W0.cell? ⟨w.heap.size,1,none⟩=some (.slice (some ⟨b1,o1,none⟩) 4 c1):=by simpa using pP.cellAt 1 (by simp)
 have g2:W0.cell? ⟨w.heap.size,2,none⟩=some (.slice (some ⟨b2,o2,none⟩) 2 c2):=by simpa using pP.cellAt 2 (by simp)
 have g3:W0.cell? ⟨w.heap.size,3,none⟩=some (.slice (some ⟨b3,o3,none⟩) 6 c3):=by simpa using pP.cellAt 3 (by simp)
 refine wp_region_held_drew (S:=(fun w'=>w'.cell? ⟨w.heap.size,0,none⟩=some (.slice (some ⟨b0,o0,none⟩) 3 c0)∧w'.cell? ⟨w.heap.size,1,none⟩=some (.slice (some ⟨b1,o1,none⟩) 4 c1)∧w'.cell? ⟨w.heap.size,2,none⟩=some (.slice (some ⟨b2,o2,none⟩) 2 c2)∧w'.cell? ⟨w.heap.size,3,none⟩=some (.slice (some ⟨b3,o3,none⟩) 6 c3))) (by kernel_rfl) ⟨g0,g1,g2,g3⟩ (fun hS0=>?_)
 refine tkm 1 8 (.pointer (some ⟨w.heap.size,0,none⟩)) ?_
 refine tkm 2 9 (.slice (some ⟨b0,o0,none⟩) 3 c0) ?_
 refine tkm 4 11 (.pointer (some ⟨w.heap.size,1,none⟩)) ?_
 refine tkm 5 12 (.slice (some ⟨b1,o1,none⟩) 4 c1) ?_
 refine tkm 7 14 (.pointer (some ⟨w.heap.size,2,none⟩)) ?_
 refine tkm 8 15 (.slice (some ⟨b2,o2,none⟩) 2 c2) ?_
 refine tkm 10 17 (.pointer (some ⟨w.heap.size,3,none⟩)) ?_
 refine tkm 11 18 (.slice (some ⟨b3,o3,none⟩) 6 c3) ?_
 refine tkr 0 7 (fun K hK=>?_)
 have hsz0:w.heap.size≤W0.heap.size:=bw.size
 have q0:=(X9 W0 3 1 w.heap.size hsz0).drew
 have hal:Below W0.heap.size W0 (W0.alloc (.cells #[] 3)).drew:=by go_grown
 replace bw:=Zb bw hal
 replace pP:=Zf pP hal
 replace pQ:=Zf pQ hal
 clear hal
 have y0:(W0.alloc (.cells #[] 3)).drew.cell? ⟨w.heap.size,0,none⟩=some (.slice (some ⟨b0,o0,none⟩) 3 c0):=by simpa using pP.cellAt 0 (by simp)
 have y1:(W0.alloc (.cells #[] 3)).drew.cell? ⟨w.heap.size,1,none⟩=some (.slice (some ⟨b1,o1,none⟩) 4 c1):=by simpa using pP.cellAt 1 (by simp)
 have y2:(W0.alloc (.cells #[] 3)).drew.cell? ⟨w.heap.size,2,none⟩=some (.slice (some ⟨b2,o2,none⟩) 2 c2):=by simpa using pP.cellAt 2 (by simp)
 have y3:(W0.alloc (.cells #[] 3)).drew.cell? ⟨w.heap.size,3,none⟩=some (.slice (some ⟨b3,o3,none⟩) 6 c3):=by simpa using pP.cellAt 3 (by simp)
 go_simp
 refine hK.out _ _ ⟨y0,y1,y2,y3⟩ (fun hS1=>?_)
 clear hK y0 y1 y2 y3
 generalize (W0.alloc (.cells #[] 3)).drew=U0 at *
 refine tkr 3 10 (fun K hK=>?_)
 refine Y8 rfl _ _ 27 rfl w.heap.size 3 i0 (.int .i64 0) 1 8 Tryz.underlying27 hi hz0 hz1 hz2 rfl (by decide) _ _ _ rfl q0 ⟨b0,o0,none⟩ 3 c0 (m0.map (Value.int .i64)) rfl (by simp [l0]) (XI (j0.below bw)) (Wn _) (by unfold maxLen;omega) (by omega) bw.size ?_
 intro v1 U1 q1 gr1
 replace pP:=pP.kept gr1 (Yh pP q0 (by decide))
 replace pQ:=pQ.kept gr1 (Yh pQ q0 (by decide))
 replace bw:=bw.grown gr1 bw.size (fun k hk=>(q0.lt k hk).1)
 have y0:U1.cell? ⟨w.heap.size,0,none⟩=some (.slice (some ⟨b0,o0,none⟩) 3 c0):=by simpa using pP.cellAt 0 (by simp)
 have y1:U1.cell? ⟨w.heap.size,1,none⟩=some (.slice (some ⟨b1,o1,none⟩) 4 c1):=by simpa using pP.cellAt 1 (by simp)
 have y2:U1.cell? ⟨w.heap.size,2,none⟩=some (.slice (some ⟨b2,o2,none⟩) 2 c2):=by simpa using pP.cellAt 2 (by simp)
 have y3:U1.cell? ⟨w.heap.size,3,none⟩=some (.slice (some ⟨b3,o3,none⟩) 6 c3):=by simpa using pP.cellAt 3 (by simp)
 refine hK.out _ _ ⟨y0,y1,y2,y3⟩ (fun hS2=>?_)
 clear hK y0 y1 y2 y3 q0 gr1
 simp only [Act.put,tka,tkb,tkc]
 refine tkr 6 13 (fun K hK=>?_)
 refine Y8 rfl _ _ 27 rfl w.heap.size 3 i0 (.int .i64 0) 1 8 Tryz.underlying27 hi hz0 hz1 hz2 rfl (by decide) _ _ _ rfl q1 ⟨b1,o1,none⟩ 4 c1 (m1.map (Value.int .i64)) rfl (by simp [l1]) (XI (j1.below bw)) (Wn _) (by unfold maxLen;omega) (by omega) bw.size ?_
 intro v2 U2 q2 gr2
 replace pP:=pP.kept gr2 (Yh pP q1 (by decide))
 replace pQ:=pQ.kept gr2 (Yh pQ q1 (by decide))
 replace bw:=bw.grown gr2 bw.size (fun k hk=>(q1.lt k hk).1)
 have y0:U2.cell? ⟨w.heap.size,0,none⟩=some (.slice (some ⟨b0,o0,none⟩) 3 c0):=by simpa using pP.cellAt 0 (by simp)
 have y1:U2.cell? ⟨w.heap.size,1,none⟩=some (.slice (some ⟨b1,o1,none⟩) 4 c1):=by simpa using pP.cellAt 1 (by simp)
 have y2:U2.cell? ⟨w.heap.size,2,none⟩=some (.slice (some ⟨b2,o2,none⟩) 2 c2):=by simpa using pP.cellAt 2 (by simp)
 have y3:U2.cell? ⟨w.heap.size,3,none⟩=some (.slice (some ⟨b3,o3,none⟩) 6 c3):=by simpa using pP.cellAt 3 (by simp)
 refine hK.out _ _ ⟨y0,y1,y2,y3⟩ (fun hS3=>?_)
 clear hK y0 y1 y2 y3 q1 gr2
 simp only [Act.put,tka,tkb,tkc]
 refine tkr 9 16 (fun K hK=>?_)
 refine Y8 rfl _ _ 27 rfl w.heap.size 3 i0 (.int .i64 0) 1 8 Tryz.underlying27 hi hz0 hz1 hz2 rfl (by decide) _ _ _ rfl q2 ⟨b2,o2,none⟩ 2 c2 (m2.map (Value.int .i64)) rfl (by simp [l2]) (XI (j2.below bw)) (Wn _) (by unfold maxLen;omega) (by omega) bw.size ?_
 intro v3 U3 q3 gr3
 replace pP:=pP.kept gr3 (Yh pP q2 (by decide))
 replace pQ:=pQ.kept gr3 (Yh pQ q2 (by decide))
 replace bw:=bw.grown gr3 bw.size (fun k hk=>(q2.lt k hk).1)
 have y0:U3.cell? ⟨w.heap.size,0,none⟩=some (.slice (some ⟨b0,o0,none⟩) 3 c0):=by simpa using pP.cellAt 0 (by simp)
 have y1:U3.cell? ⟨w.heap.size,1,none⟩=some (.slice (some ⟨b1,o1,none⟩) 4 c1):=by simpa using pP.cellAt 1 (by simp)
 have y2:U3.cell? ⟨w.heap.size,2,none⟩=some (.slice (some ⟨b2,o2,none⟩) 2 c2):=by simpa using pP.cellAt 2 (by simp)
 have y3:U3.cell? ⟨w.heap.size,3,none⟩=some (.slice (some ⟨b3,o3,none⟩) 6 c3):=by simpa using pP.cellAt 3 (by simp)
 refine hK.out _ _ ⟨y0,y1,y2,y3⟩ (fun hS4=>?_)
 clear hK y0 y1 y2 y3 q2 gr3
 simp only [Act.put,tka,tkb,tkc]
 refine tkr 12 19 (fun K hK=>?_)
 refine Y8 rfl _ _ 27 rfl w.heap.size 3 i0 (.int .i64 0) 1 8 Tryz.underlying27 hi hz0 hz1 hz2 rfl (by decide) _ _ _ rfl q3 ⟨b3,o3,none⟩ 6 c3 (m3.map (Value.int .i64)) rfl (by simp [l3]) (XI (j3.below bw)) (Wn _) (by unfold maxLen;omega) (by omega) bw.size ?_
 intro v4 U4 q4 gr4
 replace pP:=pP.kept gr4 (Yh pP q3 (by decide))
 replace pQ:=pQ.kept gr4 (Yh pQ q3 (by decide))
 replace bw:=bw.grown gr4 bw.size (fun k hk=>(q3.lt k hk).1)
 have y0:U4.cell? ⟨w.heap.size,0,none⟩=some (.slice (some ⟨b0,o0,none⟩) 3 c0):=by simpa using pP.cellAt 0 (by simp)
 have y1:U4.cell? ⟨w.heap.size,1,none⟩=some (.slice (some ⟨b1,o1,none⟩) 4 c1):=by simpa using pP.cellAt 1 (by simp)
 have y2:U4.cell? ⟨w.heap.size,2,none⟩=some (.slice (some ⟨b2,o2,none⟩) 2 c2):=by simpa using pP.cellAt 2 (by simp)
 have y3:U4.cell? ⟨w.heap.size,3,none⟩=some (.slice (some ⟨b3,o3,none⟩) 6 c3):=by simpa using pP.cellAt 3 (by simp)
 refine hK.out _ _ ⟨y0,y1,y2,y3⟩ (fun hS5=>?_)
 clear hK y0 y1 y2 y3 q3 gr4
 simp only [Act.put,tka,tkb,tkc]
 refine tkm 13 4 v4 ?_
 refine wpAnyH_done (by kernel_rfl) ?_ _
 clear hS0 hS1 hS2 hS3 hS4 hS5 pP g0 g1 g2 g3 hsz0 hi hz0 hz1 hz2
 have q5:U4.ownsRow w.heap.size 3 1 v4 15 (zs.map (Value.int .i64)):=by
  rw [hall]
  simpa [List.append_assoc] using q4
 clear q4 hall
 obtain ⟨g,capA,rfl⟩:∃ g c,v4=.slice (some ⟨g,0,none⟩) 15 c:=by
  rcases q5.2 with ⟨rfl,h5⟩ | ⟨g,cap,cur,hv,_⟩
  ·exact absurd h5 (by decide)
  exact ⟨g,cap,hv⟩
 have hl15:zs.length=15:=by simpa using q5.1
 have HL:Hid (zs.length=15):=hl15
 clear hl15
 obtain ⟨i8,hi8,hy0,hy1,hy2⟩:=info_parts PK
 go_wp2
 go_loopw [3,5] (fun so si wr=>∃ j:Nat,j≤15∧si=.int .i64 j∧wr.ownsRow w.heap.size 5 1 so j (u8s ((zs.map fun z=>48+z).take j))∧wr.ownsRow w.heap.size 3 1 (.slice (some ⟨g,0,none⟩) 15 capA) 15 (zs.map (Value.int .i64))∧Below w.heap.size w wr) (fun _ si _=>15 - (intOf si).toNat)
 case atStart=>exact ⟨0,by omega,rfl,by simpa using pQ,q5,bw⟩
 case round =>
  clear pQ q5 bw
  obtain ⟨j,hj,rfl,hr,hq,hbw⟩:=hrel
  by_cases hlt:j<15
  ·have hjl:j<zs.length:=by rw [HL.out];exact hlt
   have hc:wr.cell? ⟨g,j,none⟩=some (.int .i64 (zs.getD j 0)):=by
    have:=hq.cellAt j (by omega)
    rw [this]
    simp [List.getD,hjl]
   have hx:=HD.out (zs.getD j 0) (by simp [List.getD,hjl])
   have HX:Hid ((zs.map fun z=>48+z).take (j+1)=(zs.map fun z=>48+z).take j++[48+zs.getD j 0]):=by
    rw [Hid,List.take_succ_eq_append_getElem (by simpa using hjl)]
    simp [List.getD,hjl]
   obtain ⟨d,hd⟩:∃ d:Nat,zs.getD j 0=(d:Int):=⟨(zs.getD j 0).toNat,by omega⟩
   rw [hd] at hc hx HX
   have hd9:d≤9:=by omega
   clear hx hd hjl
   have hsz:=hbw.size
   have hj15:(j:Int)<15:=by omega
   go_wp2_with (at_builtin;refine wpList_append_own _ rfl _ _ 22 rfl w.heap.size 5 i8 (.int .u8 0) 1 1 Tryz.underlying22 hi8 hy0 hy1 hy2 rfl (by decide) _ _ _ rfl (hr.alloc _) ⟨wr.heap.size,0,none⟩ 1 1 [.int .u8 (48+(d:Int))] rfl rfl (cell_one_new _ _ _) (Te _) ?c3 ?c4 ?c5 ?_)
   case c3=>unfold maxLen;omega
   case c4=>omega
   case c5=>simp;omega
   intro v' w2 hown' hgrow _
   have R:w2.ownsRow w.heap.size 5 1 v' (j+1) (u8s ((zs.map fun z=>48+z).take (j+1))):=by
    rw [HX.out]
    simpa [u8s] using hown'
   have hq2:=(hq.alloc (.cells #[.int .u8 (48+(d:Int))] 5)).kept hgrow (Yh hq hr (by decide))
   have b2:Below w.heap.size w w2:=(hbw.alloc hsz _).grown hgrow (by simp;omega) (fun k hk=>(hr.lt k hk).1)
   clear hown' hgrow hr hq hbw hc HX
   go_wp2
   go_roundw
   case rel=>exact ⟨j+1,by omega,by go_num,R,hq2,b2⟩
   case measure=>simp [intOf];omega
  obtain rfl:j=15:=by omega
  have hfull:(zs.map fun z=>48+z).take 15=zs.map fun z=>48+z:=List.take_of_length_le (by simp [HL.out])
  rw [hfull] at hr
  have hcv:=VF hr
  rw [← HF.out] at hcv
  clear hr hq hfull
  go_wp2
  go_ret
  exact ⟨rfl,hbw⟩


def Yn (rows:List (List I3)) (k:Nat):List I3:=rows.getD k []
def Z2 (rows:List (List I3)) (m:V4) (k:Nat):Bool:=decide (((Yn rows k).length:Int)≤m.1.getD k 0)
def Ys (rows:List (List I3)) (m:V4) (k:Nat):I3:=(Yn rows k).getD (m.1.getD k 0).toNat (0,0,0)
def XT (m:V4) (x:I3):Bool:=decide (x.1=5) && !decide (m.2.2.1.getD x.2.1.toNat 0=0)
def Qt (rows:List (List I3)) (m:V4) (k:Nat):Bool:=!Z2 rows m k && XT m (Ys rows m k)
def YC (rows:List (List I3)) (m:V4) (k:Nat):Bool:=!Z2 rows m k && !XT m (Ys rows m k)
def Zj (rows:List (List I3)) (m:V4):Nat→List Int
 | 0=>[]
 | k+1=>if YC rows m k then Zj rows m k++[(k:Int)] else Zj rows m k
def X1 (rows:List (List I3)) (m:V4) (k:Nat):Bool:=(List.range' k (3 - k)).any fun i=>!Z2 rows m i
def Xk (rows:List (List I3)) (m:V4):Bool:=decide (Zj rows m 3=[]) && X1 rows m 0
def ZG (m:V4) (x:I3) (k:Nat):V4 × Int:=
 if x.1=1 then ((m.1.set k (m.1.getD k 0+1),m.2.1,m.2.2.1,m.2.2.2.set (k*2+x.2.1.toNat) (m.2.1.getD x.2.2.toNat 0)),0)
 else if x.1=2 then ((m.1.set k (m.1.getD k 0+1),m.2.1.set x.2.1.toNat (m.2.2.2.getD (k*2+x.2.2.toNat) 0),m.2.2.1,m.2.2.2),0)
 else if x.1=3 then ((m.1.set k (m.1.getD k 0+1),m.2.1,m.2.2.1,m.2.2.2.set (k*2+x.2.1.toNat) x.2.2),0)
 else if x.1=4 then ((m.1.set k (m.1.getD k 0+1),m.2.1,m.2.2.1,m.2.2.2.set (k*2+x.2.1.toNat) ((m.2.2.2.getD (k*2+x.2.1.toNat) 0+x.2.2) % 10)),0)
 else if x.1=5 then ((m.1.set k (m.1.getD k 0+1),m.2.1,m.2.2.1.set x.2.1.toNat (k+1),m.2.2.2),0)
 else if x.1=6 then
  if m.2.2.1.getD x.2.1.toNat 0=k+1 then ((m.1.set k (m.1.getD k 0+1),m.2.1,m.2.2.1.set x.2.1.toNat 0,m.2.2.2),0)
  else ((m.1.set k (m.1.getD k 0+1),m.2.1,m.2.2.1,m.2.2.2),13)
 else if x.1=7 then
  if m.2.2.2.getD (k*2+x.2.1.toNat) 0=0 then ((m.1.set k (m.1.getD k 0+1),m.2.1,m.2.2.1,m.2.2.2),0)
  else ((m.1.set k x.2.2,m.2.1,m.2.2.1,m.2.2.2),0)
 else if m.2.2.2.getD (k*2+x.2.1.toNat) 0=x.2.2 then ((m.1.set k (m.1.getD k 0+1),m.2.1,m.2.2.1,m.2.2.2),0)
 else ((m.1.set k (m.1.getD k 0+1),m.2.1,m.2.2.1,m.2.2.2),12)

theorem RV (rows:List (List I3)) (m:V4) {k:Nat} (hk:k<3):X1 rows m k=(!Z2 rows m k || X1 rows m (k+1)):=by
 unfold X1
 obtain ⟨n,hn⟩:∃ n,3 - k=n+1:=⟨3 - k - 1,by omega⟩
 have hn':3 - (k+1)=n:=by omega
 rw [hn,hn',List.range'_succ,List.any_cons]
theorem QV (rows:List (List I3)) (m:V4):X1 rows m 3=false:=rfl

theorem Un {m:V4} (h:Zk m=true):∃ p0 p1 p2 v0 v1 v2 v3 h0 h1 x0 y0 x1 y1 x2 y2:Int,m=([p0,p1,p2],[v0,v1,v2,v3],[h0,h1],[x0,y0,x1,y1,x2,y2]):=by
 obtain ⟨l0,l1,l2,l3,_⟩:=ZV h
 obtain ⟨a,b,c,d⟩:=m
 simp only at l0 l1 l2 l3
 match a,b,c,d,l0,l1,l2,l3 with
 | [p0,p1,p2],[v0,v1,v2,v3],[h0,h1],[x0,y0,x1,y1,x2,y2],_,_,_,_=>exact ⟨p0,p1,p2,v0,v1,v2,v3,h0,h1,x0,y0,x1,y1,x2,y2,rfl⟩
theorem Yi {m:V4} (h:Zk m=true):(∀ z ∈ m.1,0≤z∧z≤6)∧(∀ z ∈ m.2.1,0≤z∧z≤9)∧(∀ z ∈ m.2.2.1,0≤z∧z≤3)∧∀ z ∈ m.2.2.2,0≤z∧z≤9:=by
 unfold Zk at h
 simp only [Bool.and_eq_true] at h
 exact ⟨(YS h.1).2,(YS h.2.1).2,(YS h.2.2.1).2,(YS h.2.2.2).2⟩
theorem Xq {zs:List Int} {lo hi:Int} (h:∀ z ∈ zs,lo≤z∧z≤hi) (h0:lo≤0∧0≤hi) (k:Nat):lo≤zs.getD k 0∧zs.getD k 0≤hi:=by
 rcases Nat.lt_or_ge k zs.length with hk | hk
 ·simp only [List.getD,List.getElem?_eq_getElem hk,Option.getD_some]
  exact h _ (List.getElem_mem hk)
 simp [List.getD,List.getElem?_eq_none hk,h0]

def Zh (c0 c1 c2:Value) (m:V4):List Value:=
 [c0,.int .i64 (m.1.getD 0 0),.int .i64 (m.2.2.2.getD 0 0),.int .i64 (m.2.2.2.getD 1 0),
  c1,.int .i64 (m.1.getD 1 0),.int .i64 (m.2.2.2.getD 2 0),.int .i64 (m.2.2.2.getD 3 0),
  c2,.int .i64 (m.1.getD 2 0),.int .i64 (m.2.2.2.getD 4 0),.int .i64 (m.2.2.2.getD 5 0),
  .int .i64 (m.2.1.getD 0 0),.int .i64 (m.2.1.getD 1 0),.int .i64 (m.2.1.getD 2 0),.int .i64 (m.2.1.getD 3 0),
  .int .i64 (m.2.2.1.getD 0 0),.int .i64 (m.2.2.1.getD 1 0)]
def Fr (c0 c1 c2:Value) (k:Nat):Value:=[c0,c1,c2].getD k undef

section
variable (c0 c1 c2 : Value) (m : V4)
theorem G2 {k:Nat} (hk:k<3):(Zh c0 c1 c2 m)[k*4]?=some (Fr c0 c1 c2 k):=by
 match k,hk with
 | 0,_=>rfl
 | 1,_=>rfl
 | 2,_=>rfl
theorem Fw {k:Nat} (hk:k<3):(Zh c0 c1 c2 m)[k*4+1]?=some (.int .i64 (m.1.getD k 0)):=by
 match k,hk with
 | 0,_=>rfl
 | 1,_=>rfl
 | 2,_=>rfl
theorem Ue {k a:Nat} (hk:k<3) (ha:a<2):(Zh c0 c1 c2 m)[k*4+2+a]?=some (.int .i64 (m.2.2.2.getD (k*2+a) 0)):=by
 match k,hk,a,ha with
 | 0,_,0,_=>rfl
 | 1,_,0,_=>rfl
 | 2,_,0,_=>rfl
 | 0,_,1,_=>rfl
 | 1,_,1,_=>rfl
 | 2,_,1,_=>rfl
theorem Hn {a:Nat} (ha:a<4):(Zh c0 c1 c2 m)[12+a]?=some (.int .i64 (m.2.1.getD a 0)):=by
 match a,ha with
 | 0,_=>rfl
 | 1,_=>rfl
 | 2,_=>rfl
 | 3,_=>rfl
theorem Ri {a:Nat} (ha:a<2):(Zh c0 c1 c2 m)[16+a]?=some (.int .i64 (m.2.2.1.getD a 0)):=by
 match a,ha with
 | 0,_=>rfl
 | 1,_=>rfl
end

section
variable (c0 c1 c2 : Value) (m : V4) (h : Zk m = true)
include h
end

def Blk (w:World) (g:Nat) (t:TypeId) (cs:List Value):Prop:=w.heap[g]?=some (.cells cs.toArray t (0,0))
theorem Blk.lt {w:World} {g t:Nat} {cs:List Value} (h:Blk w g t cs):g<w.heap.size:=(Array.getElem?_eq_some_iff.1 h).1
theorem Blk.cell {w:World} {g t:Nat} {cs:List Value} (h:Blk w g t cs) (i:Nat):w.cell? ⟨g,i,none⟩=cs[i]?:=by
 unfold Blk at h
 simp [World.cell?,h]
theorem Blk.frozen {w:World} {g t:Nat} {cs:List Value} (h:Blk w g t cs) (i:Nat):w.frozen? ⟨g,i,none⟩=false:=by
 unfold Blk at h
 simp [World.frozen?,h]
theorem Blk.set {w:World} {g t:Nat} {cs:List Value} (h:Blk w g t cs) (i:Nat) (v:Value):Blk (w.setCell ⟨g,i,none⟩ v) g t (cs.set i v):=by
 have hl:=h.lt
 unfold Blk at h ⊢
 simp [World.setCell,Array.getElem?_modify,h]
theorem Blk.below {w w':World} {g t:Nat} {cs:List Value} (h:Blk w g t cs) (hb:Below w.heap.size w w'):Blk w' g t cs:=(hb.block g h.lt).trans h
theorem Blk.new (w:World) (t:Nat) (cs:List Value):Blk (w.alloc (.cells cs.toArray t)) w.heap.size t cs:=by
 show (w.heap.push _)[w.heap.size]?=_
 simp
theorem Blk.drew {w:World} {g t:Nat} {cs:List Value} (h:Blk w g t cs):Blk w.drew g t cs:=h
theorem Blk.drewN {w:World} {g t:Nat} {cs:List Value} (h:Blk w g t cs) (d:Nat):Blk (w.drewN d) g t cs:=h
theorem Blk.off {w:World} {g t:Nat} {cs:List Value} (h:Blk w g t cs) (p:Addr) (v:Value) (hp:g≠p.block):Blk (w.setCell p v) g t cs:=(Below.heap_setCell w p v g hp).trans h

set_option linter.unusedVariables false
set_option linter.unusedSimpArgs false

def GQ (t:Nat):Nat:=if t=2 then 2 else 3
def W7 (done:List (List I3)):Prop:=(∀ r ∈ done,ZO r=true)∧∀ t r,done[t]?=some r→r.length≤GQ t
theorem W7.nil:W7 []:=⟨(fun r hr=>by cases hr),(fun t r h=>by simp at h)⟩
theorem W7.snoc {done:List (List I3)} {xs:List I3} (h:W7 done) (h1:ZO xs=true) (h2:xs.length≤GQ done.length):W7 (done++[xs]):=by
 refine ⟨fun r hr=>?_,fun t r hr=>?_⟩
 ·rcases List.mem_append.1 hr with h' | h'
  ·exact h.1 r h'
  simp at h';subst h';exact h1
 by_cases ht:t<done.length
 ·rw [List.getElem?_append_left ht] at hr
  exact h.2 t r hr
 rw [List.getElem?_append_right (by omega)] at hr
 have hl:=(List.getElem?_eq_some_iff.1 hr).1
 simp at hl
 have e:t=done.length:=by omega
 subst e
 simp at hr
 subst hr
 exact h2
def JN (rows:List (List I3)):Prop:=(Yn rows 0).length≤3∧(Yn rows 1).length≤3∧(Yn rows 2).length≤2
theorem W7.small {rows:List (List I3)} (h:W7 rows) (hl:rows.length=3):JN rows:=by
 have hk:∀ k,k<3→(Yn rows k).length≤GQ k:=fun k hk=>h.2 k _ (by unfold Yn;rw [List.getD,List.getElem?_eq_getElem (show k<rows.length by omega)];rfl)
 exact ⟨hk 0 (by decide),hk 1 (by decide),hk 2 (by decide)⟩
def Tn (rows:List (List I3)):Prop:=Zn rows=true∧JN rows

theorem QA (p:Nat) (a:Option Addr) (n cap:Nat) (w:World) (hS:Src w p (.slice a n cap) 0) (hC:UK w p a n cap) :
  Calls Tryz.prog 52 #[.pointer (some ⟨p,0,none⟩)] w fun e w'=>(∃ (v:Value) (rows:List (List I3)),Tn rows∧e=.returned (.agg #[v])∧YX w' w.heap.size v rows)∧YA p w w':=by
 obtain ⟨i0,hi,hz0,hz1,hz2⟩:=info_parts RN
 obtain ⟨j0,hj,hy0,hy1,hy2⟩:=info_parts NA
 have hpl:=hS.lt
 have hpB:p<w.heap.size:=hS.lt
 go_enter Tryz.func52,Tryz.ntmps52
 go_wp2_with fail
 have hRr:(((w.alloc (.cells #[.slice none 0 0] 25)).alloc (.cells #[] 82)).alloc (.cells #[.slice (some ⟨w.heap.size+1,0,none⟩) 0 0] 25)).ownsRow w.heap.size 25 1 (.slice (some ⟨w.heap.size,0,none⟩) 1 1) 1 [.slice none 0 0]:=((JQ w (.slice none 0 0) 25 w.heap.size (Nat.le_refl _)).alloc _).alloc _
 have hV:(((w.alloc (.cells #[.slice none 0 0] 25)).alloc (.cells #[] 82)).alloc (.cells #[.slice (some ⟨w.heap.size+1,0,none⟩) 0 0] 25)).ownsRow w.heap.size 82 1 (.slice (some ⟨w.heap.size+1,0,none⟩) 0 0) 0 []:=by
  have h9:=(PE (w.alloc (.cells #[.slice none 0 0] 25)) 82 1 w.heap.size (by simp)).alloc (.cells #[.slice (some ⟨w.heap.size+1,0,none⟩) 0 0] 25)
  simp only [World.size_alloc] at h9
  exact h9
 have hX:(((w.alloc (.cells #[.slice none 0 0] 25)).alloc (.cells #[] 82)).alloc (.cells #[.slice (some ⟨w.heap.size+1,0,none⟩) 0 0] 25)).ownsRow w.heap.size 25 1 (.slice (some ⟨w.heap.size+1+1,0,none⟩) 1 1) 1 [.slice (some ⟨w.heap.size+1,0,none⟩) 0 0]:=by
  have h9:=JQ ((w.alloc (.cells #[.slice none 0 0] 25)).alloc (.cells #[] 82)) (.slice (some ⟨w.heap.size+1,0,none⟩) 0 0) 25 w.heap.size (by simp;omega)
  simp only [World.size_alloc] at h9
  exact h9
 have hWt:YA p w (((w.alloc (.cells #[.slice none 0 0] 25)).alloc (.cells #[] 82)).alloc (.cells #[.slice (some ⟨w.heap.size+1,0,none⟩) 0 0] 25)):=(((YA.refl p w).alloc _).alloc _).alloc _
 replace hC:=hC.below (((hWt.below (Nat.le_of_lt hpl))))
 replace hS:=((hS.alloc (.cells #[.slice none 0 0] 25)).alloc (.cells #[] 82)).alloc (.cells #[.slice (some ⟨w.heap.size+1,0,none⟩) 0 0] 25)
 replace hpl:p<(((w.alloc (.cells #[.slice none 0 0] 25)).alloc (.cells #[] 82)).alloc (.cells #[.slice (some ⟨w.heap.size+1,0,none⟩) 0 0] 25)).heap.size:=by simp;omega
 have hXw:w.heap.size<w.heap.size+1+1:=by omega
 generalize (((w.alloc (.cells #[.slice none 0 0] 25)).alloc (.cells #[] 82)).alloc (.cells #[.slice (some ⟨w.heap.size+1,0,none⟩) 0 0] 25))=w3 at hRr hV hX hWt hC hS hpl
 generalize w.heap.size+1+1=X at hX hXw
 generalize some (Addr.mk (w.heap.size+1) 0 none)=aV0 at hV hX
 go_loopw [4] (fun si wr=>∃ (k T:Nat) (done:List (List I3)) (vs:List Value) (aV:Option Addr) (capV:Nat),k≤3∧si=.int .i64 k∧T≤k*100∧done.length=k∧Hid (W7 done) ∧
   XR wr w.heap.size k vs done∧wr.ownsRow w.heap.size 82 1 (.slice aV k capV) k vs∧wr.ownsRow w.heap.size 25 1 (.slice (some ⟨X,0,none⟩) 1 1) 1 [.slice aV k capV]∧wr.ownsRow w.heap.size 25 1 (.slice (some ⟨w.heap.size,0,none⟩) 1 1) 1 [.slice none 0 0]∧Src wr p (.slice a n cap) T∧UK wr p a n cap∧p<wr.heap.size∧YA p w wr) (fun si _=>3 - (intOf si).toNat)
 case atStart=>exact ⟨0,0,[],[],aV0,0,by omega,rfl,by omega,rfl,W7.nil,⟨fun t ht=>by omega,fun t _ ht=>by omega⟩,hV,hX,hRr,hS,hC,hpl,hWt⟩
 case round =>
  clear hRr hV hX hWt hC hS hpl
  obtain ⟨k,T,done,vs,aV,capV,hk,rfl,hT,hdl,hok,hR,hV,hX,hRr,hS,hC,hpl,hWt⟩:=hrel
  by_cases hlt:k<3
  ·have hlt2:(k:Int)<3:=by omega
   have hk0:(0:Int)≤(k:Int):=by omega
   go_wp2_with fail
   refine (Yr p T a n cap 4 _ hS hC (by omega) (by omega)).mono ?_
   rintro e w4 ⟨⟨v1,hv1,rfl⟩,hSn,hWn⟩
   replace hS:=hSn
   replace hR:=hR.went hWn hpB
   replace hV:=ZF hV hWn hpB
   replace hX:=ZF hX hWn hpB
   replace hRr:=ZF hRr hWn hpB
   replace hC:=hC.went hWn (Nat.le_of_lt hpl)
   replace hpl:=Nat.lt_of_lt_of_le hpl hWn.size
   replace hWt:=hWt.trans hWn
   clear hSn hWn
   by_cases hk2:k=2
   ·have hk2':((k:Int) == 2)=true:=by subst hk2;rfl
    go_wp2_with fail
    refine (Yr p (T+3) a n cap 3 _ hS hC (by omega) (by omega)).mono ?_
    rintro e w5 ⟨⟨v2,hv2,rfl⟩,hSn,hWn⟩
    replace hS:=hSn
    replace hR:=hR.went hWn hpB
    replace hV:=ZF hV hWn hpB
    replace hX:=ZF hX hWn hpB
    replace hRr:=ZF hRr hWn hpB
    replace hC:=hC.went hWn (Nat.le_of_lt hpl)
    replace hpl:=Nat.lt_of_lt_of_le hpl hWn.size
    replace hWt:=hWt.trans hWn
    clear hSn hWn
    have hnn:v2≤3:=by omega
    have hn2:v2≤2:=by omega
    obtain ⟨nn,hnnd⟩:∃ nn:Nat,nn=v2:=⟨_,rfl⟩
    rw [← hnnd] at hnn hn2
    rw [← hnnd]
    have HK2:Hid (k=2):=hk2
    clear hnnd hv2 hv1 hk2 hk2'
    replace hS:=hS.mono (show T+3+3≤T+6 by omega)
    have hCo:=PE w5 159 3 w5.heap.size (Nat.le_refl _)
    have hWo:=(YA.refl p w5).alloc (.cells #[] 159)
    have hSo:=hS.alloc (.cells #[] 159)
    have hpo:p<(w5.alloc (.cells #[] 159)).heap.size:=by simp;omega
    have hCdo:=hC.below ((Below.refl p w5).alloc (Nat.le_of_lt hpl) (.cells #[] 159))
    go_wp2
    go_loopw [6,7] (fun sv si wi=>∃ (i:Nat) (xs:List I3),i≤nn∧si=.int .i64 i∧xs.length=i∧Hid (MV nn xs)∧wi.ownsRow w5.heap.size 159 3 sv i (Zo xs)∧Src wi p (.slice a n cap) (T+6+i*9)∧UK wi p a n cap∧p<wi.heap.size∧YA p w5 wi) (fun _ si _=>nn - (intOf si).toNat)
    case atStart=>exact ⟨0,[],by omega,rfl,rfl,(fun i hi=>by simp at hi),hCo,hSo,hCdo,hpo,hWo⟩
    case round =>
     clear hCo hWo hSo hpo hCdo
     obtain ⟨i,xs,hin,rfl,hxl,hxo,hr,hSi,hCi,hpi,hWi⟩:=hrel
     by_cases him:i<nn
     ·have him2:(i:Int)<(nn:Int):=by omega
      go_wp2_with fail
      refine (QR p (T+6+i*9) a n cap i nn _ hSi hCi (by omega) him hnn).mono ?_
      rintro e w6 ⟨⟨x,⟨hx1,hx2⟩,rfl⟩,hS6,hW6⟩
      have hxo2:Hid (MV nn (xs++[x])):=Q8 hxo.out hx1 (by rw [hxl];exact hx2)
      replace hr:=ZF hr hW6 hpl
      replace hCi:=hCi.went hW6 (Nat.le_of_lt hpi)
      replace hpi:=Nat.lt_of_lt_of_le hpi hW6.size
      replace hWi:=hWi.trans hW6
      have hbs6:=hWi.size
      clear hSi hW6 hx1 hx2 hxo
      have HXL:Hid (xs.length=i):=hxl
      clear hxl
      obtain ⟨x0,x1,x2⟩:=x
      unfold I3.val
      go_wp2_with (at_builtin;refine wpList_append_own _ rfl _ _ 82 rfl w5.heap.size 159 i0 (.agg #[.int .i64 0,.int .i64 0,.int .i64 0]) 3 24 Tryz.underlying82 hi hz0 hz1 hz2 rfl (by decide) _ _ _ rfl (hr.alloc _) ⟨w6.heap.size,0,none⟩ 1 1 [.int .i64 x0,.int .i64 x1,.int .i64 x2] rfl rfl (WL _ _ _ _ _) (Pm _ _ _) ?c3 ?c4 ?c5 ?_)
      case c3=>unfold maxLen;omega
      case c4=>omega
      case c5=>simp;omega
      intro v7 w7 hown7 hgrow7 _
      have hr7:w7.ownsRow w5.heap.size 159 3 v7 (i+1) (Zo (xs++[(x0,x1,x2)])):=by rw [QO];exact hown7
      have hW7:YA p w5 w7:=(hWi.alloc (.cells #[.int .i64 x0,.int .i64 x1,.int .i64 x2] 159)).grown hgrow7 (fun j hj=>(hr.lt _ hj).1)
      have hS7:=((hS6.alloc (.cells #[.int .i64 x0,.int .i64 x1,.int .i64 x2] 159)).grown hgrow7 (fun k e=>by have:=(hr.lt k e).1;omega)).mono (show T+6+i*9+9≤T+6+(i+1)*9 by omega)
      have hC7:=hCi.below ((((Below.refl p w6).alloc (Nat.le_of_lt hpi) (.cells #[.int .i64 x0,.int .i64 x1,.int .i64 x2] 159))).grown hgrow7 (by simp;omega) (fun j hj=>by have:=(hr.lt j hj).1;omega))
      have hp7:p<w7.heap.size:=by have:=hgrow7.size;simp at this;omega
      clear hown7 hgrow7 hr hWi hS6 hCi hpi
      go_wp2
      go_roundw
      case rel=>exact ⟨i+1,xs++[(x0,x1,x2)],by omega,by go_num,by simp [HXL.out],hxo2,hr7,hS7,hC7,hp7,hW7⟩
      case measure=>simp [intOf];omega
     obtain rfl:i=nn:=by omega
     have hcok:ZO xs=true:=QJ (by omega) (by rw [hxl];exact hxo.out)
     have hok2:Hid (W7 (done++[xs])):=W7.snoc hok.out hcok (by rw [hdl,HK2.out,hxl];exact hn2)
     obtain ⟨aC,capC,hv⟩:∃ aC capC,u6=.slice aC i capC:=by
      rcases hr.2 with ⟨hv,h0⟩ | ⟨g,cp,cur,hv,_⟩
      ·exact ⟨none,0,by rw [h0];exact hv⟩
      exact ⟨_,cp,hv⟩
     subst hv
     have hlow:∀ t x,t<k→(vs.getD t undef).ownBlock=some x→x<w5.heap.size:=fun t x ht hx=>((hR.1 t ht).lt x hx).2
     have hw5B:w.heap.size≤w5.heap.size:=hWt.size
     have hR':=hR.went hWi hpB
     have hV':=ZF hV hWi hpB
     have hX':=ZF hX hWi hpB
     have hRr':=ZF hRr hWi hpB
     have hWt':=hWt.trans hWi
     have hcX:wr.cell? ⟨X,0,none⟩=some (.slice aV k capV):=by simpa using hX'.cellAt 0 (by omega)
     have hbs8:=hWt'.size
     clear hR hV hX hRr hWt hWi hS hC hpl hok hxo hcok
     go_wp2_with (at_builtin;refine wpList_append_own _ rfl _ _ 23 rfl w.heap.size 82 j0 (.slice none 0 0) 1 24 Tryz.underlying23 hj hy0 hy1 hy2 rfl (by decide) _ _ _ rfl (hV'.alloc _) ⟨wr.heap.size,0,none⟩ 1 1 [.slice aC i capC] rfl rfl (R6 _ _ _) (LC _ _ _) ?c3 ?c4 ?c5 ?_)
     case c3=>unfold maxLen;omega
     case c4=>omega
     case c5=>simp;omega
     intro v8 w8 hown8 hgrow8 _
     have hA:=hr.alloc (.cells #[.slice aC i capC] 82)
     have hV2:=hV'.alloc (.cells #[.slice aC i capC] 82)
     have hC4:=hA.kept hgrow8 (Yh hA hV2 (by decide))
     have hR4:XR w8 w.heap.size k vs done:=⟨fun t ht=>((hR'.1 t ht).alloc _).kept hgrow8 (Yh ((hR'.1 t ht).alloc _) hV2 (by decide)),hR'.2⟩
     have hX4:=(hX'.alloc (.cells #[.slice aC i capC] 82)).kept hgrow8 (Yh (hX'.alloc _) hV2 (by decide))
     have hRr4:=(hRr'.alloc (.cells #[.slice aC i capC] 82)).kept hgrow8 (Yh (hRr'.alloc _) hV2 (by decide))
     have hW4:YA p w w8:=(hWt'.alloc (.cells #[.slice aC i capC] 82)).grown hgrow8 (fun j hj=>(hV'.lt _ hj).1)
     have hS4:=(hSi.alloc (.cells #[.slice aC i capC] 82)).grown hgrow8 (fun j e=>by have:=(hV'.lt j e).1;omega)
     have hCd4:=hCi.below (((Below.refl p wr).alloc (Nat.le_of_lt hpi) (.cells #[.slice aC i capC] 82)).grown hgrow8 (by simp;omega) (fun j hj=>by have:=(hV'.lt j hj).1;omega))
     have hp4:p<w8.heap.size:=by have:=hgrow8.size;simp at this;omega
     clear hA hV2 hV' hR' hX' hRr' hWt' hgrow8 hr hcX hSi hCi hpi
     obtain ⟨aW,capW,hv4⟩:∃ aW capW,v8=.slice aW (k+1) capW:=by
      rcases hown8.2 with ⟨hv,h0⟩ | ⟨g,cp,cur,hv,_⟩
      ·omega
      exact ⟨_,cp,hv⟩
     subst hv4
     have hlv:vs.length=k:=by have:=hown8.1;simp at this;omega
     have hpush:=hR4.push' (s0:=w5.heap.size) hlv hdl hlow (r:=xs) (sv:=.slice aC i capC) (by rw [hxl];exact hC4) hw5B
     have fX:=hX4.frozenAt 0
     have cX:w8.cell? ⟨X,0,none⟩=some (.slice aV k capV):=by simpa using hX4.cellAt 0 (by omega)
     have hX5:=(hX4.stored 0 (.slice aW (k+1) capW)).1
     have hV5:(w8.setCell ⟨X,0,none⟩ (.slice aW (k+1) capW)).ownsRow w.heap.size 82 1 (.slice aW (k+1) capW) (k+1) (vs++[.slice aC i capC]):=ownsRow_setCell_other hown8 (Vx hown8 hX4 (by decide)) _
     have hR5:XR (w8.setCell ⟨X,0,none⟩ (.slice aW (k+1) capW)) w.heap.size (k+1) (vs++[.slice aC i capC]) (done++[xs]):=⟨fun t ht=>ownsRow_setCell_other (hpush.1 t ht) (Vx (hpush.1 t ht) hX4 (by decide)) _,hpush.2⟩
     have hRr5:(w8.setCell ⟨X,0,none⟩ (.slice aW (k+1) capW)).ownsRow w.heap.size 25 1 (.slice (some ⟨w.heap.size,0,none⟩) 1 1) 1 [.slice none 0 0]:=ownsRow_setCell_other hRr4 (by simp [Value.ownBlock];omega) _
     have g5:=Zm w8 X 0 (.slice aW (k+1) capW)
     have hW5:=hW4.grown g5 (fun j e=>by cases e;omega)
     have hS5:=hS4.grown g5 (fun j e=>by cases e;omega)
     have hC5:=hCd4.below (ZU g5 (show p≤X by omega) (Nat.le_of_lt hp4))
     have hp5:p<(w8.setCell ⟨X,0,none⟩ (.slice aW (k+1) capW)).heap.size:=Nat.lt_of_lt_of_le hp4 g5.size
     simp only [List.set_cons_zero] at hX5
     clear hpush hX4 hown8 hR4 hRr4 hC4 hlow g5 hW4 hS4 hCd4 hp4
     have hdl2:(done++[xs]).length=k+1:=by simp [hdl]
     generalize done++[xs]=done2 at hok2 hR5 hdl2
     generalize vs++[.slice aC i capC]=vs2 at hV5 hR5
     go_wp2
     go_roundw
     case rel=>exact ⟨k+1,T+6+i*9,done2,vs2,aW,capW,by omega,(by first | go_num | (rw [HK2.out];rfl)),by omega,hdl2,hok2,hR5,hV5,hX5,hRr5,hS5,hC5,hp5,hW5⟩
     case measure=>have h9:=HK2.out;simp [intOf];omega
   have hk2':((k:Int) == 2)=false:=beq_eq_false_iff_ne.2 (by omega)
   have HK3:Hid (k≠2):=hk2
   have hnn:v1≤3:=by omega
   obtain ⟨nn,hnnd⟩:∃ nn:Nat,nn=v1:=⟨_,rfl⟩
   rw [← hnnd] at hnn
   rw [← hnnd]
   clear hnnd hv1
   replace hS:=hS.mono (show T+3≤T+6 by omega)
   obtain ⟨w5,hw5⟩:∃ w5,w5=w4:=⟨_,rfl⟩
   subst hw5
   have hCo:=PE w5 159 3 w5.heap.size (Nat.le_refl _)
   have hWo:=(YA.refl p w5).alloc (.cells #[] 159)
   have hSo:=hS.alloc (.cells #[] 159)
   have hpo:p<(w5.alloc (.cells #[] 159)).heap.size:=by simp;omega
   have hCdo:=hC.below ((Below.refl p w5).alloc (Nat.le_of_lt hpl) (.cells #[] 159))
   go_wp2
   go_loopw [6,7] (fun sv si wi=>∃ (i:Nat) (xs:List I3),i≤nn∧si=.int .i64 i∧xs.length=i∧Hid (MV nn xs)∧wi.ownsRow w5.heap.size 159 3 sv i (Zo xs)∧Src wi p (.slice a n cap) (T+6+i*9)∧UK wi p a n cap∧p<wi.heap.size∧YA p w5 wi) (fun _ si _=>nn - (intOf si).toNat)
   case atStart=>exact ⟨0,[],by omega,rfl,rfl,(fun i hi=>by simp at hi),hCo,hSo,hCdo,hpo,hWo⟩
   case round =>
    clear hCo hWo hSo hpo hCdo
    obtain ⟨i,xs,hin,rfl,hxl,hxo,hr,hSi,hCi,hpi,hWi⟩:=hrel
    by_cases him:i<nn
    ·have him2:(i:Int)<(nn:Int):=by omega
     go_wp2_with fail
     refine (QR p (T+6+i*9) a n cap i nn _ hSi hCi (by omega) him hnn).mono ?_
     rintro e w6 ⟨⟨x,⟨hx1,hx2⟩,rfl⟩,hS6,hW6⟩
     have hxo2:Hid (MV nn (xs++[x])):=Q8 hxo.out hx1 (by rw [hxl];exact hx2)
     replace hr:=ZF hr hW6 hpl
     replace hCi:=hCi.went hW6 (Nat.le_of_lt hpi)
     replace hpi:=Nat.lt_of_lt_of_le hpi hW6.size
     replace hWi:=hWi.trans hW6
     have hbs6:=hWi.size
     clear hSi hW6 hx1 hx2 hxo
     have HXL:Hid (xs.length=i):=hxl
     clear hxl
     obtain ⟨x0,x1,x2⟩:=x
     unfold I3.val
     go_wp2_with (at_builtin;refine wpList_append_own _ rfl _ _ 82 rfl w5.heap.size 159 i0 (.agg #[.int .i64 0,.int .i64 0,.int .i64 0]) 3 24 Tryz.underlying82 hi hz0 hz1 hz2 rfl (by decide) _ _ _ rfl (hr.alloc _) ⟨w6.heap.size,0,none⟩ 1 1 [.int .i64 x0,.int .i64 x1,.int .i64 x2] rfl rfl (WL _ _ _ _ _) (Pm _ _ _) ?c3 ?c4 ?c5 ?_)
     case c3=>unfold maxLen;omega
     case c4=>omega
     case c5=>simp;omega
     intro v7 w7 hown7 hgrow7 _
     have hr7:w7.ownsRow w5.heap.size 159 3 v7 (i+1) (Zo (xs++[(x0,x1,x2)])):=by rw [QO];exact hown7
     have hW7:YA p w5 w7:=(hWi.alloc (.cells #[.int .i64 x0,.int .i64 x1,.int .i64 x2] 159)).grown hgrow7 (fun j hj=>(hr.lt _ hj).1)
     have hS7:=((hS6.alloc (.cells #[.int .i64 x0,.int .i64 x1,.int .i64 x2] 159)).grown hgrow7 (fun k e=>by have:=(hr.lt k e).1;omega)).mono (show T+6+i*9+9≤T+6+(i+1)*9 by omega)
     have hC7:=hCi.below ((((Below.refl p w6).alloc (Nat.le_of_lt hpi) (.cells #[.int .i64 x0,.int .i64 x1,.int .i64 x2] 159))).grown hgrow7 (by simp;omega) (fun j hj=>by have:=(hr.lt j hj).1;omega))
     have hp7:p<w7.heap.size:=by have:=hgrow7.size;simp at this;omega
     clear hown7 hgrow7 hr hWi hS6 hCi hpi
     go_wp2
     go_roundw
     case rel=>exact ⟨i+1,xs++[(x0,x1,x2)],by omega,by go_num,by simp [HXL.out],hxo2,hr7,hS7,hC7,hp7,hW7⟩
     case measure=>simp [intOf];omega
    obtain rfl:i=nn:=by omega
    have hcok:ZO xs=true:=QJ (by omega) (by rw [hxl];exact hxo.out)
    have hok2:Hid (W7 (done++[xs])):=W7.snoc hok.out hcok (by rw [hdl,hxl];unfold GQ;rw [if_neg HK3.out];exact hnn)
    obtain ⟨aC,capC,hv⟩:∃ aC capC,u6=.slice aC i capC:=by
     rcases hr.2 with ⟨hv,h0⟩ | ⟨g,cp,cur,hv,_⟩
     ·exact ⟨none,0,by rw [h0];exact hv⟩
     exact ⟨_,cp,hv⟩
    subst hv
    have hlow:∀ t x,t<k→(vs.getD t undef).ownBlock=some x→x<w5.heap.size:=fun t x ht hx=>((hR.1 t ht).lt x hx).2
    have hw5B:w.heap.size≤w5.heap.size:=hWt.size
    have hR':=hR.went hWi hpB
    have hV':=ZF hV hWi hpB
    have hX':=ZF hX hWi hpB
    have hRr':=ZF hRr hWi hpB
    have hWt':=hWt.trans hWi
    have hcX:wr.cell? ⟨X,0,none⟩=some (.slice aV k capV):=by simpa using hX'.cellAt 0 (by omega)
    have hbs8:=hWt'.size
    clear hR hV hX hRr hWt hWi hS hC hpl hok hxo hcok
    go_wp2_with (at_builtin;refine wpList_append_own _ rfl _ _ 23 rfl w.heap.size 82 j0 (.slice none 0 0) 1 24 Tryz.underlying23 hj hy0 hy1 hy2 rfl (by decide) _ _ _ rfl (hV'.alloc _) ⟨wr.heap.size,0,none⟩ 1 1 [.slice aC i capC] rfl rfl (R6 _ _ _) (LC _ _ _) ?c3 ?c4 ?c5 ?_)
    case c3=>unfold maxLen;omega
    case c4=>omega
    case c5=>simp;omega
    intro v8 w8 hown8 hgrow8 _
    have hA:=hr.alloc (.cells #[.slice aC i capC] 82)
    have hV2:=hV'.alloc (.cells #[.slice aC i capC] 82)
    have hC4:=hA.kept hgrow8 (Yh hA hV2 (by decide))
    have hR4:XR w8 w.heap.size k vs done:=⟨fun t ht=>((hR'.1 t ht).alloc _).kept hgrow8 (Yh ((hR'.1 t ht).alloc _) hV2 (by decide)),hR'.2⟩
    have hX4:=(hX'.alloc (.cells #[.slice aC i capC] 82)).kept hgrow8 (Yh (hX'.alloc _) hV2 (by decide))
    have hRr4:=(hRr'.alloc (.cells #[.slice aC i capC] 82)).kept hgrow8 (Yh (hRr'.alloc _) hV2 (by decide))
    have hW4:YA p w w8:=(hWt'.alloc (.cells #[.slice aC i capC] 82)).grown hgrow8 (fun j hj=>(hV'.lt _ hj).1)
    have hS4:=(hSi.alloc (.cells #[.slice aC i capC] 82)).grown hgrow8 (fun j e=>by have:=(hV'.lt j e).1;omega)
    have hCd4:=hCi.below (((Below.refl p wr).alloc (Nat.le_of_lt hpi) (.cells #[.slice aC i capC] 82)).grown hgrow8 (by simp;omega) (fun j hj=>by have:=(hV'.lt j hj).1;omega))
    have hp4:p<w8.heap.size:=by have:=hgrow8.size;simp at this;omega
    clear hA hV2 hV' hR' hX' hRr' hWt' hgrow8 hr hcX hSi hCi hpi
    obtain ⟨aW,capW,hv4⟩:∃ aW capW,v8=.slice aW (k+1) capW:=by
     rcases hown8.2 with ⟨hv,h0⟩ | ⟨g,cp,cur,hv,_⟩
     ·omega
     exact ⟨_,cp,hv⟩
    subst hv4
    have hlv:vs.length=k:=by have:=hown8.1;simp at this;omega
    have hpush:=hR4.push' (s0:=w5.heap.size) hlv hdl hlow (r:=xs) (sv:=.slice aC i capC) (by rw [hxl];exact hC4) hw5B
    have fX:=hX4.frozenAt 0
    have cX:w8.cell? ⟨X,0,none⟩=some (.slice aV k capV):=by simpa using hX4.cellAt 0 (by omega)
    have hX5:=(hX4.stored 0 (.slice aW (k+1) capW)).1
    have hV5:(w8.setCell ⟨X,0,none⟩ (.slice aW (k+1) capW)).ownsRow w.heap.size 82 1 (.slice aW (k+1) capW) (k+1) (vs++[.slice aC i capC]):=ownsRow_setCell_other hown8 (Vx hown8 hX4 (by decide)) _
    have hR5:XR (w8.setCell ⟨X,0,none⟩ (.slice aW (k+1) capW)) w.heap.size (k+1) (vs++[.slice aC i capC]) (done++[xs]):=⟨fun t ht=>ownsRow_setCell_other (hpush.1 t ht) (Vx (hpush.1 t ht) hX4 (by decide)) _,hpush.2⟩
    have hRr5:(w8.setCell ⟨X,0,none⟩ (.slice aW (k+1) capW)).ownsRow w.heap.size 25 1 (.slice (some ⟨w.heap.size,0,none⟩) 1 1) 1 [.slice none 0 0]:=ownsRow_setCell_other hRr4 (by simp [Value.ownBlock];omega) _
    have g5:=Zm w8 X 0 (.slice aW (k+1) capW)
    have hW5:=hW4.grown g5 (fun j e=>by cases e;omega)
    have hS5:=hS4.grown g5 (fun j e=>by cases e;omega)
    have hC5:=hCd4.below (ZU g5 (show p≤X by omega) (Nat.le_of_lt hp4))
    have hp5:p<(w8.setCell ⟨X,0,none⟩ (.slice aW (k+1) capW)).heap.size:=Nat.lt_of_lt_of_le hp4 g5.size
    simp only [List.set_cons_zero] at hX5
    clear hpush hX4 hown8 hR4 hRr4 hC4 hlow g5 hW4 hS4 hCd4 hp4
    have hdl2:(done++[xs]).length=k+1:=by simp [hdl]
    generalize done++[xs]=done2 at hok2 hR5 hdl2
    generalize vs++[.slice aC i capC]=vs2 at hV5 hR5
    go_wp2
    go_roundw
    case rel=>exact ⟨k+1,T+6+i*9,done2,vs2,aW,capW,by omega,by go_num,by omega,hdl2,hok2,hR5,hV5,hX5,hRr5,hS5,hC5,hp5,hW5⟩
    case measure=>simp [intOf];omega
  obtain rfl:k=3:=by omega
  have hp3:Tn done:=⟨Ja hdl hok.out.1,W7.small hok.out hdl⟩
  have HP:Hid (Tn done):=hp3
  have hcX:wr.cell? ⟨X,0,none⟩=some (.slice aV 3 capV):=by simpa using hX.cellAt 0 (by omega)
  have kR:wr.cell? ⟨w.heap.size,0,none⟩=some (.slice none 0 0):=by simpa using hRr.cellAt 0 (by omega)
  have fR:=hRr.frozenAt 0
  have hOP:YX (wr.setCell ⟨w.heap.size,0,none⟩ (.slice aV 3 capV)) w.heap.size (.slice aV 3 capV) done:=⟨vs,by rw [hdl];exact ownsRow_setCell_other hV (Vx hV hRr (by decide)) _,by have:=hV.1;omega,fun t ht=>ownsRow_setCell_other (hR.1 t (by omega)) (Vx (hR.1 t (by omega)) hRr (by decide)) _,fun t t' ht ht'=>hR.2 t t' (by omega) (by omega)⟩
  have g9:=Zm wr w.heap.size 0 (.slice aV 3 capV)
  have hb9:YA p w (wr.setCell ⟨w.heap.size,0,none⟩ (.slice aV 3 capV)):=hWt.grown g9 (fun k e=>by cases e;exact Nat.le_refl _)
  have k3:(wr.setCell ⟨w.heap.size,0,none⟩ (.slice aV 3 capV)).cell? ⟨w.heap.size,0,none⟩=some (.slice aV 3 capV):=World.cell?_setCell_same' _ _ _ (by rw [kR];rfl)
  clear hRr hR hV hX hS hC hWt g9 hp3 hok
  go_wp2
  clear kR fR hcX
  generalize wr.setCell ⟨w.heap.size,0,none⟩ (.slice aV 3 capV)=w9 at hb9 k3 hOP
  refine bodyPost_ret (by simp [results,Tryz.results52,go_sem,k3];try rfl) rfl ?_
  exact ⟨⟨_,done,HP.out,rfl,hOP⟩,hb9⟩


theorem Z4 {w:World} (n:Nat):Below w.heap.size w (w.drewN n):=⟨rfl,rfl,rfl,Nat.le_refl _,fun _ _=>rfl⟩

theorem Ra (g o:Nat) (a:Option Addr) (n c:Nat) (pc:Int) (w:World) (h0:w.cell? ⟨g,o,none⟩=some (.slice a n c)) (h1:w.cell? ⟨g,o+1,none⟩=some (.int .i64 pc)) :
  Calls Tryz.prog 74 #[.pointer (some ⟨g,o,none⟩)] w fun e w'=>e=.returned (.bool (decide ((n:Int)≤pc)))∧∃ d,w'=w.drewN d:=by
 obtain ⟨x,hx⟩:∃ x,x=decide ((n:Int)≤pc):=⟨_,rfl⟩
 have hd:decide ((n:Int)≤pc)=x:=hx.symm
 rw [← hx]
 clear hx
 go_enter Tryz.func74,Tryz.ntmps74
 go_wp2_with fail
 go_quiet (fail)
 go_wp2
 go_ret
 exact ⟨rfl,_,rfl⟩

theorem Lg (g k:Nat) (a:Option Addr) (n c:Nat) (pc:Int) (w:World) (hk:k<3) (h0:w.cell? ⟨g,k*4,none⟩=some (.slice a n c)) (h1:w.cell? ⟨g,k*4+1,none⟩=some (.int .i64 pc)) (hd:(n:Int)≤pc) :
  Calls Tryz.prog 75 #[.pointer (some ⟨g,0,none⟩),.int .i64 k] w fun e w'=>e=.returned (.bool false)∧Below w.heap.size w w':=by
 have kD:=Ra g (k*4) a n c pc w h0 h1
 rw [decide_eq_true hd] at kD
 have hk3:(k:Int)<3:=by omega
 go_enter Tryz.func75,Tryz.ntmps75
 go_wp2_with fail
 refine kD.mono ?_
 rintro e w1 ⟨rfl,d,rfl⟩
 go_wp2
 go_ret
 exact ⟨rfl,Z4 _⟩

theorem Lh (g k p b off:Nat) (n c:Nat) (x0 x1 x2:Int) (w:World) (hk:k<3) (hd:p<n)
  (h0:w.cell? ⟨g,k*4,none⟩=some (.slice (some ⟨b,off,none⟩) n c)) (h1:w.cell? ⟨g,k*4+1,none⟩=some (.int .i64 p)) (c0:w.cell? ⟨b,off+p*3,none⟩=some (.int .i64 x0)) (c1:w.cell? ⟨b,off+p*3+1,none⟩=some (.int .i64 x1)) (c2:w.cell? ⟨b,off+p*3+2,none⟩=some (.int .i64 x2)) (hx:x0≠5) :
  Calls Tryz.prog 75 #[.pointer (some ⟨g,0,none⟩),.int .i64 k] w fun e w'=>e=.returned (.bool false)∧Below w.heap.size w w':=by
 have kD:=Ra g (k*4) (some ⟨b,off,none⟩) n c p w h0 h1
 rw [decide_eq_false (by omega)] at kD
 have hk3:(k:Int)<3:=by omega
 have hpn:(p:Int)<(n:Int):=by omega
 go_enter Tryz.func75,Tryz.ntmps75
 go_wp2_with fail
 refine kD.mono ?_
 rintro e w1 ⟨rfl,d,rfl⟩
 clear kD
 go_wp2_with fail
 replace h0:(w.drewN d).cell? ⟨g,k*4,none⟩=some (.slice (some ⟨b,off,none⟩) n c):=h0
 replace h1:(w.drewN d).cell? ⟨g,k*4+1,none⟩=some (.int .i64 p):=h1
 replace c0:(w.drewN d).cell? ⟨b,off+p*3,none⟩=some (.int .i64 x0):=c0
 replace c1:(w.drewN d).cell? ⟨b,off+p*3+1,none⟩=some (.int .i64 x1):=c1
 replace c2:(w.drewN d).cell? ⟨b,off+p*3+2,none⟩=some (.int .i64 x2):=c2
 have bw:Below w.heap.size w (w.drewN d):=Z4 _
 generalize w.drewN d=W at *
 refine wp_region_held_drew (S:=(fun w'=>w'.cell? ⟨g,k*4,none⟩=some (.slice (some ⟨b,off,none⟩) n c)∧w'.cell? ⟨g,k*4+1,none⟩=some (.int .i64 p)∧w'.cell? ⟨b,off+p*3,none⟩=some (.int .i64 x0)∧w'.cell? ⟨b,off+p*3+1,none⟩=some (.int .i64 x1)∧w'.cell? ⟨b,off+p*3+2,none⟩=some (.int .i64 x2))) (by kernel_rfl) ⟨h0,h1,c0,c1,c2⟩ (fun hS0=>?_)
 refine tkm 0 14 (.pointer (some ⟨g,k*4,none⟩)) ?_
 refine tkm 1 15 (.pointer (some ⟨g,k*4,none⟩)) ?_
 refine tkm 2 16 (.pointer (some ⟨g,k*4,none⟩)) ?_
 refine tkm 3 17 (.slice (some ⟨b,off,none⟩) n c) ?_
 refine tkm 4 18 (.pointer (some ⟨g,k*4,none⟩)) ?_
 refine tkm 5 19 (.pointer (some ⟨g,k*4,none⟩)) ?_
 refine tkm 6 20 (.pointer (some ⟨g,k*4+1,none⟩)) ?_
 refine tkm 7 21 (.int .i64 p) ?_
 refine tkm 8 22 (.pointer (some ⟨b,off+p*3,none⟩)) ?_
 refine tkm 9 23 (.agg #[.int .i64 x0,.int .i64 x1,.int .i64 x2]) ?_
 refine tkr 10 6 (fun K hK=>?_)
 have hal:Below W.drew.heap.size W.drew (W.drew.alloc (.cells #[.int .i64 0,.int .i64 0,.int .i64 0] 159)):=by go_grown
 go_simp
 refine hK.out _ _ ?_ (fun hS1=>?_)
 ·exact ⟨Za hal _ _ hS0.1,Za hal _ _ hS0.2.1,Za hal _ _ hS0.2.2.1,Za hal _ _ hS0.2.2.2.1,Za hal _ _ hS0.2.2.2.2⟩
 clear hK
 try simp only [Act.put,tka,tkb,tkc]
 refine tkz 11 (fun K hK=>?_)
 have hal2:Below W.drew.heap.size W.drew (W.drew.alloc (.cells #[.int .i64 x0,.int .i64 x1,.int .i64 x2] 159)):=by go_grown
 go_simp
 refine hK.out _ _ ?_ (fun hS2=>?_)
 ·exact ⟨Za hal2 _ _ hS0.1,Za hal2 _ _ hS0.2.1,Za hal2 _ _ hS0.2.2.1,Za hal2 _ _ hS0.2.2.2.1,Za hal2 _ _ hS0.2.2.2.2⟩
 clear hK
 try simp only [Act.put,tka,tkb,tkc]
 refine wpAnyH_done (by kernel_rfl) ?_ _
 replace bw:Below w.heap.size w (W.alloc (.cells #[.int .i64 x0,.int .i64 x1,.int .i64 x2] 159)).drew:=Zb bw (by go_grown)
 have pX:Blk (W.alloc (.cells #[.int .i64 x0,.int .i64 x1,.int .i64 x2] 159)).drew W.heap.size 159 [.int .i64 x0,.int .i64 x1,.int .i64 x2]:=Blk.new W 159 [.int .i64 x0,.int .i64 x1,.int .i64 x2]
 have q0:=pX.cell 0
 have q1:=pX.cell 1
 simp only [List.getElem?_cons_zero,List.getElem?_cons_succ] at q0 q1
 clear hal hal2 hS0 hS1 h0 h1 c0 c1 c2 pX
 clear hS2
 have hx5:(x0 == 5)=false:=by simp [hx]
 go_wp2_with fail
 generalize (W.alloc (.cells #[.int .i64 x0,.int .i64 x1,.int .i64 x2] 159)).drew=W2 at *
 generalize W.heap.size=gx at *
 go_quiet (fail)
 have bz:Below w.heap.size w (W2.drewN nq):=Zb bw (Z4 _)
 go_wp2
 go_ret
 exact ⟨rfl,bz⟩

theorem Li (g k p b off:Nat) (n c:Nat) (x2:Int) (q:Nat) (hv:Int) (w:World) (hk:k<3) (hd:p<n)
  (h0:w.cell? ⟨g,k*4,none⟩=some (.slice (some ⟨b,off,none⟩) n c)) (h1:w.cell? ⟨g,k*4+1,none⟩=some (.int .i64 p)) (c0:w.cell? ⟨b,off+p*3,none⟩=some (.int .i64 5)) (c1:w.cell? ⟨b,off+p*3+1,none⟩=some (.int .i64 q)) (c2:w.cell? ⟨b,off+p*3+2,none⟩=some (.int .i64 x2)) (h6:w.cell? ⟨g,16+q,none⟩=some (.int .i64 hv)) (hq:q<2) (z:Bool) (hz:z=!decide (hv=0)) :
  Calls Tryz.prog 75 #[.pointer (some ⟨g,0,none⟩),.int .i64 k] w fun e w'=>e=.returned (.bool z)∧Below w.heap.size w w':=by
 have kD:=Ra g (k*4) (some ⟨b,off,none⟩) n c p w h0 h1
 rw [decide_eq_false (by omega)] at kD
 have hk3:(k:Int)<3:=by omega
 have hpn:(p:Int)<(n:Int):=by omega
 go_enter Tryz.func75,Tryz.ntmps75
 go_wp2_with fail
 refine kD.mono ?_
 rintro e w1 ⟨rfl,d,rfl⟩
 clear kD
 go_wp2_with fail
 replace h0:(w.drewN d).cell? ⟨g,k*4,none⟩=some (.slice (some ⟨b,off,none⟩) n c):=h0
 replace h1:(w.drewN d).cell? ⟨g,k*4+1,none⟩=some (.int .i64 p):=h1
 replace c0:(w.drewN d).cell? ⟨b,off+p*3,none⟩=some (.int .i64 5):=c0
 replace c1:(w.drewN d).cell? ⟨b,off+p*3+1,none⟩=some (.int .i64 q):=c1
 replace c2:(w.drewN d).cell? ⟨b,off+p*3+2,none⟩=some (.int .i64 x2):=c2
 replace h6:(w.drewN d).cell? ⟨g,16+q,none⟩=some (.int .i64 hv):=h6
 have bw:Below w.heap.size w (w.drewN d):=Z4 _
 generalize w.drewN d=W at *
 refine wp_region_held_drew (S:=(fun w'=>w'.cell? ⟨g,k*4,none⟩=some (.slice (some ⟨b,off,none⟩) n c)∧w'.cell? ⟨g,k*4+1,none⟩=some (.int .i64 p)∧w'.cell? ⟨b,off+p*3,none⟩=some (.int .i64 5)∧w'.cell? ⟨b,off+p*3+1,none⟩=some (.int .i64 q)∧w'.cell? ⟨b,off+p*3+2,none⟩=some (.int .i64 x2)∧w'.cell? ⟨g,16+q,none⟩=some (.int .i64 hv))) (by kernel_rfl) ⟨h0,h1,c0,c1,c2,h6⟩ (fun hS0=>?_)
 refine tkm 0 14 (.pointer (some ⟨g,k*4,none⟩)) ?_
 refine tkm 1 15 (.pointer (some ⟨g,k*4,none⟩)) ?_
 refine tkm 2 16 (.pointer (some ⟨g,k*4,none⟩)) ?_
 refine tkm 3 17 (.slice (some ⟨b,off,none⟩) n c) ?_
 refine tkm 4 18 (.pointer (some ⟨g,k*4,none⟩)) ?_
 refine tkm 5 19 (.pointer (some ⟨g,k*4,none⟩)) ?_
 refine tkm 6 20 (.pointer (some ⟨g,k*4+1,none⟩)) ?_
 refine tkm 7 21 (.int .i64 p) ?_
 refine tkm 8 22 (.pointer (some ⟨b,off+p*3,none⟩)) ?_
 refine tkm 9 23 (.agg #[.int .i64 5,.int .i64 q,.int .i64 x2]) ?_
 refine tkr 10 6 (fun K hK=>?_)
 have hal:Below W.drew.heap.size W.drew (W.drew.alloc (.cells #[.int .i64 0,.int .i64 0,.int .i64 0] 159)):=by go_grown
 go_simp
 refine hK.out _ _ ?_ (fun hS1=>?_)
 ·exact ⟨Za hal _ _ hS0.1,Za hal _ _ hS0.2.1,Za hal _ _ hS0.2.2.1,Za hal _ _ hS0.2.2.2.1,Za hal _ _ hS0.2.2.2.2.1,Za hal _ _ hS0.2.2.2.2.2⟩
 clear hK
 try simp only [Act.put,tka,tkb,tkc]
 refine tkz 11 (fun K hK=>?_)
 have hal2:Below W.drew.heap.size W.drew (W.drew.alloc (.cells #[.int .i64 5,.int .i64 q,.int .i64 x2] 159)):=by go_grown
 go_simp
 refine hK.out _ _ ?_ (fun hS2=>?_)
 ·exact ⟨Za hal2 _ _ hS0.1,Za hal2 _ _ hS0.2.1,Za hal2 _ _ hS0.2.2.1,Za hal2 _ _ hS0.2.2.2.1,Za hal2 _ _ hS0.2.2.2.2.1,Za hal2 _ _ hS0.2.2.2.2.2⟩
 clear hK
 try simp only [Act.put,tka,tkb,tkc]
 refine wpAnyH_done (by kernel_rfl) ?_ _
 replace bw:Below w.heap.size w (W.alloc (.cells #[.int .i64 5,.int .i64 q,.int .i64 x2] 159)).drew:=Zb bw (by go_grown)
 have pX:Blk (W.alloc (.cells #[.int .i64 5,.int .i64 q,.int .i64 x2] 159)).drew W.heap.size 159 [.int .i64 5,.int .i64 q,.int .i64 x2]:=Blk.new W 159 [.int .i64 5,.int .i64 q,.int .i64 x2]
 have q0:=pX.cell 0
 have q1:=pX.cell 1
 simp only [List.getElem?_cons_zero,List.getElem?_cons_succ] at q0 q1
 clear hal hal2 hS0 hS1 h0 h1 c0 c1 c2 h6 pX
 replace hS2:=hS2.2.2.2.2.2
 have hq2:(q:Int)<2:=by omega
 have hv0:(hv != 0)=z:=by rw [hz];by_cases h:hv=0<;>simp [h]
 clear hz
 go_wp2_with fail
 generalize (W.alloc (.cells #[.int .i64 5,.int .i64 q,.int .i64 x2] 159)).drew=W2 at *
 generalize W.heap.size=gx at *
 go_quiet (fail)
 have bz:Below w.heap.size w (W2.drewN nq):=Zb bw (Z4 _)
 go_wp2
 go_ret
 exact ⟨rfl,bz⟩

def slK (cs:Sl × Sl × Sl):Nat→Sl
 | 0=>cs.1
 | 1=>cs.2.1
 | _=>cs.2.2
def Yk (w:World) (g:Nat) (cs:Sl × Sl × Sl) (rows:List (List I3)) (m:V4):Prop:=
 Blk w g 89 (Zh cs.1.val cs.2.1.val cs.2.2.val m)∧∀ k,k<3→ZL w (slK cs k).1 (slK cs k).2.1 (slK cs k).2.2 (Yn rows k)
theorem Yk.below {w w':World} {g:Nat} {cs:Sl × Sl × Sl} {rows:List (List I3)} {m:V4} (h:Yk w g cs rows m) (hb:Below w.heap.size w w'):Yk w' g cs rows m:=⟨h.1.below hb,fun k hk=>(h.2 k hk).below hb⟩
theorem JU (cs:Sl × Sl × Sl) {k:Nat} (hk:k<3):Fr cs.1.val cs.2.1.val cs.2.2.val k=(slK cs k).val:=by
 match k,hk with
 | 0,_=>rfl
 | 1,_=>rfl
 | 2,_=>rfl
theorem Yk.code {w:World} {g:Nat} {cs:Sl × Sl × Sl} {rows:List (List I3)} {m:V4} (h:Yk w g cs rows m) {k:Nat} (hk:k<3):w.cell? ⟨g,k*4,none⟩=some (.slice (slK cs k).1 (slK cs k).2.1 (slK cs k).2.2):=by
 rw [h.1.cell,G2 _ _ _ _ hk,JU cs hk];rfl
theorem Yk.pc {w:World} {g:Nat} {cs:Sl × Sl × Sl} {rows:List (List I3)} {m:V4} (h:Yk w g cs rows m) {k:Nat} (hk:k<3):w.cell? ⟨g,k*4+1,none⟩=some (.int .i64 (m.1.getD k 0)):=by
 rw [h.1.cell,Fw _ _ _ _ hk]
theorem Yk.held {w:World} {g:Nat} {cs:Sl × Sl × Sl} {rows:List (List I3)} {m:V4} (h:Yk w g cs rows m) {a:Nat} (ha:a<2):w.cell? ⟨g,16+a,none⟩=some (.int .i64 (m.2.2.1.getD a 0)):=by
 rw [h.1.cell,Ri _ _ _ _ ha]

theorem Sg {w:World} {a:Option Addr} {n c:Nat} {xs:List I3} (h:ZL w a n c xs) {p:Nat} (hp:p<xs.length):∃ b off,a=some ⟨b,off,none⟩∧p<n ∧
  w.cell? ⟨b,off+p*3,none⟩=some (.int .i64 (xs.getD p (0,0,0)).1)∧w.cell? ⟨b,off+p*3+1,none⟩=some (.int .i64 (xs.getD p (0,0,0)).2.1)∧w.cell? ⟨b,off+p*3+2,none⟩=some (.int .i64 (xs.getD p (0,0,0)).2.2):=by
 obtain ⟨hl,_,_,_,h0 | ⟨b,off,ha,_,hc⟩⟩:=h
 ·omega
 exact ⟨b,off,ha,by omega,hc p (by omega)⟩
theorem WD {rows:List (List I3)} (hp:Zn rows=true) {k:Nat} (hk:k<3):(Yn rows k).length≤6∧∀ x ∈ Yn rows k,okI x=true:=by
 obtain ⟨h3,hr⟩:=Xb hp
 exact hr _ (by unfold Yn;simp [List.getD,show k<rows.length by omega])
theorem X4 {rows:List (List I3)} {m:V4} (hp:Zn rows=true) (hs:Zk m=true) {k:Nat} (hk:k<3) (hd:Z2 rows m k=false):∃ p:Nat,m.1.getD k 0=p∧p<(Yn rows k).length∧Ys rows m k=(Yn rows k).getD p (0,0,0)∧okI (Ys rows m k)=true:=by
 have hb:=Xq (Yi hs).1 (by decide) k
 unfold Z2 at hd
 simp only [decide_eq_false_iff_not] at hd
 have e:m.1.getD k 0=((m.1.getD k 0).toNat:Int):=by omega
 refine ⟨(m.1.getD k 0).toNat,e,by omega,rfl,?_⟩
 refine (WD hp hk).2 _ ?_
 unfold Ys
 have hlt:(m.1.getD k 0).toNat<(Yn rows k).length:=by omega
 rw [List.getD,List.getElem?_eq_getElem hlt,Option.getD_some]
 exact List.getElem_mem hlt
theorem NY {x:I3} (h:okI x=true) (h5:x.1=5):∃ q:Nat,x.2.1=q∧q<2:=by
 unfold okI at h
 simp only [h5] at h
 have h2:inB x.2.1 0 1=true:=by
  have:=h
  simp at this
  exact this.1
 rw [ZE] at h2
 exact ⟨x.2.1.toNat,by omega,by omega⟩

theorem Nl {w:World} {g:Nat} {cs:Sl × Sl × Sl} {rows:List (List I3)} {m:V4} (h:Yk w g cs rows m) {k:Nat} (hk:k<3) :
  Calls Tryz.prog 74 #[.pointer (some ⟨g,k*4,none⟩)] w fun e w'=>e=.returned (.bool (Z2 rows m k))∧∃ d,w'=w.drewN d:=by
 have hl:=(h.2 k hk).1
 have:=Ra g (k*4) _ _ _ _ w (h.code hk) (h.pc hk)
 unfold Z2
 rw [hl]
 exact this

theorem GK {w:World} {g:Nat} {cs:Sl × Sl × Sl} {rows:List (List I3)} {m:V4} (h:Yk w g cs rows m) (hp:Zn rows=true) (hs:Zk m=true) {k:Nat} (hk:k<3) :
  Calls Tryz.prog 75 #[.pointer (some ⟨g,0,none⟩),.int .i64 k] w fun e w'=>e=.returned (.bool (Qt rows m k))∧Below w.heap.size w w':=by
 unfold Qt
 cases hd:Z2 rows m k
 ·obtain ⟨p,ep,hlt,hi,hok⟩:=X4 hp hs hk hd
  have h0:=h.code hk
  have h1:=h.pc hk
  rw [ep] at h1
  obtain ⟨b,off,ea,hpn,c0,c1,c2⟩:=Sg (h.2 k hk) hlt
  rw [← hi] at c0 c1 c2
  rw [ea] at h0
  by_cases h5:(Ys rows m k).1=5
  ·obtain ⟨q,hq,hq2⟩:=NY hok h5
   rw [h5] at c0
   rw [hq] at c1
   have hh:=h.held hq2
   have e:XT m (Ys rows m k)=!decide (m.2.2.1.getD q 0=0):=by
    unfold XT
    rw [h5,hq]
    simp
   rw [e]
   exact Li g k p b off _ _ _ q _ w hk hpn h0 h1 c0 c1 c2 hh hq2 _ rfl
  have e:XT m (Ys rows m k)=false:=by unfold XT;simp [h5]
  rw [e]
  exact Lh g k p b off _ _ _ _ _ w hk hpn h0 h1 c0 c1 c2 h5
 have h0:=h.code hk
 have h1:=h.pc hk
 unfold Z2 at hd
 simp only [decide_eq_true_eq] at hd
 rw [(h.2 k hk).1] at hd
 exact Lg g k _ _ _ _ w hk h0 h1 hd
end Go.Proofs.YtifoggpohlegmaaGreatDoor
