/-
  Joined: Vm3, Conv, Parts, Vm4, BlkT, Mach0, MrkT, CopyG.
-/
import Derived.Laws.BytesArg
import Derived.Deep.RegionLaw
import Derived.Laws.OwnMore
import Derived.Laws.CopyOwn
import Derived.Laws.Tables
import Derived.Test.YtmhlokahmblboaaGreatDoorQ05
import Derived.Test.YtmhlokahmblboaaGreatDoorQ07

namespace Go.Proofs.YtmhlokahmblboaaGreatDoor
set_option maxRecDepth 100000
set_option maxHeartbeats 16000000
open Go.RowKit

def Yz (zs:List Int) (n high:Int):Bool:=zs.all (fun z=>decide (0≤z∧z≤high)) && decide ((zs.length:Int)=n)
def Ze (m:V4):Bool:=Yz m.1 3 6 && (Yz m.2.1 4 9 && (Yz m.2.2.1 2 3 && Yz m.2.2.2 6 9))
theorem Ni {zs:List Int} {n high:Int} {k:Nat} (hk:k<zs.length) (h:¬ (0≤zs.getD k 0∧zs.getD k 0≤high)):Yz zs n high=false:=by
 unfold Yz
 have:zs.all (fun z=>decide (0≤z∧z≤high))=false:=by
  rw [List.all_eq_false]
  refine ⟨zs.getD k 0,by simp [List.getD,hk],?_⟩
  simpa using h
 rw [this];rfl
theorem QI {zs:List Int} {n high:Int} (h:∀ i,i<zs.length→0≤zs.getD i 0∧zs.getD i 0≤high):Yz zs n high=decide ((zs.length:Int)=n):=by
 unfold Yz
 have:zs.all (fun z=>decide (0≤z∧z≤high))=true:=by
  rw [List.all_eq_true]
  intro z hz
  obtain ⟨i,hi,rfl⟩:=List.getElem_of_mem hz
  have:=h i hi
  simpa [List.getD,hi] using this
 rw [this];rfl

theorem Uj (a:Option Addr) (len cap:Nat) (zs:List Int) (n high:Int) (w:World) (h:ZW .i64 w a len cap zs) :
  Calls Tryz.prog 177 #[.slice a len cap,.int .i64 n,.int .i64 high] w fun e w'=>e=.returned (.bool (Yz zs n high))∧w=w':=by
 obtain ⟨hl,hlc,hcm,hcase⟩:=h
 unfold maxLen at hcm
 obtain ⟨fin,hfin⟩:∃ fin,fin=Yz zs n high:=⟨_,rfl⟩
 rw [← hfin]
 have HF:Hid (fin=Yz zs n high):=hfin
 clear hfin
 have hend:∀ b:Bool,b=decide ((len:Int)=n)→Hid (∀ i,i<zs.length→0≤zs.getD i 0∧zs.getD i 0≤high)→fin=b:=fun b hb h=>by rw [HF.out,QI h.out,hb,hl]
 obtain ⟨b,hb⟩:∃ b,b=decide ((len:Int)=n):=⟨_,rfl⟩
 have he:=hend b hb
 have hb2:((len:Int) == n)=b:=by rw [hb];by_cases h:(len:Int)=n<;>simp [h]
 clear hend hb
 have HE:Hid (Hid (∀ i,i<zs.length→0≤zs.getD i 0∧zs.getD i 0≤high)→fin=b):=he
 clear he
 by_cases h0:len=0
 ·subst h0
  obtain rfl:fin=b:=HE.out (fun i hi=>by omega)
  clear HE HF
  go_enter Tryz.func177,Tryz.ntmps177
  go_wp2
  refine wp_loop_rounds 1 ?_
  rw [rounds_succ]
  simp only [Int.natCast_zero] at hb2
  go_wp2
  go_ret
  exact ⟨rfl,rfl⟩
 rcases hcase with h0' | ⟨bk,off,rfl,hblt,hcell⟩
 ·exact absurd h0' h0
 go_enter Tryz.func177,Tryz.ntmps177
 go_wp2
 go_loopw [7] (fun si wr=>∃ k:Nat,k≤len∧si=.int .i64 k∧Hid (∀ i,i<k→0≤zs.getD i 0∧zs.getD i 0≤high)∧w=wr) (fun si _=>len - (intOf si).toNat)
 case atStart=>exact ⟨0,by omega,rfl,(fun i hi=>by omega),rfl⟩
 case round =>
  obtain ⟨k,hk,rfl,HK,rfl⟩:=hrel
  by_cases hlt:k<len
  ·have hc:=hcell k hlt
   have hlt':(k:Int)<(len:Int):=by omega
   by_cases hin:0≤zs.getD k 0∧zs.getD k 0≤high
   ·have HK2:Hid (∀ i,i<k+1→0≤zs.getD i 0∧zs.getD i 0≤high):=fun i hi=>by
     by_cases e:i=k
     ·subst e;exact hin
     exact HK.out i (by omega)
    have kI:=fun w=>Ui (zs.getD k 0) 0 high w hin
    clear hcell hin
    generalize zs.getD k 0=x at hc kI
    go_wp2_with fail
    refine (kI _).mono ?_
    rintro e w1 ⟨rfl,rfl⟩
    go_wp2
    go_roundw
    case rel=>exact ⟨k+1,by omega,by go_num,HK2,by trivial⟩
    case measure=>simp [intOf];omega
   obtain rfl:fin=false:=by rw [HF.out];exact Ni (by omega) hin
   have kI:=fun w=>Ta (zs.getD k 0) 0 high w hin
   clear hcell hin HE HF
   generalize zs.getD k 0=x at hc kI
   go_wp2_with fail
   refine (kI _).mono ?_
   rintro e w1 ⟨rfl,rfl⟩
   go_wp2
   go_ret
   exact ⟨rfl,rfl⟩
  obtain rfl:k=len:=by omega
  obtain rfl:fin=b:=HE.out (fun i hi=>HK.out i (by omega))
  clear hcell HE HF HK
  go_wp2
  go_ret
  exact ⟨rfl,rfl⟩

theorem NH (s:S4) (m:V4) (w:World) (h:Yv w s m) :
  Calls Tryz.prog 131 #[s.val] w fun e w'=>e=.returned (.bool (Ze m))∧Below w.heap.size w w':=by
 obtain ⟨⟨i0,_⟩,⟨i1,_⟩,⟨i2,_⟩,⟨i3,_⟩⟩:=h
 obtain ⟨⟨a0,n0,c0⟩,⟨a1,n1,c1⟩,⟨a2,n2,c2⟩,⟨a3,n3,c3⟩⟩:=s
 obtain ⟨m0,m1,m2,m3⟩:=m
 unfold S4.val Ze
 simp only at i0 i1 i2 i3 ⊢
 have bw:Below w.heap.size w (w.alloc (.cells #[.slice a0 n0 c0,.slice a1 n1 c1,.slice a2 n2 c2,.slice a3 n3 c3] 74)):=by go_grown
 have k0:=Uj a0 n0 c0 m0 3 6 _ (i0.below bw)
 have k1:=Uj a1 n1 c1 m1 4 9 _ (i1.below bw)
 have k2:=Uj a2 n2 c2 m2 2 3 _ (i2.below bw)
 have k3:=Uj a3 n3 c3 m3 6 9 _ (i3.below bw)
 clear i0 i1 i2 i3
 generalize Yz m0 3 6=x0 at *
 generalize Yz m1 4 9=x1 at *
 generalize Yz m2 2 3=x2 at *
 generalize Yz m3 6 9=x3 at *
 go_enter Tryz.func131,Tryz.ntmps131
 go_wp2_with fail
 refine k0.mono ?_
 rintro e w1 ⟨rfl,rfl⟩
 cases x0
 ·go_wp2
  go_ret
  exact ⟨rfl,bw⟩
 go_wp2_with fail
 refine k1.mono ?_
 rintro e w1 ⟨rfl,rfl⟩
 cases x1
 ·go_wp2
  go_ret
  exact ⟨rfl,bw⟩
 go_wp2_with fail
 refine k2.mono ?_
 rintro e w1 ⟨rfl,rfl⟩
 cases x2
 ·go_wp2
  go_ret
  exact ⟨rfl,bw⟩
 go_wp2_with fail
 refine k3.mono ?_
 rintro e w1 ⟨rfl,rfl⟩
 cases x3
 ·go_wp2
  go_ret
  exact ⟨rfl,bw⟩
 go_wp2
 go_ret
 exact ⟨rfl,bw⟩


theorem LD:(Tryz.prog.info? 5).map (fun i=>(i.zero,i.size,i.bytes))=some (some (.int .u8 0),1,1):=by kernel_rfl
abbrev u8s (xs:List Int):List Value:=xs.map (Value.int .u8)

theorem Uw {w:World} {base n:Nat} {v:Value} {xs:List Int} (h:w.ownsRow base 5 1 v n (u8s xs)) :
  (convert 22 9 v).run Tryz.prog w=.ok (.string (strOfNums xs)) w:=by
 obtain ⟨hl,h2⟩:=h
 simp at hl
 rcases h2 with ⟨rfl,rfl⟩ | ⟨g,cap,cur,rfl,hg,hh,hn,hc,hs,ht⟩
 ·have:xs=[]:=by simpa using hl
  subst this
  exact run_convert_bytes_nil w 22 5 Tryz.underlying22 Tryz.underlying5 0 0 9 Tryz.underlying9
 refine run_convert_bytes_arg w 22 5 Tryz.underlying22 Tryz.underlying5 g 0 n cap xs hl (fun i hi=>?_) 9 Tryz.underlying9
 have hown:w.ownsRow base 5 1 (.slice (some ⟨g,0,none⟩) n cap) n (u8s xs):=⟨by simpa using hl,.inr ⟨g,cap,cur,rfl,hg,hh,hn,hc,hs,ht⟩⟩
 have:=hown.cellAt i (by omega)
 rw [Nat.zero_add,this]
 simp [List.getElem?_eq_getElem (show i<xs.length by omega)]

theorem RN (n:Int):∀ u ∈ [Value.int .u8 n],u.oneCell'=true:=by intro u hu;simp at hu;subst hu;rfl


theorem RL {n:Nat}:∀ {xs:List I3} {i:Nat},Yp n i xs=true→∀ x ∈ xs,okI x=true
 | [],_,_,x,hx=>by cases hx
 | y::ys,i,h,x,hx=>by
  unfold Yp at h
  simp only [Bool.and_eq_true] at h
  rcases List.mem_cons.1 hx with rfl | hx
  ·exact h.1.1
  exact RL h.2 x hx
theorem Wx {rows:List (List I3)} (h:Zq rows=true):rows.length=3∧∀ r ∈ rows,r.length≤6∧∀ x ∈ r,okI x=true:=by
 unfold Zq at h
 simp only [Bool.and_eq_true,decide_eq_true_eq,List.all_eq_true] at h
 refine ⟨h.1,fun r hr=>?_⟩
 have:=h.2 r hr
 unfold Z7 at this
 simp only [Bool.and_eq_true,decide_eq_true_eq] at this
 exact ⟨this.1,RL this.2⟩
theorem Xl {P:Program} {ops:Array Oper} {o:Oper} {a:Act} {w:World} {K:Act→World→Prop} {Q:Exit→Act→World→Prop} {E:Prop}
  (hg:o.guard=none) (s x:Operand) (t:TypeId) (hop:o.op=Op.call { callee:=Callee.builtin Builtin.append,args:=#[s,x],argTypes:=#[t,t] })
  (base:Nat) (e:TypeId) (i:TypeInfo) (z:Value) (size bytes:Nat) (h1:P.underlying t=some (.slice e)) (h2:P.info? e=some i) (h3:i.zero=some z) (h4:i.size=size) (h5:i.bytes=bytes) (h6:z.cells.size=size) (h7:0<size)
  (v:Value) (n:Nat) (olds:List Value) (hs:a.eval s=v) (hown:w.ownsRow base e size v n olds)
  (ad:Addr) (m c:Nat) (news:List Value) (hx:a.eval x=.slice (some ad) m c) (hn:news.length=m*size) (hc:∀ j u,news[j]?=some u→w.cell? (ad.add j)=some u) (h1c:∀ u ∈ news,u.oneCell'=true)
  (b1:n+m≤maxLen) (b2:(n+m)*bytes≤140737488355328) (hbw:base≤w.heap.size)
  (hK:∀ v' w',w'.ownsRow base e size v' (n+m) (olds++news)→w.grownBy w' v.ownBlock→K (a.put o.dst v') w') :
  if Region.wanted o (yielded ops a.tmps)=true then Oper.wp P o a w K Q else E:=by
 have hw:Region.wanted o (yielded ops a.tmps)=true:=by simp [Region.wanted,hg]
 rw [if_pos hw]
 obtain ⟨v',w',hrun,r1,r2,_⟩:=run_append_own (P:=P) w base t o.type e i z size bytes h1 h2 h3 h4 h5 h6 h7 v n olds hown ad m c news hn hc h1c b1 b2 hbw
 subst hs
 unfold Oper.wp
 simp [execOp,hop,resolve,invoke,builtin,hx,hrun,Result.andThen]
 exact hK v' w' r1 r2
theorem Rd (w:World) (x y z:Value) (t:TypeId):∀ j u,[x,y,z][j]?=some u→(w.alloc (.cells #[x,y,z] t)).cell? ((⟨w.heap.size,0,none⟩:Addr).add j)=some u:=by
 intro j u hj
 match j,hj with
 | 0,hj=>simp at hj;subst hj;simp [Addr.add]
 | 1,hj=>simp at hj;subst hj;simp [Addr.add]
 | 2,hj=>simp at hj;subst hj;simp [Addr.add]
 | (j+3),hj=>simp at hj


def XJ (m:V4):List Int:=((m.1++m.2.1)++m.2.2.1)++m.2.2.2
def ZC (m:V4):ByteArray:=strOfNums ((XJ m).map fun z=>48+z)
theorem YI {zs:List Int} {n high:Int} (h:Yz zs n high=true):(zs.length:Int)=n∧∀ z ∈ zs,0≤z∧z≤high:=by
 unfold Yz at h
 simp at h
 exact ⟨h.2,h.1⟩
theorem ZF {m:V4} (h:Ze m=true):m.1.length=3∧m.2.1.length=4∧m.2.2.1.length=2∧m.2.2.2.length=6∧∀ z ∈ XJ m,0≤z∧z≤9:=by
 unfold Ze at h
 simp only [Bool.and_eq_true] at h
 obtain ⟨h0,h1,h2,h3⟩:=h
 obtain ⟨l0,e0⟩:=YI h0
 obtain ⟨l1,e1⟩:=YI h1
 obtain ⟨l2,e2⟩:=YI h2
 obtain ⟨l3,e3⟩:=YI h3
 refine ⟨by omega,by omega,by omega,by omega,fun z hz=>?_⟩
 unfold XJ at hz
 simp only [List.mem_append] at hz
 rcases hz with ((hz | hz) | hz) | hz
 ·have:=e0 z hz;omega
 ·exact e1 z hz
 ·have:=e2 z hz;omega
 exact e3 z hz
theorem Xz {w:World} {b off n c:Nat} {zs:List Int} (h:ZW .i64 w (some ⟨b,off,none⟩) n c zs):∀ j u,(zs.map (Value.int .i64))[j]?=some u→w.cell? ((⟨b,off,none⟩:Addr).add j)=some u:=by
 obtain ⟨hl,_,_,h0⟩:=h
 intro j u hj
 have hjl:j<zs.length:=by
  rcases Nat.lt_or_ge j zs.length with h | h
  ·exact h
  simp [List.getElem?_eq_none h] at hj
 rcases h0 with h0 | ⟨b',off',ha,_,hc⟩
 ·omega
 cases ha
 have e:(⟨b,off,none⟩:Addr).add j=⟨b,off+j,none⟩:=by unfold Addr.add;split<;>simp_all
 rw [e,hc j (by omega)]
 simp [hjl] at hj
 simp [List.getD,hjl,hj]
theorem Wo (zs:List Int):∀ u ∈ zs.map (Value.int .i64),u.oneCell'=true:=by intro u hu;obtain ⟨z,_,rfl⟩:=List.mem_map.1 hu;rfl
theorem XY (w:World) (t s B:Nat) (hB:B≤w.heap.size):(w.alloc (.cells #[] t)).ownsRow B t s (.slice (some ⟨w.heap.size,0,none⟩) 0 0) 0 []:=World.ownsRow_lit w #[] 0 hB (by unfold maxLen;omega) (by simp)
theorem Zs {w:World} {a:Option Addr} {n c k:Nat} {zs:List Int} (h:ZW .i64 w a n c zs) (hl:zs.length=k) (hk:0<k):n=k∧∃ b off,a=some ⟨b,off,none⟩:=by
 have hn:n=k:=h.1.symm.trans hl
 rcases h.2.2.2 with h0 | ⟨b,off,ha,_⟩
 ·omega
 exact ⟨hn,b,off,ha⟩

theorem TQ (s:S4) (m:V4) (w:World) (h:Yv w s m) (hok:Ze m=true) :
  Calls Tryz.prog 81 #[s.val] w fun e w'=>e=.returned (.string (ZC m))∧Below w.heap.size w w':=by
 obtain ⟨i0,hi,hz0,hz1,hz2⟩:=info_parts Xp
 obtain ⟨l0,l1,l2,l3,hdig⟩:=ZF hok
 have HD:Hid (∀ z ∈ XJ m,0≤z∧z≤9):=hdig
 obtain ⟨fin,hfin⟩:∃ fin,fin=ZC m:=⟨_,rfl⟩
 rw [← hfin]
 have HF:Hid (fin=strOfNums ((XJ m).map fun z=>48+z)):=hfin
 clear hdig hfin hok
 obtain ⟨⟨j0,_⟩,⟨j1,_⟩,⟨j2,_⟩,⟨j3,_⟩⟩:=h
 obtain ⟨⟨a0,n0,c0⟩,⟨a1,n1,c1⟩,⟨a2,n2,c2⟩,⟨a3,n3,c3⟩⟩:=s
 obtain ⟨zs,hzs⟩:∃ zs,zs=XJ m:=⟨_,rfl⟩
 rw [← hzs] at HD HF
 have hall:zs=((m.1++m.2.1)++m.2.2.1)++m.2.2.2:=hzs
 clear hzs
 obtain ⟨m0,m1,m2,m3⟩:=m
 simp only at j0 j1 j2 j3 l0 l1 l2 l3 hall
 obtain ⟨rfl,b0,o0,rfl⟩:=Zs j0 l0 (by omega)
 obtain ⟨rfl,b1,o1,rfl⟩:=Zs j1 l1 (by omega)
 obtain ⟨rfl,b2,o2,rfl⟩:=Zs j2 l2 (by omega)
 obtain ⟨rfl,b3,o3,rfl⟩:=Zs j3 l3 (by omega)
 unfold S4.val
 simp only
 have bw:Below w.heap.size w ((w.alloc (.cells #[.slice (some ⟨b0,o0,none⟩) 3 c0,.slice (some ⟨b1,o1,none⟩) 4 c1,.slice (some ⟨b2,o2,none⟩) 2 c2,.slice (some ⟨b3,o3,none⟩) 6 c3] 74)).alloc (.cells #[] 5)):=by go_grown
 have pP:((w.alloc (.cells #[.slice (some ⟨b0,o0,none⟩) 3 c0,.slice (some ⟨b1,o1,none⟩) 4 c1,.slice (some ⟨b2,o2,none⟩) 2 c2,.slice (some ⟨b3,o3,none⟩) 6 c3] 74)).alloc (.cells #[] 5)).ownsRow w.heap.size 74 4 (.slice (some ⟨w.heap.size,0,none⟩) 1 1) 1 [.slice (some ⟨b0,o0,none⟩) 3 c0,.slice (some ⟨b1,o1,none⟩) 4 c1,.slice (some ⟨b2,o2,none⟩) 2 c2,.slice (some ⟨b3,o3,none⟩) 6 c3]:=(FJ w _ _ _ _ 74 w.heap.size (Nat.le_refl _)).alloc _
 have pQ:((w.alloc (.cells #[.slice (some ⟨b0,o0,none⟩) 3 c0,.slice (some ⟨b1,o1,none⟩) 4 c1,.slice (some ⟨b2,o2,none⟩) 2 c2,.slice (some ⟨b3,o3,none⟩) 6 c3] 74)).alloc (.cells #[] 5)).ownsRow w.heap.size 5 1 (.slice (some ⟨w.heap.size+1,0,none⟩) 0 0) 0 (u8s []):=by
  have h9:=XY (w.alloc (.cells #[.slice (some ⟨b0,o0,none⟩) 3 c0,.slice (some ⟨b1,o1,none⟩) 4 c1,.slice (some ⟨b2,o2,none⟩) 2 c2,.slice (some ⟨b3,o3,none⟩) 6 c3] 74)) 5 1 w.heap.size (by simp)
  simp only [World.size_alloc] at h9
  exact h9
 go_enter Tryz.func81,Tryz.ntmps81
 go_wp2_with fail
 generalize ((w.alloc (.cells #[.slice (some ⟨b0,o0,none⟩) 3 c0,.slice (some ⟨b1,o1,none⟩) 4 c1,.slice (some ⟨b2,o2,none⟩) 2 c2,.slice (some ⟨b3,o3,none⟩) 6 c3] 74)).alloc (.cells #[] 5))=W0 at *
 generalize w.heap.size+1=Q at *
 have g0:W0.cell? ⟨w.heap.size,0,none⟩=some (.slice (some ⟨b0,o0,none⟩) 3 c0):=by simpa using pP.cellAt 0 (by simp)
 have g1:W0.cell? ⟨w.heap.size,1,none⟩=some (.slice (some ⟨b1,o1,none⟩) 4 c1):=by simpa using pP.cellAt 1 (by simp)
 have g2:W0.cell? ⟨w.heap.size,2,none⟩=some (.slice (some ⟨b2,o2,none⟩) 2 c2):=by simpa using pP.cellAt 2 (by simp)
 have g3:W0.cell? ⟨w.heap.size,3,none⟩=some (.slice (some ⟨b3,o3,none⟩) 6 c3):=by simpa using pP.cellAt 3 (by simp)
 refine wp_region_held_drew (S:=(fun w'=>w'.cell? ⟨w.heap.size,0,none⟩=some (.slice (some ⟨b0,o0,none⟩) 3 c0)∧w'.cell? ⟨w.heap.size,1,none⟩=some (.slice (some ⟨b1,o1,none⟩) 4 c1)∧w'.cell? ⟨w.heap.size,2,none⟩=some (.slice (some ⟨b2,o2,none⟩) 2 c2)∧w'.cell? ⟨w.heap.size,3,none⟩=some (.slice (some ⟨b3,o3,none⟩) 6 c3))) (by kernel_rfl) ⟨g0,g1,g2,g3⟩ (fun hS0=>?_)
 refine tkm 1 8 (.pointer (some ⟨w.heap.size,0,none⟩)) ?_
 refine tkm 2 9 (.slice (some ⟨b0,o0,none⟩) 3 c0) ?_
 refine tkm 4 11 (.pointer (some ⟨w.heap.size,1,none⟩)) ?_
 refine tkm 5 12 (.slice (some ⟨b1,o1,none⟩) 4 c1) ?_
 refine tkm 7 14 (.pointer (some ⟨w.heap.size,2,none⟩)) ?_
 refine tkm 8 15 (.slice (some ⟨b2,o2,none⟩) 2 c2) ?_
 refine tkm 10 17 (.pointer (some ⟨w.heap.size,3,none⟩)) ?_
 refine tkm 11 18 (.slice (some ⟨b3,o3,none⟩) 6 c3) ?_
 refine tkr 0 7 (fun K hK=>?_)
 have hsz0:w.heap.size≤W0.heap.size:=bw.size
 have q0:=(XY W0 3 1 w.heap.size hsz0).drew
 have hal:Below W0.heap.size W0 (W0.alloc (.cells #[] 3)).drew:=by go_grown
 replace bw:=Zb bw hal
 replace pP:=Zz pP hal
 replace pQ:=Zz pQ hal
 clear hal
 have y0:(W0.alloc (.cells #[] 3)).drew.cell? ⟨w.heap.size,0,none⟩=some (.slice (some ⟨b0,o0,none⟩) 3 c0):=by simpa using pP.cellAt 0 (by simp)
 have y1:(W0.alloc (.cells #[] 3)).drew.cell? ⟨w.heap.size,1,none⟩=some (.slice (some ⟨b1,o1,none⟩) 4 c1):=by simpa using pP.cellAt 1 (by simp)
 have y2:(W0.alloc (.cells #[] 3)).drew.cell? ⟨w.heap.size,2,none⟩=some (.slice (some ⟨b2,o2,none⟩) 2 c2):=by simpa using pP.cellAt 2 (by simp)
 have y3:(W0.alloc (.cells #[] 3)).drew.cell? ⟨w.heap.size,3,none⟩=some (.slice (some ⟨b3,o3,none⟩) 6 c3):=by simpa using pP.cellAt 3 (by simp)
 go_simp
 refine hK.out _ _ ⟨y0,y1,y2,y3⟩ (fun hS1=>?_)
 clear hK y0 y1 y2 y3
 generalize (W0.alloc (.cells #[] 3)).drew=U0 at *
 refine tkr 3 10 (fun K hK=>?_)
 refine Xl rfl _ _ 72 rfl w.heap.size 3 i0 (.int .i64 0) 1 8 Tryz.underlying72 hi hz0 hz1 hz2 rfl (by decide) _ _ _ rfl q0 ⟨b0,o0,none⟩ 3 c0 (m0.map (Value.int .i64)) rfl (by simp [l0]) (Xz (j0.below bw)) (Wo _) (by unfold maxLen;omega) (by omega) bw.size ?_
 intro v1 U1 q1 gr1
 replace pP:=pP.kept gr1 (Z0 pP q0 (by decide))
 replace pQ:=pQ.kept gr1 (Z0 pQ q0 (by decide))
 replace bw:=bw.grown gr1 bw.size (fun k hk=>(q0.lt k hk).1)
 have y0:U1.cell? ⟨w.heap.size,0,none⟩=some (.slice (some ⟨b0,o0,none⟩) 3 c0):=by simpa using pP.cellAt 0 (by simp)
 have y1:U1.cell? ⟨w.heap.size,1,none⟩=some (.slice (some ⟨b1,o1,none⟩) 4 c1):=by simpa using pP.cellAt 1 (by simp)
 have y2:U1.cell? ⟨w.heap.size,2,none⟩=some (.slice (some ⟨b2,o2,none⟩) 2 c2):=by simpa using pP.cellAt 2 (by simp)
 have y3:U1.cell? ⟨w.heap.size,3,none⟩=some (.slice (some ⟨b3,o3,none⟩) 6 c3):=by simpa using pP.cellAt 3 (by simp)
 refine hK.out _ _ ⟨y0,y1,y2,y3⟩ (fun hS2=>?_)
 clear hK y0 y1 y2 y3 q0 gr1
 simp only [Act.put,tka,tkb,tkc]
 refine tkr 6 13 (fun K hK=>?_)
 refine Xl rfl _ _ 72 rfl w.heap.size 3 i0 (.int .i64 0) 1 8 Tryz.underlying72 hi hz0 hz1 hz2 rfl (by decide) _ _ _ rfl q1 ⟨b1,o1,none⟩ 4 c1 (m1.map (Value.int .i64)) rfl (by simp [l1]) (Xz (j1.below bw)) (Wo _) (by unfold maxLen;omega) (by omega) bw.size ?_
 intro v2 U2 q2 gr2
 replace pP:=pP.kept gr2 (Z0 pP q1 (by decide))
 replace pQ:=pQ.kept gr2 (Z0 pQ q1 (by decide))
 replace bw:=bw.grown gr2 bw.size (fun k hk=>(q1.lt k hk).1)
 have y0:U2.cell? ⟨w.heap.size,0,none⟩=some (.slice (some ⟨b0,o0,none⟩) 3 c0):=by simpa using pP.cellAt 0 (by simp)
 have y1:U2.cell? ⟨w.heap.size,1,none⟩=some (.slice (some ⟨b1,o1,none⟩) 4 c1):=by simpa using pP.cellAt 1 (by simp)
 have y2:U2.cell? ⟨w.heap.size,2,none⟩=some (.slice (some ⟨b2,o2,none⟩) 2 c2):=by simpa using pP.cellAt 2 (by simp)
 have y3:U2.cell? ⟨w.heap.size,3,none⟩=some (.slice (some ⟨b3,o3,none⟩) 6 c3):=by simpa using pP.cellAt 3 (by simp)
 refine hK.out _ _ ⟨y0,y1,y2,y3⟩ (fun hS3=>?_)
 clear hK y0 y1 y2 y3 q1 gr2
 simp only [Act.put,tka,tkb,tkc]
 refine tkr 9 16 (fun K hK=>?_)
 refine Xl rfl _ _ 72 rfl w.heap.size 3 i0 (.int .i64 0) 1 8 Tryz.underlying72 hi hz0 hz1 hz2 rfl (by decide) _ _ _ rfl q2 ⟨b2,o2,none⟩ 2 c2 (m2.map (Value.int .i64)) rfl (by simp [l2]) (Xz (j2.below bw)) (Wo _) (by unfold maxLen;omega) (by omega) bw.size ?_
 intro v3 U3 q3 gr3
 replace pP:=pP.kept gr3 (Z0 pP q2 (by decide))
 replace pQ:=pQ.kept gr3 (Z0 pQ q2 (by decide))
 replace bw:=bw.grown gr3 bw.size (fun k hk=>(q2.lt k hk).1)
 have y0:U3.cell? ⟨w.heap.size,0,none⟩=some (.slice (some ⟨b0,o0,none⟩) 3 c0):=by simpa using pP.cellAt 0 (by simp)
 have y1:U3.cell? ⟨w.heap.size,1,none⟩=some (.slice (some ⟨b1,o1,none⟩) 4 c1):=by simpa using pP.cellAt 1 (by simp)
 have y2:U3.cell? ⟨w.heap.size,2,none⟩=some (.slice (some ⟨b2,o2,none⟩) 2 c2):=by simpa using pP.cellAt 2 (by simp)
 have y3:U3.cell? ⟨w.heap.size,3,none⟩=some (.slice (some ⟨b3,o3,none⟩) 6 c3):=by simpa using pP.cellAt 3 (by simp)
 refine hK.out _ _ ⟨y0,y1,y2,y3⟩ (fun hS4=>?_)
 clear hK y0 y1 y2 y3 q2 gr3
 simp only [Act.put,tka,tkb,tkc]
 refine tkr 12 19 (fun K hK=>?_)
 refine Xl rfl _ _ 72 rfl w.heap.size 3 i0 (.int .i64 0) 1 8 Tryz.underlying72 hi hz0 hz1 hz2 rfl (by decide) _ _ _ rfl q3 ⟨b3,o3,none⟩ 6 c3 (m3.map (Value.int .i64)) rfl (by simp [l3]) (Xz (j3.below bw)) (Wo _) (by unfold maxLen;omega) (by omega) bw.size ?_
 intro v4 U4 q4 gr4
 replace pP:=pP.kept gr4 (Z0 pP q3 (by decide))
 replace pQ:=pQ.kept gr4 (Z0 pQ q3 (by decide))
 replace bw:=bw.grown gr4 bw.size (fun k hk=>(q3.lt k hk).1)
 have y0:U4.cell? ⟨w.heap.size,0,none⟩=some (.slice (some ⟨b0,o0,none⟩) 3 c0):=by simpa using pP.cellAt 0 (by simp)
 have y1:U4.cell? ⟨w.heap.size,1,none⟩=some (.slice (some ⟨b1,o1,none⟩) 4 c1):=by simpa using pP.cellAt 1 (by simp)
 have y2:U4.cell? ⟨w.heap.size,2,none⟩=some (.slice (some ⟨b2,o2,none⟩) 2 c2):=by simpa using pP.cellAt 2 (by simp)
 have y3:U4.cell? ⟨w.heap.size,3,none⟩=some (.slice (some ⟨b3,o3,none⟩) 6 c3):=by simpa using pP.cellAt 3 (by simp)
 refine hK.out _ _ ⟨y0,y1,y2,y3⟩ (fun hS5=>?_)
 clear hK y0 y1 y2 y3 q3 gr4
 simp only [Act.put,tka,tkb,tkc]
 refine tkm 13 4 v4 ?_
 refine wpAnyH_done (by kernel_rfl) ?_ _
 clear hS0 hS1 hS2 hS3 hS4 hS5 pP g0 g1 g2 g3 hsz0 hi hz0 hz1 hz2
 have q5:U4.ownsRow w.heap.size 3 1 v4 15 (zs.map (Value.int .i64)):=by
  rw [hall]
  simpa [List.append_assoc] using q4
 clear q4 hall
 obtain ⟨g,capA,rfl⟩:∃ g c,v4=.slice (some ⟨g,0,none⟩) 15 c:=by
  rcases q5.2 with ⟨rfl,h5⟩ | ⟨g,cap,cur,hv,_⟩
  ·exact absurd h5 (by decide)
  exact ⟨g,cap,hv⟩
 have hl15:zs.length=15:=by simpa using q5.1
 have HL:Hid (zs.length=15):=hl15
 clear hl15
 obtain ⟨i8,hi8,hy0,hy1,hy2⟩:=info_parts LD
 go_wp2
 go_loopw [3,5] (fun so si wr=>∃ j:Nat,j≤15∧si=.int .i64 j∧wr.ownsRow w.heap.size 5 1 so j (u8s ((zs.map fun z=>48+z).take j))∧wr.ownsRow w.heap.size 3 1 (.slice (some ⟨g,0,none⟩) 15 capA) 15 (zs.map (Value.int .i64))∧Below w.heap.size w wr) (fun _ si _=>15 - (intOf si).toNat)
 case atStart=>exact ⟨0,by omega,rfl,by simpa using pQ,q5,bw⟩
 case round =>
  clear pQ q5 bw
  obtain ⟨j,hj,rfl,hr,hq,hbw⟩:=hrel
  by_cases hlt:j<15
  ·have hjl:j<zs.length:=by rw [HL.out];exact hlt
   have hc:wr.cell? ⟨g,j,none⟩=some (.int .i64 (zs.getD j 0)):=by
    have:=hq.cellAt j (by omega)
    rw [this]
    simp [List.getD,hjl]
   have hx:=HD.out (zs.getD j 0) (by simp [List.getD,hjl])
   have HX:Hid ((zs.map fun z=>48+z).take (j+1)=(zs.map fun z=>48+z).take j++[48+zs.getD j 0]):=by
    rw [Hid,List.take_succ_eq_append_getElem (by simpa using hjl)]
    simp [List.getD,hjl]
   obtain ⟨d,hd⟩:∃ d:Nat,zs.getD j 0=(d:Int):=⟨(zs.getD j 0).toNat,by omega⟩
   rw [hd] at hc hx HX
   have hd9:d≤9:=by omega
   clear hx hd hjl
   have hsz:=hbw.size
   have hj15:(j:Int)<15:=by omega
   go_wp2_with (at_builtin;refine wpList_append_own _ rfl _ _ 22 rfl w.heap.size 5 i8 (.int .u8 0) 1 1 Tryz.underlying22 hi8 hy0 hy1 hy2 rfl (by decide) _ _ _ rfl (hr.alloc _) ⟨wr.heap.size,0,none⟩ 1 1 [.int .u8 (48+(d:Int))] rfl rfl (cell_one_new _ _ _) (RN _) ?c3 ?c4 ?c5 ?_)
   case c3=>unfold maxLen;omega
   case c4=>omega
   case c5=>simp;omega
   intro v' w2 hown' hgrow _
   have R:w2.ownsRow w.heap.size 5 1 v' (j+1) (u8s ((zs.map fun z=>48+z).take (j+1))):=by
    rw [HX.out]
    simpa [u8s] using hown'
   have hq2:=(hq.alloc (.cells #[.int .u8 (48+(d:Int))] 5)).kept hgrow (Z0 hq hr (by decide))
   have b2:Below w.heap.size w w2:=(hbw.alloc hsz _).grown hgrow (by simp;omega) (fun k hk=>(hr.lt k hk).1)
   clear hown' hgrow hr hq hbw hc HX
   go_wp2
   go_roundw
   case rel=>exact ⟨j+1,by omega,by go_num,R,hq2,b2⟩
   case measure=>simp [intOf];omega
  obtain rfl:j=15:=by omega
  have hfull:(zs.map fun z=>48+z).take 15=zs.map fun z=>48+z:=List.take_of_length_le (by simp [HL.out])
  rw [hfull] at hr
  have hcv:=Uw hr
  rw [← HF.out] at hcv
  clear hr hq hfull
  go_wp2
  go_ret
  exact ⟨rfl,hbw⟩


def Blk (w:World) (g:Nat) (t:TypeId) (cs:List Value):Prop:=w.heap[g]?=some (.cells cs.toArray t (0,0))
theorem Blk.lt {w:World} {g t:Nat} {cs:List Value} (h:Blk w g t cs):g<w.heap.size:=(Array.getElem?_eq_some_iff.1 h).1
theorem Blk.cell {w:World} {g t:Nat} {cs:List Value} (h:Blk w g t cs) (i:Nat):w.cell? ⟨g,i,none⟩=cs[i]?:=by
 unfold Blk at h
 simp [World.cell?,h]
theorem Blk.frozen {w:World} {g t:Nat} {cs:List Value} (h:Blk w g t cs) (i:Nat):w.frozen? ⟨g,i,none⟩=false:=by
 unfold Blk at h
 simp [World.frozen?,h]
theorem Blk.set {w:World} {g t:Nat} {cs:List Value} (h:Blk w g t cs) (i:Nat) (v:Value):Blk (w.setCell ⟨g,i,none⟩ v) g t (cs.set i v):=by
 have hl:=h.lt
 unfold Blk at h ⊢
 simp [World.setCell,Array.getElem?_modify,h]
theorem Blk.below {w w':World} {g t:Nat} {cs:List Value} (h:Blk w g t cs) (hb:Below w.heap.size w w'):Blk w' g t cs:=(hb.block g h.lt).trans h
theorem Blk.belowB {w w':World} {g t B:Nat} {cs:List Value} (h:Blk w g t cs) (hb:Below B w w') (hg:g<B):Blk w' g t cs:=(hb.block g hg).trans h
theorem Blk.new (w:World) (t:Nat) (cs:List Value):Blk (w.alloc (.cells cs.toArray t)) w.heap.size t cs:=by
 show (w.heap.push _)[w.heap.size]?=_
 simp
theorem Blk.drew {w:World} {g t:Nat} {cs:List Value} (h:Blk w g t cs):Blk w.drew g t cs:=h
theorem Blk.off {w:World} {g t:Nat} {cs:List Value} (h:Blk w g t cs) (p:Addr) (v:Value) (hp:g≠p.block):Blk (w.setCell p v) g t cs:=(Below.heap_setCell w p v g hp).trans h


def Xn (rows:List (List I3)) (k:Nat):List I3:=rows.getD k []
def Ys (rows:List (List I3)) (m:V4) (k:Nat):Bool:=decide (((Xn rows k).length:Int)≤m.1.getD k 0)
def Xj (rows:List (List I3)) (m:V4) (k:Nat):I3:=(Xn rows k).getD (m.1.getD k 0).toNat (0,0,0)
def Va (m:V4) (x:I3):Bool:=decide (x.1=5) && !decide (m.2.2.1.getD x.2.1.toNat 0=0)
def Qk (rows:List (List I3)) (m:V4) (k:Nat):Bool:=!Ys rows m k && Va m (Xj rows m k)
def Vj (rows:List (List I3)) (m:V4) (k:Nat):Bool:=!Ys rows m k && !Va m (Xj rows m k)
def Zt (rows:List (List I3)) (m:V4):Nat→List Int
 | 0=>[]
 | k+1=>if Vj rows m k then Zt rows m k++[(k:Int)] else Zt rows m k
def Wm (rows:List (List I3)) (m:V4) (k:Nat):Bool:=(List.range' k (3 - k)).any fun i=>!Ys rows m i
def Wq (rows:List (List I3)) (m:V4):Bool:=decide (Zt rows m 3=[]) && Wm rows m 0
def ZE (m:V4) (x:I3) (k:Nat):V4 × Int:=
 if x.1=1 then ((m.1.set k (m.1.getD k 0+1),m.2.1,m.2.2.1,m.2.2.2.set (k*2+x.2.1.toNat) (m.2.1.getD x.2.2.toNat 0)),0)
 else if x.1=2 then ((m.1.set k (m.1.getD k 0+1),m.2.1.set x.2.1.toNat (m.2.2.2.getD (k*2+x.2.2.toNat) 0),m.2.2.1,m.2.2.2),0)
 else if x.1=3 then ((m.1.set k (m.1.getD k 0+1),m.2.1,m.2.2.1,m.2.2.2.set (k*2+x.2.1.toNat) x.2.2),0)
 else if x.1=4 then ((m.1.set k (m.1.getD k 0+1),m.2.1,m.2.2.1,m.2.2.2.set (k*2+x.2.1.toNat) ((m.2.2.2.getD (k*2+x.2.1.toNat) 0+x.2.2) % 10)),0)
 else if x.1=5 then ((m.1.set k (m.1.getD k 0+1),m.2.1,m.2.2.1.set x.2.1.toNat (k+1),m.2.2.2),0)
 else if x.1=6 then
  if m.2.2.1.getD x.2.1.toNat 0=k+1 then ((m.1.set k (m.1.getD k 0+1),m.2.1,m.2.2.1.set x.2.1.toNat 0,m.2.2.2),0)
  else ((m.1.set k (m.1.getD k 0+1),m.2.1,m.2.2.1,m.2.2.2),13)
 else if x.1=7 then
  if m.2.2.2.getD (k*2+x.2.1.toNat) 0=0 then ((m.1.set k (m.1.getD k 0+1),m.2.1,m.2.2.1,m.2.2.2),0)
  else ((m.1.set k x.2.2,m.2.1,m.2.2.1,m.2.2.2),0)
 else if m.2.2.2.getD (k*2+x.2.1.toNat) 0=x.2.2 then ((m.1.set k (m.1.getD k 0+1),m.2.1,m.2.2.1,m.2.2.2),0)
 else ((m.1.set k (m.1.getD k 0+1),m.2.1,m.2.2.1,m.2.2.2),12)

theorem RD (rows:List (List I3)) (m:V4) {k:Nat} (hk:k<3):Wm rows m k=(!Ys rows m k || Wm rows m (k+1)):=by
 unfold Wm
 obtain ⟨n,hn⟩:∃ n,3 - k=n+1:=⟨3 - k - 1,by omega⟩
 have hn':3 - (k+1)=n:=by omega
 rw [hn,hn',List.range'_succ,List.any_cons]
theorem Q3 (rows:List (List I3)) (m:V4):Wm rows m 3=false:=rfl

theorem Uc {m:V4} (h:Ze m=true):∃ p0 p1 p2 v0 v1 v2 v3 h0 h1 x0 y0 x1 y1 x2 y2:Int,m=([p0,p1,p2],[v0,v1,v2,v3],[h0,h1],[x0,y0,x1,y1,x2,y2]):=by
 obtain ⟨l0,l1,l2,l3,_⟩:=ZF h
 obtain ⟨a,b,c,d⟩:=m
 simp only at l0 l1 l2 l3
 match a,b,c,d,l0,l1,l2,l3 with
 | [p0,p1,p2],[v0,v1,v2,v3],[h0,h1],[x0,y0,x1,y1,x2,y2],_,_,_,_=>exact ⟨p0,p1,p2,v0,v1,v2,v3,h0,h1,x0,y0,x1,y1,x2,y2,rfl⟩
theorem Yq {m:V4} (h:Ze m=true):(∀ z ∈ m.1,0≤z∧z≤6)∧(∀ z ∈ m.2.1,0≤z∧z≤9)∧(∀ z ∈ m.2.2.1,0≤z∧z≤3)∧∀ z ∈ m.2.2.2,0≤z∧z≤9:=by
 unfold Ze at h
 simp only [Bool.and_eq_true] at h
 exact ⟨(YI h.1).2,(YI h.2.1).2,(YI h.2.2.1).2,(YI h.2.2.2).2⟩
theorem Vv {zs:List Int} {lo hi:Int} (h:∀ z ∈ zs,lo≤z∧z≤hi) (h0:lo≤0∧0≤hi) (k:Nat):lo≤zs.getD k 0∧zs.getD k 0≤hi:=by
 rcases Nat.lt_or_ge k zs.length with hk | hk
 ·simp only [List.getD,List.getElem?_eq_getElem hk,Option.getD_some]
  exact h _ (List.getElem_mem hk)
 simp [List.getD,List.getElem?_eq_none hk,h0]

def Zi (c0 c1 c2:Value) (m:V4):List Value:=
 [c0,.int .i64 (m.1.getD 0 0),.int .i64 (m.2.2.2.getD 0 0),.int .i64 (m.2.2.2.getD 1 0),
  c1,.int .i64 (m.1.getD 1 0),.int .i64 (m.2.2.2.getD 2 0),.int .i64 (m.2.2.2.getD 3 0),
  c2,.int .i64 (m.1.getD 2 0),.int .i64 (m.2.2.2.getD 4 0),.int .i64 (m.2.2.2.getD 5 0),
  .int .i64 (m.2.1.getD 0 0),.int .i64 (m.2.1.getD 1 0),.int .i64 (m.2.1.getD 2 0),.int .i64 (m.2.1.getD 3 0),
  .int .i64 (m.2.2.1.getD 0 0),.int .i64 (m.2.2.1.getD 1 0)]
def GW (c0 c1 c2:Value) (k:Nat):Value:=[c0,c1,c2].getD k undef

section
variable (c0 c1 c2 : Value) (m : V4)
theorem GD {k:Nat} (hk:k<3):(Zi c0 c1 c2 m)[k*4]?=some (GW c0 c1 c2 k):=by
 match k,hk with
 | 0,_=>rfl
 | 1,_=>rfl
 | 2,_=>rfl
theorem G8 {k:Nat} (hk:k<3):(Zi c0 c1 c2 m)[k*4+1]?=some (.int .i64 (m.1.getD k 0)):=by
 match k,hk with
 | 0,_=>rfl
 | 1,_=>rfl
 | 2,_=>rfl
theorem VX {k a:Nat} (hk:k<3) (ha:a<2):(Zi c0 c1 c2 m)[k*4+2+a]?=some (.int .i64 (m.2.2.2.getD (k*2+a) 0)):=by
 match k,hk,a,ha with
 | 0,_,0,_=>rfl
 | 1,_,0,_=>rfl
 | 2,_,0,_=>rfl
 | 0,_,1,_=>rfl
 | 1,_,1,_=>rfl
 | 2,_,1,_=>rfl
theorem He {a:Nat} (ha:a<4):(Zi c0 c1 c2 m)[12+a]?=some (.int .i64 (m.2.1.getD a 0)):=by
 match a,ha with
 | 0,_=>rfl
 | 1,_=>rfl
 | 2,_=>rfl
 | 3,_=>rfl
theorem S2 {a:Nat} (ha:a<2):(Zi c0 c1 c2 m)[16+a]?=some (.int .i64 (m.2.2.1.getD a 0)):=by
 match a,ha with
 | 0,_=>rfl
 | 1,_=>rfl
end

section
variable (c0 c1 c2 : Value) (m : V4) (h : Ze m = true)
include h
end

set_option linter.unusedVariables false
set_option linter.unusedSimpArgs false

def Xt (B T:Nat) (w w':World):Prop:=Below B w w'∧∀ j,T≤j→j<w.heap.size→w'.heap[j]?=w.heap[j]?
theorem Xt.refl (B T:Nat) (w:World):Xt B T w w:=⟨Below.refl _ _,fun _ _ _=>rfl⟩
theorem Xt.step {B T:Nat} {w wr w1:World} {u:Value} (h:Xt B T w wr) (hg:wr.grownBy w1 u.ownBlock) (hsz:B≤wr.heap.size) (hlow:∀ x,u.ownBlock=some x→B≤x) (htop:∀ x,u.ownBlock=some x→x<T):Xt B T w w1:=
 ⟨h.1.grown hg hsz hlow,fun j hj hl=>by
  rw [hg.block j (Nat.lt_of_lt_of_le hl h.1.size) (fun e=>absurd (htop j e.symm) (by omega))]
  exact h.2 j hj hl⟩
theorem Xt.after {B T:Nat} {w w0 w1:World} (h:Xt B T w0 w1) (hb:Below w.heap.size w w0) (hB:B≤w.heap.size):Xt B T w w1:=
 ⟨(hb.mono hB).trans h.1,fun j hj hl=>(h.2 j hj (Nat.lt_of_lt_of_le hl hb.size)).trans (hb.block j hl)⟩
theorem Xt.blk {B T g t:Nat} {w w':World} {cs:List Value} (h:Xt B T w w') (hB:Blk w g t cs) (hg:T≤g):Blk w' g t cs:=(h.2 g hg hB.lt).trans hB
theorem Xt.owns {B T B' e s n:Nat} {w w':World} {v:Value} {xs:List Value} (h:Xt B T w w') (ho:w.ownsRow B' e s v n xs) (hB:T≤B'):w'.ownsRow B' e s v n xs:=by
 refine ⟨ho.1,?_⟩
 rcases ho.2 with h0 | ⟨g,cap,cur,hv,hBg,hg,rest⟩
 ·exact .inl h0
 exact .inr ⟨g,cap,cur,hv,hBg,(h.2 g (by omega) (Array.getElem?_eq_some_iff.1 hg).1).trans hg,rest⟩
theorem Fk {w:World} {a:Option Addr} {len cap:Nat} {rows:List (List I3)} (h:Z1 w a len cap rows):∀ r ∈ rows,∀ x ∈ r,I3.fits x:=by
 intro r hr x hx
 obtain ⟨t,ht,rfl⟩:=List.getElem_of_mem hr
 obtain ⟨h1,_,_,hc⟩:=h
 rcases hc with h0 | ⟨b,off,_,_,hc⟩
 ·omega
 obtain ⟨a',l',c',_,hI⟩:=hc t (by omega)
 have e:rows.getD t []=rows[t]:=by simp [List.getD,ht]
 rw [e] at hI
 exact hI.2.2.2.1 x hx
def We (w:World) (B T:Nat) (v:Value) (rows:List (List I3)):Prop:=∃ vs,w.ownsRow B 62 1 v rows.length vs∧X6 w B vs rows∧∀ u ∈ vs,∀ x,u.ownBlock=some x→x<T
theorem We.own {w:World} {B T:Nat} {v:Value} {rows:List (List I3)} (h:We w B T v rows):Xr w B v rows:=by
 obtain ⟨vs,h1,h2,_⟩:=h
 exact ⟨vs,h1,h2⟩
theorem We.below {w w':World} {B T:Nat} {v:Value} {rows:List (List I3)} (h:We w B T v rows) (hb:Below w.heap.size w w'):We w' B T v rows:=by
 obtain ⟨vs,h1,h2,h3⟩:=h
 exact ⟨vs,Zz h1 hb,h2.below hb,h3⟩
theorem Xr.top9 {w:World} {B:Nat} {v:Value} {rows:List (List I3)} (h:Xr w B v rows):We w B w.heap.size v rows:=by
 obtain ⟨vs,h1,h2⟩:=h
 refine ⟨vs,h1,h2,fun u hu x hx=>?_⟩
 obtain ⟨t,ht,rfl⟩:=List.getElem_of_mem hu
 have hr:=h2.2.1 t (by have:=h2.1;omega)
 have e:vs.getD t undef=vs[t]:=by simp [List.getD,ht]
 rw [e] at hr
 exact (hr.lt x hx).2
theorem SM (B T:Nat) (v:Value) (k:Int) (rows:List (List I3)) (w:World) (hk0:0≤k) (hk:k≤100000000) (hc:Y4 rows rows.length≤10000000) (hcj:∀ j,j≤rows.length→Y4 rows j≤10000000) (hn:∀ j,j<rows.length→(rows.getD j []).length≤1048576) (h:We w B T v rows) :
  Calls Tryz.prog 59 #[v,.int .i64 k] w fun e w'=>e=.returned (.int .i64 (k+Y4 rows rows.length))∧Xt B T w w':=by
 obtain ⟨vs,h1,h2,hT⟩:=h
 rcases h1.2 with ⟨rfl,h0⟩ | ⟨P,cap,cur,rfl,hPB,hh,hlc,hcm,_⟩
 ·obtain rfl:rows=[]:=List.eq_nil_of_length_eq_zero h0
  go_enter Tryz.func59,Tryz.ntmps59
  go_wp2
  refine wp_loop_rounds 1 ?_
  rw [rounds_succ]
  go_wp2
  go_ret
  exact ⟨by simp [Y4],Xt.refl _ _ _⟩
 clear hh
 unfold maxLen at hcm
 have HL:Hid (vs.length=rows.length):=h2.1
 go_enter Tryz.func59,Tryz.ntmps59
 go_wp2
 go_loopw [1,5] (fun sk si wr=>∃ j:Nat,j≤rows.length∧si=.int .i64 j∧sk=.int .i64 (k+Y4 rows j)∧wr.ownsRow B 62 1 (.slice (some ⟨P,0,none⟩) rows.length cap) rows.length vs∧X6 wr B vs (mkP k rows j)∧Xt B T w wr) (fun _ si _=>rows.length - (intOf si).toNat)
 case atStart=>exact ⟨0,by omega,rfl,by simp [Y4],h1,by simpa [mkP] using h2,Xt.refl _ _ _⟩
 case round =>
  obtain ⟨j,hj,rfl,rfl,hr,hR,hb⟩:=hrel
  by_cases hlt:j<rows.length
  ·have hlt2:(j:Int)<(rows.length:Int):=by omega
   have hj0:(0:Int)≤(j:Int):=by omega
   have hc0:=hr.cellAt j (by omega)
   have hvt:vs[j]?=some (vs.getD j undef):=by simp [List.getD,show j<vs.length by have:=HL.out;omega]
   rw [hvt] at hc0
   have hrow:=hR.2.1 j (by rw [PY];exact hlt)
   have hcs:=hcj j hj
   have hnj:=hn j hlt
   have hstep:=QN rows j hlt
   have hset:=LO k rows j hlt
   have hold:=LN k rows j j (Nat.le_refl _) hlt
   rw [hold] at hrow
   obtain ⟨c,hcd⟩:∃ c,c=Y4 rows j:=⟨_,rfl⟩
   obtain ⟨r,hrd⟩:∃ r,r=rows.getD j []:=⟨_,rfl⟩
   rw [← hcd] at hcs hstep hset ⊢
   rw [← hrd] at hnj hstep hset hold hrow
   have hturn:=fun w' (hr':w'.ownsRow B 122 3 (vs.getD j undef) r.length (Zk (mkI (k+c) r r.length))) (hg:wr.grownBy w' (vs.getD j undef).ownBlock)=>X6.turn (w':=w') (t:=j) (r:=mkI (k+c) r r.length) hR (by rw [PY];exact hlt) (by rw [WZ,hold]) (by rw [hold];exact hr') hg
   rw [hset] at hturn
   have HS:Hid (Y4 rows (j+1)=c+r.length*3):=hstep
   have hlow:∀ x,(vs.getD j undef).ownBlock=some x→B≤x:=fun x hx=>(hrow.lt x hx).1
   have htop:∀ x,(vs.getD j undef).ownBlock=some x→x<T:=fun x hx=>hT _ (by simp [List.getD,show j<vs.length by have:=HL.out;omega]) x hx
   have hsz:B≤wr.heap.size:=by have:=(hr.lt P rfl).2;omega
   have hne:=Z0 hr hrow (by decide)
   have K:=RG B (vs.getD j undef) (k+c) r
   clear hcd hrd hstep hset hold hvt hR
   generalize vs.getD j undef=u at hc0 hrow hturn hlow htop hne K
   go_wp2_with fail
   refine (K _ (by omega) (by omega) hnj hrow).mono ?_
   rintro e w1 ⟨rfl,hr1,hg1⟩
   have hR1:=hturn w1 hr1 hg1
   have hr2:=hr.kept hg1 hne
   have hb1:=hb.step hg1 hsz hlow htop
   clear hturn hr1 hr hb hg1 hlow htop hne hrow hc0 K
   go_wp2
   go_roundw
   case rel=>exact ⟨j+1,by omega,by go_num,by rw [HS.out];go_num,hr2,hR1,hb1⟩
   case measure=>simp [intOf];omega
  obtain rfl:j=rows.length:=by omega
  go_wp2
  go_ret
  exact ⟨rfl,hb⟩

theorem SO (B T:Nat) (v:Value) (k:Int) (rows:List (List I3)) (w:World) (hk0:0≤k) (hk:k≤100000000) (hc:Y4 rows rows.length≤10000000) (hcj:∀ j,j≤rows.length→Y4 rows j≤10000000) (hn:∀ j,j<rows.length→(rows.getD j []).length≤1048576) (hB:B≤w.heap.size) (h:We w B T v rows) :
  Calls Tryz.prog 18 #[.agg #[v],.int .i64 k] w fun e w'=>e=.returned (.int .i64 (k+Y4 rows rows.length))∧Xt B T w w':=by
 obtain ⟨a,cap,rfl⟩:=h.own.slice
 go_enter Tryz.func18,Tryz.ntmps18
 go_wp2_with fail
 refine (SM B T _ k rows _ hk0 hk hc hcj hn (h.below (by go_grown))).mono ?_
 rintro e w1 ⟨rfl,hb1⟩
 have b1:Xt B T w w1:=hb1.after (by go_grown) hB
 clear hb1 h
 go_wp2
 go_ret
 exact ⟨rfl,b1⟩


theorem Zh {g:Nat} (w:World) (t:Nat) (cs:List Value) (h:g=w.heap.size):Blk (w.alloc (.cells cs.toArray t)) g t cs:=by
 subst h
 exact Blk.new w t cs
theorem Zf {g t:Nat} {cs:List Value} {w:World} (o:Obj) (h:Blk w g t cs):Blk (w.alloc o) g t cs:=(Below.heap_alloc w o g h.lt).trans h
theorem Wu (w:World) (g:Nat) (cs:Array Value):w.grownBy (w.setRow g cs) (some g):=
 ⟨rfl,rfl,rfl,by simp [World.setRow],fun k _ hk=>setRow_other w g k cs (fun e=>hk (by rw [e]))⟩

theorem ZN {P:Program} {ops:Array Oper} {o:Oper} {a:Act} {w:World} {K:Act→World→Prop} {Q:Exit→Act→World→Prop} {E:Prop} (hgd:o.guard=none) (d s:Operand) (dT sT:TypeId)
  (ho:o.op=.call { callee:=.builtin .copy,args:=#[d,s],argTypes:=#[dT,sT] }) (elem:TypeId) (hu:P.underlying dT=some (.slice elem)) (hsz:(P.info? elem).map (·.size)=some 1)
  (g off:Nat) (ad:Addr) (dLen dCap sLen sCap:Nat) (hd:a.eval d=.slice (some ⟨g,off,none⟩) dLen dCap) (hs:a.eval s=.slice (some ad) sLen sCap)
  (cur:List Value) (t:TypeId) (hg:Blk w g t cur) (cs:List Value) (r:Value) (hr:goInt cs.length=r) (hn:cs.length=Nat.min sLen dLen)
  (hsrc:∀ j v,cs[j]?=some v→w.cell? (ad.add j)=some v)
  (hfit:off+cs.length≤cur.length) (h1:∀ v ∈ cs,v.oneCell'=true)
  (h:∀ w',Hid (Blk w' g t (splice cur off cs))→w.grownBy w' (some g)→K (a.put o.dst r) w') :
  if Region.wanted o (yielded ops a.tmps)=true then Oper.wp P o a w K Q else E:=by
 have hw:Region.wanted o (yielded ops a.tmps)=true:=by simp [Region.wanted,hgd]
 subst hr
 rw [if_pos hw]
 have hrun:=run_copy_row (P:=P) w dT sT o.type elem g off dLen dCap ad sLen sCap cur.toArray t cs hu hsz hg hn hsrc (by simpa using hfit) h1
 unfold Oper.wp
 simp [execOp,ho,resolve,invoke,builtin,hd,hs,hrun,Result.andThen]
 refine h _ (show _=_ by simpa [splice] using setRow_heap w g _ _ t _ hg) (Wu _ _ _)

theorem Blk.kept {w w':World} {g t:Nat} {cs:List Value} {r:Option Nat} (h:Blk w g t cs) (hg:w.grownBy w' r) (hr:r≠some g):Blk w' g t cs:=(hg.block g h.lt (Ne.symm hr)).trans h
theorem Y3 {w:World} {g g' t t':Nat} {cs cs':List Value} (h:Blk w g t cs) (h':Blk w g' t' cs') (ht:t≠t'):g≠g':=by
 rintro rfl
 unfold Blk at h h'
 rw [h] at h'
 simp at h'
 exact ht h'.2
theorem J5 {P:Program} {w:World} {g t:Nat} {cs:List Value} (ty:TypeId) (d:TypeDesc) (h:Blk w g t cs) (hu:P.underlying ty=some d) (hd:(match d with | .struct _ | .array _ _=>true | _=>false)=true) (hi:(P.info? ty).map (·.size)=some cs.length) :
  (loadVar ty ⟨g,0,none⟩).run P w=.ok (.agg cs.toArray) w:=run_loadVar_row w g t ty cs.toArray (0,0) d h hu hd (by simpa using hi)
theorem Uv {w:World} {g t:Nat} {cs:List Value} (vs:List Value) (h:Blk w g t cs):Blk (w.setRow g vs.toArray) g t vs:=setRow_heap w g _ _ t _ h

section
variable {P : Program} {ops : Array Oper} {rest : List Oper} {o : Oper} {a : Act} {w : World} {Q : Exit → Act → World → Prop}
theorem Zc (hgd:o.guard=none) (ty:TypeId) (x:Operand) (ho:o.op=.load ty x) (g:Nat) (hx:a.eval x=.pointer (some ⟨g,0,none⟩)) {t:Nat} {cs:List Value} (hB:Blk w g t cs) (d:TypeDesc)
  (hu:P.underlying ty=some d) (hd:(match d with | .struct _ | .array _ _=>true | _=>false)=true) (hi:(P.info? ty).map (·.size)=some cs.length)
  (h:wpList P ops Q rest (a.put o.dst (.agg cs.toArray)) w):wpList P ops Q (o::rest) a w:=
 wpList_load_row hgd ty x ho g hx t cs.toArray (0,0) d hB hu hd (by simpa using hi) h
theorem Zd (hgd:o.guard=none) (ty:TypeId) (x y:Operand) (ho:o.op=.store ty x y) (g:Nat) (vs:List Value) (hx:a.eval x=.pointer (some ⟨g,0,none⟩)) (hy:a.eval y=.agg vs.toArray) {t:Nat} {cs:List Value} (hB:Blk w g t cs)
  (hi:(P.info? ty).map (·.size)=some vs.length) (hl:cs.length=vs.length) (h1:vs.all (·.oneCell')=true)
  (h:∀ w',Hid (Blk w' g t vs)→w.grownBy w' (some g)→wpList P ops Q rest (a.put o.dst undef) w'):wpList P ops Q (o::rest) a w:=
 wpList_store_row hgd ty x y ho g vs.toArray hx hy t cs.toArray hB (by simpa using hi) (by simpa using hl) (by simpa using h1) (h _ (Uv vs hB) (Wu _ _ _))
end

section
variable {P : Program} {fn : Func} {p q r : Tmp} {ty : TypeId}
theorem VG (h:fn.results=#[.cell p ty]) (tmps:Array Value) (w:World) (g t:Nat) (cs:List Value) (d:TypeDesc) (hp:tmps.getD p undef=.pointer (some ⟨g,0,none⟩)) (hB:Blk w g t cs)
  (hu:P.underlying ty=some d) (hd:(match d with | .struct _ | .array _ _=>true | _=>false)=true) (hi:(P.info? ty).map (·.size)=some cs.length) :
  (results fn tmps).run P w=.ok (.agg cs.toArray) w:=results_cell_row h tmps w g t cs.toArray (0,0) d hp hB hu hd (by simpa using hi)
theorem Zu (h:fn.results=#[.cell p ty,.tmp q]) (tmps:Array Value) (w:World) (g t:Nat) (cs:List Value) (d:TypeDesc) (hp:tmps.getD p undef=.pointer (some ⟨g,0,none⟩)) (hB:Blk w g t cs)
  (hu:P.underlying ty=some d) (hd:(match d with | .struct _ | .array _ _=>true | _=>false)=true) (hi:(P.info? ty).map (·.size)=some cs.length) :
  (results fn tmps).run P w=.ok (.tuple #[.agg cs.toArray,tmps.getD q undef]) w:=by
 have hp':tmps[p]?.getD undef=.pointer (some ⟨g,0,none⟩):=by simpa using hp
 simp [results,h,hp',asAddr,J5 ty d hB hu hd hi]
end
end Go.Proofs.YtmhlokahmblboaaGreatDoor
