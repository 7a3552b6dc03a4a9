/-
  Joined: Vm3, Conv, Parts, Vm4.
-/
import Derived.Laws.BytesArg
import Derived.Deep.RegionLaw
import Derived.Laws.OwnMore
import Derived.Test.YtifoggpohlegmaaGreatDoorA04

namespace Go.Proofs.YtifoggpohlegmaaGreatDoor
set_option maxRecDepth 100000
set_option maxHeartbeats 16000000
open Go.RowKit

def allIn (zs:List Int) (n high:Int):Bool:=zs.all (fun z=>decide (0≤z∧z≤high)) && decide ((zs.length:Int)=n)
def shapeOk (m:V4):Bool:=allIn m.1 3 6 && (allIn m.2.1 4 9 && (allIn m.2.2.1 2 3 && allIn m.2.2.2 6 9))
theorem allIn_no {zs:List Int} {n high:Int} {k:Nat} (hk:k<zs.length) (h:¬ (0≤zs.getD k 0∧zs.getD k 0≤high)):allIn zs n high=false:=by
 unfold allIn
 have:zs.all (fun z=>decide (0≤z∧z≤high))=false:=by
  rw [List.all_eq_false]
  refine ⟨zs.getD k 0,by simp [List.getD,hk],?_⟩
  simpa using h
 rw [this];rfl
theorem allIn_end {zs:List Int} {n high:Int} (h:∀ i,i<zs.length→0≤zs.getD i 0∧zs.getD i 0≤high):allIn zs n high=decide ((zs.length:Int)=n):=by
 unfold allIn
 have:zs.all (fun z=>decide (0≤z∧z≤high))=true:=by
  rw [List.all_eq_true]
  intro z hz
  obtain ⟨i,hi,rfl⟩:=List.getElem_of_mem hz
  have:=h i hi
  simpa [List.getD,hi] using this
 rw [this];rfl

theorem l03All_is (a:Option Addr) (len cap:Nat) (zs:List Int) (n high:Int) (w:World) (h:Ints .i64 w a len cap zs) :
  Calls Tryz.prog 172 #[.slice a len cap,.int .i64 n,.int .i64 high] w fun e w'=>e=.returned (.bool (allIn zs n high))∧w=w':=by
 obtain ⟨hl,hlc,hcm,hcase⟩:=h
 unfold maxLen at hcm
 obtain ⟨fin,hfin⟩:∃ fin,fin=allIn zs n high:=⟨_,rfl⟩
 rw [← hfin]
 have HF:Hid (fin=allIn zs n high):=hfin
 clear hfin
 have hend:∀ b:Bool,b=decide ((len:Int)=n)→Hid (∀ i,i<zs.length→0≤zs.getD i 0∧zs.getD i 0≤high)→fin=b:=fun b hb h=>by rw [HF.out,allIn_end h.out,hb,hl]
 obtain ⟨b,hb⟩:∃ b,b=decide ((len:Int)=n):=⟨_,rfl⟩
 have he:=hend b hb
 have hb2:((len:Int) == n)=b:=by rw [hb];by_cases h:(len:Int)=n<;>simp [h]
 clear hend hb
 have HE:Hid (Hid (∀ i,i<zs.length→0≤zs.getD i 0∧zs.getD i 0≤high)→fin=b):=he
 clear he
 by_cases h0:len=0
 ·subst h0
  obtain rfl:fin=b:=HE.out (fun i hi=>by omega)
  clear HE HF
  go_enter Tryz.func172,Tryz.ntmps172
  go_wp2
  refine wp_loop_rounds 1 ?_
  rw [rounds_succ]
  simp only [Int.natCast_zero] at hb2
  go_wp2
  go_ret
  exact ⟨rfl,rfl⟩
 ·rcases hcase with h0' | ⟨bk,off,rfl,hblt,hcell⟩
  ·exact absurd h0' h0
  go_enter Tryz.func172,Tryz.ntmps172
  go_wp2
  go_loopw [7] (fun si wr=>∃ k:Nat,k≤len∧si=.int .i64 k∧Hid (∀ i,i<k→0≤zs.getD i 0∧zs.getD i 0≤high)∧w=wr) (fun si _=>len - (intOf si).toNat)
  case atStart=>exact ⟨0,by omega,rfl,(fun i hi=>by omega),rfl⟩
  case round =>
   obtain ⟨k,hk,rfl,HK,rfl⟩:=hrel
   by_cases hlt:k<len
   ·have hc:=hcell k hlt
    have hlt':(k:Int)<(len:Int):=by omega
    by_cases hin:0≤zs.getD k 0∧zs.getD k 0≤high
    ·have HK2:Hid (∀ i,i<k+1→0≤zs.getD i 0∧zs.getD i 0≤high):=fun i hi=>by
      by_cases e:i=k
      ·subst e;exact hin
      ·exact HK.out i (by omega)
     have kI:=fun w=>l01In_yes (zs.getD k 0) 0 high w hin
     clear hcell hin
     generalize zs.getD k 0=x at hc kI
     go_wp2_with fail
     refine (kI _).mono ?_
     rintro e w1 ⟨rfl,rfl⟩
     go_wp2
     go_roundw
     case rel=>exact ⟨k+1,by omega,by go_num,HK2,by trivial⟩
     case measure=>simp [intOf];omega
    ·obtain rfl:fin=false:=by rw [HF.out];exact allIn_no (by omega) hin
     have kI:=fun w=>l01In_no (zs.getD k 0) 0 high w hin
     clear hcell hin HE HF
     generalize zs.getD k 0=x at hc kI
     go_wp2_with fail
     refine (kI _).mono ?_
     rintro e w1 ⟨rfl,rfl⟩
     go_wp2
     go_ret
     exact ⟨rfl,rfl⟩
   ·obtain rfl:k=len:=by omega
    obtain rfl:fin=b:=HE.out (fun i hi=>HK.out i (by omega))
    clear hcell HE HF HK
    go_wp2
    go_ret
    exact ⟨rfl,rfl⟩

theorem l03Shape_is (s:S4) (m:V4) (w:World) (h:Vmem w s m) :
  Calls Tryz.prog 140 #[s.val] w fun e w'=>e=.returned (.bool (shapeOk m))∧Below w.heap.size w w':=by
 obtain ⟨⟨i0,_⟩,⟨i1,_⟩,⟨i2,_⟩,⟨i3,_⟩⟩:=h
 obtain ⟨⟨a0,n0,c0⟩,⟨a1,n1,c1⟩,⟨a2,n2,c2⟩,⟨a3,n3,c3⟩⟩:=s
 obtain ⟨m0,m1,m2,m3⟩:=m
 unfold S4.val shapeOk
 simp only at i0 i1 i2 i3 ⊢
 have bw:Below w.heap.size w (w.alloc (.cells #[.slice a0 n0 c0,.slice a1 n1 c1,.slice a2 n2 c2,.slice a3 n3 c3] 33)):=by go_grown
 have k0:=l03All_is a0 n0 c0 m0 3 6 _ (i0.below bw)
 have k1:=l03All_is a1 n1 c1 m1 4 9 _ (i1.below bw)
 have k2:=l03All_is a2 n2 c2 m2 2 3 _ (i2.below bw)
 have k3:=l03All_is a3 n3 c3 m3 6 9 _ (i3.below bw)
 clear i0 i1 i2 i3
 generalize allIn m0 3 6=x0 at *
 generalize allIn m1 4 9=x1 at *
 generalize allIn m2 2 3=x2 at *
 generalize allIn m3 6 9=x3 at *
 go_enter Tryz.func140,Tryz.ntmps140
 go_wp2_with fail
 refine k0.mono ?_
 rintro e w1 ⟨rfl,rfl⟩
 cases x0
 ·go_wp2
  go_ret
  exact ⟨rfl,bw⟩
 go_wp2_with fail
 refine k1.mono ?_
 rintro e w1 ⟨rfl,rfl⟩
 cases x1
 ·go_wp2
  go_ret
  exact ⟨rfl,bw⟩
 go_wp2_with fail
 refine k2.mono ?_
 rintro e w1 ⟨rfl,rfl⟩
 cases x2
 ·go_wp2
  go_ret
  exact ⟨rfl,bw⟩
 go_wp2_with fail
 refine k3.mono ?_
 rintro e w1 ⟨rfl,rfl⟩
 cases x3
 ·go_wp2
  go_ret
  exact ⟨rfl,bw⟩
 go_wp2
 go_ret
 exact ⟨rfl,bw⟩


theorem info_u8:(Tryz.prog.info? 5).map (fun i=>(i.zero,i.size,i.bytes))=some (some (.int .u8 0),1,1):=by kernel_rfl
abbrev u8s (xs:List Int):List Value:=xs.map (Value.int .u8)

theorem conv_owned {w:World} {base n:Nat} {v:Value} {xs:List Int} (h:w.ownsRow base 5 1 v n (u8s xs)) :
  (convert 22 9 v).run Tryz.prog w=.ok (.string (strOfNums xs)) w:=by
 obtain ⟨hl,h2⟩:=h
 simp at hl
 rcases h2 with ⟨rfl,rfl⟩ | ⟨g,cap,cur,rfl,hg,hh,hn,hc,hs,ht⟩
 ·have:xs=[]:=by simpa using hl
  subst this
  exact run_convert_bytes_nil w 22 5 Tryz.underlying22 Tryz.underlying5 0 0 9 Tryz.underlying9
 ·refine run_convert_bytes_arg w 22 5 Tryz.underlying22 Tryz.underlying5 g 0 n cap xs hl (fun i hi=>?_) 9 Tryz.underlying9
  have hown:w.ownsRow base 5 1 (.slice (some ⟨g,0,none⟩) n cap) n (u8s xs):=⟨by simpa using hl,.inr ⟨g,cap,cur,rfl,hg,hh,hn,hc,hs,ht⟩⟩
  have:=hown.cellAt i (by omega)
  rw [Nat.zero_add,this]
  simp [List.getElem?_eq_getElem (show i<xs.length by omega)]

theorem one_u8 (n:Int):∀ u ∈ [Value.int .u8 n],u.oneCell'=true:=by intro u hu;simp at hu;subst hu;rfl


theorem okI_small {x:I3} (h:okI x=true):(0≤x.1∧x.1≤9)∧(0≤x.2.1∧x.2.1≤9)∧(0≤x.2.2∧x.2.2≤9):=by
 unfold okI at h
 rcases op_cases x with h' | h' | h' | h' | h' | h' | h' | h' | h'
 all_goals first
  | (simp [h'] at h;simp only [inB_true] at h;omega)
  | (obtain ⟨h1,h2,h3,h4,h5,h6,h7,h8⟩:=h';simp [h1,h2,h3,h4,h5,h6,h7,h8] at h)
theorem okFrom_mem {n:Nat}:∀ {xs:List I3} {i:Nat},okFrom n i xs=true→∀ x ∈ xs,okI x=true
 | [],_,_,x,hx=>by cases hx
 | y::ys,i,h,x,hx=>by
  unfold okFrom at h
  simp only [Bool.and_eq_true] at h
  rcases List.mem_cons.1 hx with rfl | hx
  ·exact h.1.1
  ·exact okFrom_mem h.2 x hx
theorem progOk_parts {rows:List (List I3)} (h:progOk rows=true):rows.length=3∧∀ r ∈ rows,r.length≤6∧∀ x ∈ r,okI x=true:=by
 unfold progOk at h
 simp only [Bool.and_eq_true,decide_eq_true_eq,List.all_eq_true] at h
 refine ⟨h.1,fun r hr=>?_⟩
 have:=h.2 r hr
 unfold codeOk at this
 simp only [Bool.and_eq_true,decide_eq_true_eq] at this
 exact ⟨this.1,okFrom_mem this.2⟩
theorem step_append_mine {P:Program} {ops:Array Oper} {o:Oper} {a:Act} {w:World} {K:Act→World→Prop} {Q:Exit→Act→World→Prop} {E:Prop}
  (hg:o.guard=none) (s x:Operand) (t:TypeId) (hop:o.op=Op.call { callee:=Callee.builtin Builtin.append,args:=#[s,x],argTypes:=#[t,t] })
  (base:Nat) (e:TypeId) (i:TypeInfo) (z:Value) (size bytes:Nat) (h1:P.underlying t=some (.slice e)) (h2:P.info? e=some i) (h3:i.zero=some z) (h4:i.size=size) (h5:i.bytes=bytes) (h6:z.cells.size=size) (h7:0<size)
  (v:Value) (n:Nat) (olds:List Value) (hs:a.eval s=v) (hown:w.ownsRow base e size v n olds)
  (ad:Addr) (m c:Nat) (news:List Value) (hx:a.eval x=.slice (some ad) m c) (hn:news.length=m*size) (hc:∀ j u,news[j]?=some u→w.cell? (ad.add j)=some u) (h1c:∀ u ∈ news,u.oneCell'=true)
  (b1:n+m≤maxLen) (b2:(n+m)*bytes≤140737488355328) (hbw:base≤w.heap.size)
  (hK:∀ v' w',w'.ownsRow base e size v' (n+m) (olds++news)→w.grownBy w' v.ownBlock→K (a.put o.dst v') w') :
  if Region.wanted o (yielded ops a.tmps)=true then Oper.wp P o a w K Q else E:=by
 have hw:Region.wanted o (yielded ops a.tmps)=true:=by simp [Region.wanted,hg]
 rw [if_pos hw]
 obtain ⟨v',w',hrun,r1,r2,_⟩:=run_append_own (P:=P) w base t o.type e i z size bytes h1 h2 h3 h4 h5 h6 h7 v n olds hown ad m c news hn hc h1c b1 b2 hbw
 subst hs
 unfold Oper.wp
 simp [execOp,hop,resolve,invoke,builtin,hx,hrun,Result.andThen]
 exact hK v' w' r1 r2
theorem three_i64 (a b c:Int):∀ u ∈ [Value.int .i64 a,.int .i64 b,.int .i64 c],u.oneCell'=true:=by intro u hu;simp at hu;rcases hu with rfl | rfl | rfl<;>rfl
theorem cell_three_new (w:World) (x y z:Value) (t:TypeId):∀ j u,[x,y,z][j]?=some u→(w.alloc (.cells #[x,y,z] t)).cell? ((⟨w.heap.size,0,none⟩:Addr).add j)=some u:=by
 intro j u hj
 match j,hj with
 | 0,hj=>simp at hj;subst hj;simp [Addr.add]
 | 1,hj=>simp at hj;subst hj;simp [Addr.add]
 | 2,hj=>simp at hj;subst hj;simp [Addr.add]
 | (j+3),hj=>simp at hj


def allOf (m:V4):List Int:=((m.1++m.2.1)++m.2.2.1)++m.2.2.2
def keyT (m:V4):ByteArray:=strOfNums ((allOf m).map fun z=>48+z)
theorem allIn_parts {zs:List Int} {n high:Int} (h:allIn zs n high=true):(zs.length:Int)=n∧∀ z ∈ zs,0≤z∧z≤high:=by
 unfold allIn at h
 simp at h
 exact ⟨h.2,h.1⟩
theorem shape_parts {m:V4} (h:shapeOk m=true):m.1.length=3∧m.2.1.length=4∧m.2.2.1.length=2∧m.2.2.2.length=6∧∀ z ∈ allOf m,0≤z∧z≤9:=by
 unfold shapeOk at h
 simp only [Bool.and_eq_true] at h
 obtain ⟨h0,h1,h2,h3⟩:=h
 obtain ⟨l0,e0⟩:=allIn_parts h0
 obtain ⟨l1,e1⟩:=allIn_parts h1
 obtain ⟨l2,e2⟩:=allIn_parts h2
 obtain ⟨l3,e3⟩:=allIn_parts h3
 refine ⟨by omega,by omega,by omega,by omega,fun z hz=>?_⟩
 unfold allOf at hz
 simp only [List.mem_append] at hz
 rcases hz with ((hz | hz) | hz) | hz
 ·have:=e0 z hz;omega
 ·exact e1 z hz
 ·have:=e2 z hz;omega
 ·exact e3 z hz
theorem ints_news {w:World} {b off n c:Nat} {zs:List Int} (h:Ints .i64 w (some ⟨b,off,none⟩) n c zs):∀ j u,(zs.map (Value.int .i64))[j]?=some u→w.cell? ((⟨b,off,none⟩:Addr).add j)=some u:=by
 obtain ⟨hl,_,_,h0⟩:=h
 intro j u hj
 have hjl:j<zs.length:=by
  rcases Nat.lt_or_ge j zs.length with h | h
  ·exact h
  ·simp [List.getElem?_eq_none h] at hj
 rcases h0 with h0 | ⟨b',off',ha,_,hc⟩
 ·omega
 ·cases ha
  have e:(⟨b,off,none⟩:Addr).add j=⟨b,off+j,none⟩:=by unfold Addr.add;split<;>simp_all
  rw [e,hc j (by omega)]
  simp [hjl] at hj
  simp [List.getD,hjl,hj]
theorem one_i64s (zs:List Int):∀ u ∈ zs.map (Value.int .i64),u.oneCell'=true:=by intro u hu;obtain ⟨z,_,rfl⟩:=List.mem_map.1 hu;rfl
theorem own_empty (w:World) (t s B:Nat) (hB:B≤w.heap.size):(w.alloc (.cells #[] t)).ownsRow B t s (.slice (some ⟨w.heap.size,0,none⟩) 0 0) 0 []:=World.ownsRow_lit w #[] 0 hB (by unfold maxLen;omega) (by simp)
theorem some_of_ints {w:World} {a:Option Addr} {n c k:Nat} {zs:List Int} (h:Ints .i64 w a n c zs) (hl:zs.length=k) (hk:0<k):n=k∧∃ b off,a=some ⟨b,off,none⟩:=by
 have hn:n=k:=h.1.symm.trans hl
 rcases h.2.2.2 with h0 | ⟨b,off,ha,_⟩
 ·omega
 ·exact ⟨hn,b,off,ha⟩

theorem l03Key_is (s:S4) (m:V4) (w:World) (h:Vmem w s m) (hok:shapeOk m=true) :
  Calls Tryz.prog 101 #[s.val] w fun e w'=>e=.returned (.string (keyT m))∧Below w.heap.size w w':=by
 obtain ⟨i0,hi,hz0,hz1,hz2⟩:=info_parts info_int
 obtain ⟨l0,l1,l2,l3,hdig⟩:=shape_parts hok
 have HD:Hid (∀ z ∈ allOf m,0≤z∧z≤9):=hdig
 obtain ⟨fin,hfin⟩:∃ fin,fin=keyT m:=⟨_,rfl⟩
 rw [← hfin]
 have HF:Hid (fin=strOfNums ((allOf m).map fun z=>48+z)):=hfin
 clear hdig hfin hok
 obtain ⟨⟨j0,_⟩,⟨j1,_⟩,⟨j2,_⟩,⟨j3,_⟩⟩:=h
 obtain ⟨⟨a0,n0,c0⟩,⟨a1,n1,c1⟩,⟨a2,n2,c2⟩,⟨a3,n3,c3⟩⟩:=s
 obtain ⟨zs,hzs⟩:∃ zs,zs=allOf m:=⟨_,rfl⟩
 rw [← hzs] at HD HF
 have hall:zs=((m.1++m.2.1)++m.2.2.1)++m.2.2.2:=hzs
 clear hzs
 obtain ⟨m0,m1,m2,m3⟩:=m
 simp only at j0 j1 j2 j3 l0 l1 l2 l3 hall
 obtain ⟨rfl,b0,o0,rfl⟩:=some_of_ints j0 l0 (by omega)
 obtain ⟨rfl,b1,o1,rfl⟩:=some_of_ints j1 l1 (by omega)
 obtain ⟨rfl,b2,o2,rfl⟩:=some_of_ints j2 l2 (by omega)
 obtain ⟨rfl,b3,o3,rfl⟩:=some_of_ints j3 l3 (by omega)
 unfold S4.val
 simp only
 have bw:Below w.heap.size w ((w.alloc (.cells #[.slice (some ⟨b0,o0,none⟩) 3 c0,.slice (some ⟨b1,o1,none⟩) 4 c1,.slice (some ⟨b2,o2,none⟩) 2 c2,.slice (some ⟨b3,o3,none⟩) 6 c3] 33)).alloc (.cells #[] 5)):=by go_grown
 have pP:((w.alloc (.cells #[.slice (some ⟨b0,o0,none⟩) 3 c0,.slice (some ⟨b1,o1,none⟩) 4 c1,.slice (some ⟨b2,o2,none⟩) 2 c2,.slice (some ⟨b3,o3,none⟩) 6 c3] 33)).alloc (.cells #[] 5)).ownsRow w.heap.size 33 4 (.slice (some ⟨w.heap.size,0,none⟩) 1 1) 1 [.slice (some ⟨b0,o0,none⟩) 3 c0,.slice (some ⟨b1,o1,none⟩) 4 c1,.slice (some ⟨b2,o2,none⟩) 2 c2,.slice (some ⟨b3,o3,none⟩) 6 c3]:=(box4 w _ _ _ _ 33 w.heap.size (Nat.le_refl _)).alloc _
 have pQ:((w.alloc (.cells #[.slice (some ⟨b0,o0,none⟩) 3 c0,.slice (some ⟨b1,o1,none⟩) 4 c1,.slice (some ⟨b2,o2,none⟩) 2 c2,.slice (some ⟨b3,o3,none⟩) 6 c3] 33)).alloc (.cells #[] 5)).ownsRow w.heap.size 5 1 (.slice (some ⟨w.heap.size+1,0,none⟩) 0 0) 0 (u8s []):=by
  have h9:=own_empty (w.alloc (.cells #[.slice (some ⟨b0,o0,none⟩) 3 c0,.slice (some ⟨b1,o1,none⟩) 4 c1,.slice (some ⟨b2,o2,none⟩) 2 c2,.slice (some ⟨b3,o3,none⟩) 6 c3] 33)) 5 1 w.heap.size (by simp)
  simp only [World.size_alloc] at h9
  exact h9
 go_enter Tryz.func101,Tryz.ntmps101
 go_wp2_with fail
 generalize ((w.alloc (.cells #[.slice (some ⟨b0,o0,none⟩) 3 c0,.slice (some ⟨b1,o1,none⟩) 4 c1,.slice (some ⟨b2,o2,none⟩) 2 c2,.slice (some ⟨b3,o3,none⟩) 6 c3] 33)).alloc (.cells #[] 5))=W0 at *
 generalize w.heap.size+1=Q at *
 have g0:W0.cell? ⟨w.heap.size,0,none⟩=some (.slice (some ⟨b0,o0,none⟩) 3 c0):=by simpa using pP.cellAt 0 (by simp)
 have g1:W0.cell? ⟨w.heap.size,1,none⟩=some (.slice (some ⟨b1,o1,none⟩) 4 c1):=by simpa using pP.cellAt 1 (by simp)
 have g2:W0.cell? ⟨w.heap.size,2,none⟩=some (.slice (some ⟨b2,o2,none⟩) 2 c2):=by simpa using pP.cellAt 2 (by simp)
 have g3:W0.cell? ⟨w.heap.size,3,none⟩=some (.slice (some ⟨b3,o3,none⟩) 6 c3):=by simpa using pP.cellAt 3 (by simp)
 refine wp_region_held_drew (S:=(fun w'=>w'.cell? ⟨w.heap.size,0,none⟩=some (.slice (some ⟨b0,o0,none⟩) 3 c0)∧w'.cell? ⟨w.heap.size,1,none⟩=some (.slice (some ⟨b1,o1,none⟩) 4 c1)∧w'.cell? ⟨w.heap.size,2,none⟩=some (.slice (some ⟨b2,o2,none⟩) 2 c2)∧w'.cell? ⟨w.heap.size,3,none⟩=some (.slice (some ⟨b3,o3,none⟩) 6 c3))) (by kernel_rfl) ⟨g0,g1,g2,g3⟩ (fun hS0=>?_)
 refine tkm 1 8 (.pointer (some ⟨w.heap.size,0,none⟩)) ?_
 refine tkm 2 9 (.slice (some ⟨b0,o0,none⟩) 3 c0) ?_
 refine tkm 4 11 (.pointer (some ⟨w.heap.size,1,none⟩)) ?_
 refine tkm 5 12 (.slice (some ⟨b1,o1,none⟩) 4 c1) ?_
 refine tkm 7 14 (.pointer (some ⟨w.heap.size,2,none⟩)) ?_
 refine tkm 8 15 (.slice (some ⟨b2,o2,none⟩) 2 c2) ?_
 refine tkm 10 17 (.pointer (some ⟨w.heap.size,3,none⟩)) ?_
 refine tkm 11 18 (.slice (some ⟨b3,o3,none⟩) 6 c3) ?_
 refine tkr 0 7 (fun K hK=>?_)
 have hsz0:w.heap.size≤W0.heap.size:=bw.size
 have q0:=(own_empty W0 3 1 w.heap.size hsz0).drew
 have hal:Below W0.heap.size W0 (W0.alloc (.cells #[] 3)).drew:=by go_grown
 replace bw:=bel_trans bw hal
 replace pP:=owns_below pP hal
 replace pQ:=owns_below pQ hal
 clear hal
 have y0:(W0.alloc (.cells #[] 3)).drew.cell? ⟨w.heap.size,0,none⟩=some (.slice (some ⟨b0,o0,none⟩) 3 c0):=by simpa using pP.cellAt 0 (by simp)
 have y1:(W0.alloc (.cells #[] 3)).drew.cell? ⟨w.heap.size,1,none⟩=some (.slice (some ⟨b1,o1,none⟩) 4 c1):=by simpa using pP.cellAt 1 (by simp)
 have y2:(W0.alloc (.cells #[] 3)).drew.cell? ⟨w.heap.size,2,none⟩=some (.slice (some ⟨b2,o2,none⟩) 2 c2):=by simpa using pP.cellAt 2 (by simp)
 have y3:(W0.alloc (.cells #[] 3)).drew.cell? ⟨w.heap.size,3,none⟩=some (.slice (some ⟨b3,o3,none⟩) 6 c3):=by simpa using pP.cellAt 3 (by simp)
 go_simp
 refine hK.out _ _ ⟨y0,y1,y2,y3⟩ (fun hS1=>?_)
 clear hK y0 y1 y2 y3
 generalize (W0.alloc (.cells #[] 3)).drew=U0 at *
 refine tkr 3 10 (fun K hK=>?_)
 refine step_append_mine rfl _ _ 27 rfl w.heap.size 3 i0 (.int .i64 0) 1 8 Tryz.underlying27 hi hz0 hz1 hz2 rfl (by decide) _ _ _ rfl q0 ⟨b0,o0,none⟩ 3 c0 (m0.map (Value.int .i64)) rfl (by simp [l0]) (ints_news (j0.below bw)) (one_i64s _) (by unfold maxLen;omega) (by omega) bw.size ?_
 intro v1 U1 q1 gr1
 replace pP:=pP.kept gr1 (owns_ne pP q0 (by decide))
 replace pQ:=pQ.kept gr1 (owns_ne pQ q0 (by decide))
 replace bw:=bw.grown gr1 bw.size (fun k hk=>(q0.lt k hk).1)
 have y0:U1.cell? ⟨w.heap.size,0,none⟩=some (.slice (some ⟨b0,o0,none⟩) 3 c0):=by simpa using pP.cellAt 0 (by simp)
 have y1:U1.cell? ⟨w.heap.size,1,none⟩=some (.slice (some ⟨b1,o1,none⟩) 4 c1):=by simpa using pP.cellAt 1 (by simp)
 have y2:U1.cell? ⟨w.heap.size,2,none⟩=some (.slice (some ⟨b2,o2,none⟩) 2 c2):=by simpa using pP.cellAt 2 (by simp)
 have y3:U1.cell? ⟨w.heap.size,3,none⟩=some (.slice (some ⟨b3,o3,none⟩) 6 c3):=by simpa using pP.cellAt 3 (by simp)
 refine hK.out _ _ ⟨y0,y1,y2,y3⟩ (fun hS2=>?_)
 clear hK y0 y1 y2 y3 q0 gr1
 simp only [Act.put,tka,tkb,tkc]
 refine tkr 6 13 (fun K hK=>?_)
 refine step_append_mine rfl _ _ 27 rfl w.heap.size 3 i0 (.int .i64 0) 1 8 Tryz.underlying27 hi hz0 hz1 hz2 rfl (by decide) _ _ _ rfl q1 ⟨b1,o1,none⟩ 4 c1 (m1.map (Value.int .i64)) rfl (by simp [l1]) (ints_news (j1.below bw)) (one_i64s _) (by unfold maxLen;omega) (by omega) bw.size ?_
 intro v2 U2 q2 gr2
 replace pP:=pP.kept gr2 (owns_ne pP q1 (by decide))
 replace pQ:=pQ.kept gr2 (owns_ne pQ q1 (by decide))
 replace bw:=bw.grown gr2 bw.size (fun k hk=>(q1.lt k hk).1)
 have y0:U2.cell? ⟨w.heap.size,0,none⟩=some (.slice (some ⟨b0,o0,none⟩) 3 c0):=by simpa using pP.cellAt 0 (by simp)
 have y1:U2.cell? ⟨w.heap.size,1,none⟩=some (.slice (some ⟨b1,o1,none⟩) 4 c1):=by simpa using pP.cellAt 1 (by simp)
 have y2:U2.cell? ⟨w.heap.size,2,none⟩=some (.slice (some ⟨b2,o2,none⟩) 2 c2):=by simpa using pP.cellAt 2 (by simp)
 have y3:U2.cell? ⟨w.heap.size,3,none⟩=some (.slice (some ⟨b3,o3,none⟩) 6 c3):=by simpa using pP.cellAt 3 (by simp)
 refine hK.out _ _ ⟨y0,y1,y2,y3⟩ (fun hS3=>?_)
 clear hK y0 y1 y2 y3 q1 gr2
 simp only [Act.put,tka,tkb,tkc]
 refine tkr 9 16 (fun K hK=>?_)
 refine step_append_mine rfl _ _ 27 rfl w.heap.size 3 i0 (.int .i64 0) 1 8 Tryz.underlying27 hi hz0 hz1 hz2 rfl (by decide) _ _ _ rfl q2 ⟨b2,o2,none⟩ 2 c2 (m2.map (Value.int .i64)) rfl (by simp [l2]) (ints_news (j2.below bw)) (one_i64s _) (by unfold maxLen;omega) (by omega) bw.size ?_
 intro v3 U3 q3 gr3
 replace pP:=pP.kept gr3 (owns_ne pP q2 (by decide))
 replace pQ:=pQ.kept gr3 (owns_ne pQ q2 (by decide))
 replace bw:=bw.grown gr3 bw.size (fun k hk=>(q2.lt k hk).1)
 have y0:U3.cell? ⟨w.heap.size,0,none⟩=some (.slice (some ⟨b0,o0,none⟩) 3 c0):=by simpa using pP.cellAt 0 (by simp)
 have y1:U3.cell? ⟨w.heap.size,1,none⟩=some (.slice (some ⟨b1,o1,none⟩) 4 c1):=by simpa using pP.cellAt 1 (by simp)
 have y2:U3.cell? ⟨w.heap.size,2,none⟩=some (.slice (some ⟨b2,o2,none⟩) 2 c2):=by simpa using pP.cellAt 2 (by simp)
 have y3:U3.cell? ⟨w.heap.size,3,none⟩=some (.slice (some ⟨b3,o3,none⟩) 6 c3):=by simpa using pP.cellAt 3 (by simp)
 refine hK.out _ _ ⟨y0,y1,y2,y3⟩ (fun hS4=>?_)
 clear hK y0 y1 y2 y3 q2 gr3
 simp only [Act.put,tka,tkb,tkc]
 refine tkr 12 19 (fun K hK=>?_)
 refine step_append_mine rfl _ _ 27 rfl w.heap.size 3 i0 (.int .i64 0) 1 8 Tryz.underlying27 hi hz0 hz1 hz2 rfl (by decide) _ _ _ rfl q3 ⟨b3,o3,none⟩ 6 c3 (m3.map (Value.int .i64)) rfl (by simp [l3]) (ints_news (j3.below bw)) (one_i64s _) (by unfold maxLen;omega) (by omega) bw.size ?_
 intro v4 U4 q4 gr4
 replace pP:=pP.kept gr4 (owns_ne pP q3 (by decide))
 replace pQ:=pQ.kept gr4 (owns_ne pQ q3 (by decide))
 replace bw:=bw.grown gr4 bw.size (fun k hk=>(q3.lt k hk).1)
 have y0:U4.cell? ⟨w.heap.size,0,none⟩=some (.slice (some ⟨b0,o0,none⟩) 3 c0):=by simpa using pP.cellAt 0 (by simp)
 have y1:U4.cell? ⟨w.heap.size,1,none⟩=some (.slice (some ⟨b1,o1,none⟩) 4 c1):=by simpa using pP.cellAt 1 (by simp)
 have y2:U4.cell? ⟨w.heap.size,2,none⟩=some (.slice (some ⟨b2,o2,none⟩) 2 c2):=by simpa using pP.cellAt 2 (by simp)
 have y3:U4.cell? ⟨w.heap.size,3,none⟩=some (.slice (some ⟨b3,o3,none⟩) 6 c3):=by simpa using pP.cellAt 3 (by simp)
 refine hK.out _ _ ⟨y0,y1,y2,y3⟩ (fun hS5=>?_)
 clear hK y0 y1 y2 y3 q3 gr4
 simp only [Act.put,tka,tkb,tkc]
 refine tkm 13 4 v4 ?_
 refine wpAnyH_done (by kernel_rfl) ?_ _
 clear hS0 hS1 hS2 hS3 hS4 hS5 pP g0 g1 g2 g3 hsz0 hi hz0 hz1 hz2
 have q5:U4.ownsRow w.heap.size 3 1 v4 15 (zs.map (Value.int .i64)):=by
  rw [hall]
  simpa [List.append_assoc] using q4
 clear q4 hall
 obtain ⟨g,capA,rfl⟩:∃ g c,v4=.slice (some ⟨g,0,none⟩) 15 c:=by
  rcases q5.2 with ⟨rfl,h5⟩ | ⟨g,cap,cur,hv,_⟩
  ·exact absurd h5 (by decide)
  ·exact ⟨g,cap,hv⟩
 have hl15:zs.length=15:=by simpa using q5.1
 have HL:Hid (zs.length=15):=hl15
 clear hl15
 obtain ⟨i8,hi8,hy0,hy1,hy2⟩:=info_parts info_u8
 go_wp2
 go_loopw [3,5] (fun so si wr=>∃ j:Nat,j≤15∧si=.int .i64 j∧wr.ownsRow w.heap.size 5 1 so j (u8s ((zs.map fun z=>48+z).take j))∧wr.ownsRow w.heap.size 3 1 (.slice (some ⟨g,0,none⟩) 15 capA) 15 (zs.map (Value.int .i64))∧Below w.heap.size w wr) (fun _ si _=>15 - (intOf si).toNat)
 case atStart=>exact ⟨0,by omega,rfl,by simpa using pQ,q5,bw⟩
 case round =>
  clear pQ q5 bw
  obtain ⟨j,hj,rfl,hr,hq,hbw⟩:=hrel
  by_cases hlt:j<15
  ·have hjl:j<zs.length:=by rw [HL.out];exact hlt
   have hc:wr.cell? ⟨g,j,none⟩=some (.int .i64 (zs.getD j 0)):=by
    have:=hq.cellAt j (by omega)
    rw [this]
    simp [List.getD,hjl]
   have hx:=HD.out (zs.getD j 0) (by simp [List.getD,hjl])
   have HX:Hid ((zs.map fun z=>48+z).take (j+1)=(zs.map fun z=>48+z).take j++[48+zs.getD j 0]):=by
    rw [Hid,List.take_succ_eq_append_getElem (by simpa using hjl)]
    simp [List.getD,hjl]
   obtain ⟨d,hd⟩:∃ d:Nat,zs.getD j 0=(d:Int):=⟨(zs.getD j 0).toNat,by omega⟩
   rw [hd] at hc hx HX
   have hd9:d≤9:=by omega
   clear hx hd hjl
   have hsz:=hbw.size
   have hj15:(j:Int)<15:=by omega
   go_wp2_with (at_builtin;refine wpList_append_own _ rfl _ _ 22 rfl w.heap.size 5 i8 (.int .u8 0) 1 1 Tryz.underlying22 hi8 hy0 hy1 hy2 rfl (by decide) _ _ _ rfl (hr.alloc _) ⟨wr.heap.size,0,none⟩ 1 1 [.int .u8 (48+(d:Int))] rfl rfl (cell_one_new _ _ _) (one_u8 _) ?c3 ?c4 ?c5 ?_)
   case c3=>unfold maxLen;omega
   case c4=>omega
   case c5=>simp;omega
   intro v' w2 hown' hgrow _
   have R:w2.ownsRow w.heap.size 5 1 v' (j+1) (u8s ((zs.map fun z=>48+z).take (j+1))):=by
    rw [HX.out]
    simpa [u8s] using hown'
   have hq2:=(hq.alloc (.cells #[.int .u8 (48+(d:Int))] 5)).kept hgrow (owns_ne hq hr (by decide))
   have b2:Below w.heap.size w w2:=(hbw.alloc hsz _).grown hgrow (by simp;omega) (fun k hk=>(hr.lt k hk).1)
   clear hown' hgrow hr hq hbw hc HX
   go_wp2
   go_roundw
   case rel=>exact ⟨j+1,by omega,by go_num,R,hq2,b2⟩
   case measure=>simp [intOf];omega
  ·obtain rfl:j=15:=by omega
   have hfull:(zs.map fun z=>48+z).take 15=zs.map fun z=>48+z:=List.take_of_length_le (by simp [HL.out])
   rw [hfull] at hr
   have hcv:=conv_owned hr
   rw [← HF.out] at hcv
   clear hr hq hfull
   go_wp2
   go_ret
   exact ⟨rfl,hbw⟩
end Go.Proofs.YtifoggpohlegmaaGreatDoor
