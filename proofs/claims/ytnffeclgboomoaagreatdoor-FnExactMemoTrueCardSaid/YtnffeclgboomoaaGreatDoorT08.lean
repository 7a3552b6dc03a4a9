/-
  Joined: Vm3, Plain, Conv, Parts, Vm4, Mach0, Kit8.
-/
import Derived.Laws.BytesArg
import Derived.Deep.RegionLaw
import Derived.Laws.OwnMore
import Derived.Maps.AppendAt
import Derived.Lib.Hide
import Derived.Test.YtnffeclgboomoaaGreatDoorT04
import Derived.Test.YtnffeclgboomoaaGreatDoorT07

namespace Go.Proofs.YtnffeclgboomoaaGreatDoor
set_option maxRecDepth 100000
set_option maxHeartbeats 16000000
open Go.RowKit

def YC (zs:List Int) (n high:Int):Bool:=zs.all (fun z=>decide (0≤z∧z≤high)) && decide ((zs.length:Int)=n)
def Zd (m:V4):Bool:=YC m.1 3 6 && (YC m.2.1 4 9 && (YC m.2.2.1 2 3 && YC m.2.2.2 6 9))
theorem P5 {zs:List Int} {n high:Int} {k:Nat} (hk:k<zs.length) (h:¬ (0≤zs.getD k 0∧zs.getD k 0≤high)):YC zs n high=false:=by
 unfold YC
 have:zs.all (fun z=>decide (0≤z∧z≤high))=false:=by
  rw [List.all_eq_false]
  refine ⟨zs.getD k 0,by simp [List.getD,hk],?_⟩
  simpa using h
 rw [this];rfl
theorem Qz {zs:List Int} {n high:Int} (h:∀ i,i<zs.length→0≤zs.getD i 0∧zs.getD i 0≤high):YC zs n high=decide ((zs.length:Int)=n):=by
 unfold YC
 have:zs.all (fun z=>decide (0≤z∧z≤high))=true:=by
  rw [List.all_eq_true]
  intro z hz
  obtain ⟨i,hi,rfl⟩:=List.getElem_of_mem hz
  have:=h i hi
  simpa [List.getD,hi] using this
 rw [this];rfl

theorem Ux (a:Option Addr) (len cap:Nat) (zs:List Int) (n high:Int) (w:World) (h:Z2 .i64 w a len cap zs) :
  Calls Tryz.prog 220 #[.slice a len cap,.int .i64 n,.int .i64 high] w fun e w'=>e=.returned (.bool (YC zs n high))∧w=w':=by
 obtain ⟨hl,hlc,hcm,hcase⟩:=h
 unfold maxLen at hcm
 obtain ⟨fin,hfin⟩:∃ fin,fin=YC zs n high:=⟨_,rfl⟩
 rw [← hfin]
 have HF:Hid (fin=YC zs n high):=hfin
 clear hfin
 have hend:∀ b:Bool,b=decide ((len:Int)=n)→Hid (∀ i,i<zs.length→0≤zs.getD i 0∧zs.getD i 0≤high)→fin=b:=fun b hb h=>by rw [HF.out,Qz h.out,hb,hl]
 obtain ⟨b,hb⟩:∃ b,b=decide ((len:Int)=n):=⟨_,rfl⟩
 have he:=hend b hb
 have hb2:((len:Int) == n)=b:=by rw [hb];by_cases h:(len:Int)=n<;>simp [h]
 clear hend hb
 have HE:Hid (Hid (∀ i,i<zs.length→0≤zs.getD i 0∧zs.getD i 0≤high)→fin=b):=he
 clear he
 by_cases h0:len=0
 ·subst h0
  obtain rfl:fin=b:=HE.out (fun i hi=>by omega)
  clear HE HF
  go_enter Tryz.func220,Tryz.ntmps220
  go_wp2
  refine wp_loop_rounds 1 ?_
  rw [rounds_succ]
  simp only [Int.natCast_zero] at hb2
  go_wp2
  go_ret
  exact ⟨rfl,rfl⟩
 rcases hcase with h0' | ⟨bk,off,rfl,hblt,hcell⟩
 ·exact absurd h0' h0
 go_enter Tryz.func220,Tryz.ntmps220
 go_wp2
 go_loopw [7] (fun si wr=>∃ k:Nat,k≤len∧si=.int .i64 k∧Hid (∀ i,i<k→0≤zs.getD i 0∧zs.getD i 0≤high)∧w=wr) (fun si _=>len - (intOf si).toNat)
 case atStart=>exact ⟨0,by omega,rfl,(fun i hi=>by omega),rfl⟩
 case round =>
  obtain ⟨k,hk,rfl,HK,rfl⟩:=hrel
  by_cases hlt:k<len
  ·have hc:=hcell k hlt
   have hlt':(k:Int)<(len:Int):=by omega
   by_cases hin:0≤zs.getD k 0∧zs.getD k 0≤high
   ·have HK2:Hid (∀ i,i<k+1→0≤zs.getD i 0∧zs.getD i 0≤high):=fun i hi=>by
     by_cases e:i=k
     ·subst e;exact hin
     exact HK.out i (by omega)
    have kI:=fun w=>Uw (zs.getD k 0) 0 high w hin
    clear hcell hin
    generalize zs.getD k 0=x at hc kI
    go_wp2_with fail
    refine (kI _).mono ?_
    rintro e w1 ⟨rfl,rfl⟩
    go_wp2
    go_roundw
    case rel=>exact ⟨k+1,by omega,by go_num,HK2,by trivial⟩
    case measure=>simp [intOf];omega
   obtain rfl:fin=false:=by rw [HF.out];exact P5 (by omega) hin
   have kI:=fun w=>Tp (zs.getD k 0) 0 high w hin
   clear hcell hin HE HF
   generalize zs.getD k 0=x at hc kI
   go_wp2_with fail
   refine (kI _).mono ?_
   rintro e w1 ⟨rfl,rfl⟩
   go_wp2
   go_ret
   exact ⟨rfl,rfl⟩
  obtain rfl:k=len:=by omega
  obtain rfl:fin=b:=HE.out (fun i hi=>HK.out i (by omega))
  clear hcell HE HF HK
  go_wp2
  go_ret
  exact ⟨rfl,rfl⟩

theorem Su (s:S4) (m:V4) (w:World) (h:Yy w s m) :
  Calls Tryz.prog 192 #[s.val] w fun e w'=>e=.returned (.bool (Zd m))∧Below w.heap.size w w':=by
 obtain ⟨⟨i0,_⟩,⟨i1,_⟩,⟨i2,_⟩,⟨i3,_⟩⟩:=h
 obtain ⟨⟨a0,n0,c0⟩,⟨a1,n1,c1⟩,⟨a2,n2,c2⟩,⟨a3,n3,c3⟩⟩:=s
 obtain ⟨m0,m1,m2,m3⟩:=m
 unfold S4.val Zd
 simp only at i0 i1 i2 i3 ⊢
 have bw:Below w.heap.size w (w.alloc (.cells #[.slice a0 n0 c0,.slice a1 n1 c1,.slice a2 n2 c2,.slice a3 n3 c3] 112)):=by go_grown
 have k0:=Ux a0 n0 c0 m0 3 6 _ (i0.below bw)
 have k1:=Ux a1 n1 c1 m1 4 9 _ (i1.below bw)
 have k2:=Ux a2 n2 c2 m2 2 3 _ (i2.below bw)
 have k3:=Ux a3 n3 c3 m3 6 9 _ (i3.below bw)
 clear i0 i1 i2 i3
 generalize YC m0 3 6=x0 at *
 generalize YC m1 4 9=x1 at *
 generalize YC m2 2 3=x2 at *
 generalize YC m3 6 9=x3 at *
 go_enter Tryz.func192,Tryz.ntmps192
 go_wp2_with fail
 refine k0.mono ?_
 rintro e w1 ⟨rfl,rfl⟩
 cases x0
 ·go_wp2
  go_ret
  exact ⟨rfl,bw⟩
 go_wp2_with fail
 refine k1.mono ?_
 rintro e w1 ⟨rfl,rfl⟩
 cases x1
 ·go_wp2
  go_ret
  exact ⟨rfl,bw⟩
 go_wp2_with fail
 refine k2.mono ?_
 rintro e w1 ⟨rfl,rfl⟩
 cases x2
 ·go_wp2
  go_ret
  exact ⟨rfl,bw⟩
 go_wp2_with fail
 refine k3.mono ?_
 rintro e w1 ⟨rfl,rfl⟩
 cases x3
 ·go_wp2
  go_ret
  exact ⟨rfl,bw⟩
 go_wp2
 go_ret
 exact ⟨rfl,bw⟩

theorem Mb (a:Option Addr) (len cap:Nat) (rows:List (List I3)) (s:S4) (m:V4) (w:World) (hC:ZZ w a len cap rows) (h:Yy w s m) :
  Calls Tryz.prog 145 #[.agg #[.slice a len cap],s.val] w fun e w'=>e=.returned (.bool (Zj rows && Zd m))∧Below w.heap.size w w':=by
 have kP:=XT a len cap rows
 have kS:=Su s m
 generalize Zj rows=x at *
 generalize Zd m=y at *
 obtain ⟨⟨a0,n0,c0⟩,⟨a1,n1,c1⟩,⟨a2,n2,c2⟩,⟨a3,n3,c3⟩⟩:=s
 unfold S4.val at kS ⊢
 simp only at kS ⊢
 have hu:Hid (∀ W,Below w.heap.size w W→Yy W ((a0,n0,c0),(a1,n1,c1),(a2,n2,c2),(a3,n3,c3)) m):=fun W hb=>h.below hb
 have bw:Below w.heap.size w ((w.alloc (.cells #[.slice a len cap] 25)).alloc (.cells #[.slice a0 n0 c0,.slice a1 n1 c1,.slice a2 n2 c2,.slice a3 n3 c3] 112)):=by go_grown
 have cS:∀ j v,[Value.slice a0 n0 c0,.slice a1 n1 c1,.slice a2 n2 c2,.slice a3 n3 c3][j]?=some v→((w.alloc (.cells #[.slice a len cap] 25)).alloc (.cells #[.slice a0 n0 c0,.slice a1 n1 c1,.slice a2 n2 c2,.slice a3 n3 c3] 112)).cell? ⟨w.heap.size+1,j,none⟩=some v:=by
  intro j v hj
  match j,hj with
  | 0,hj=>simp at hj;subst hj;simp [go_sem]
  | 1,hj=>simp at hj;subst hj;simp [go_sem]
  | 2,hj=>simp at hj;subst hj;simp [go_sem]
  | 3,hj=>simp at hj;subst hj;simp [go_sem]
  | (j+4),hj=>simp at hj
 have s0:=cS 0 _ rfl
 have s1:=cS 1 _ rfl
 have s2:=cS 2 _ rfl
 have s3:=cS 3 _ rfl
 clear cS
 go_enter Tryz.func145,Tryz.ntmps145
 go_wp2_with fail
 refine (kP _ (hC.below bw)).mono ?_
 rintro e w1 ⟨rfl,hb⟩
 replace bw:=Zb bw hb
 replace s0:=Za hb _ _ s0
 replace s1:=Za hb _ _ s1
 replace s2:=Za hb _ _ s2
 replace s3:=Za hb _ _ s3
 clear hb hC kP
 cases x
 ·go_wp2
  go_ret
  exact ⟨rfl,bw⟩
 go_wp2_with fail
 refine (kS _ (hu.out _ bw)).mono ?_
 rintro e w2 ⟨rfl,hb⟩
 replace bw:=Zb bw hb
 cases y
 ·go_wp2
  go_ret
  exact ⟨rfl,bw⟩
 go_wp2
 go_ret
 exact ⟨rfl,bw⟩


def YY (n:Nat):List Int:=
 if n<128 then [(n:Int)]
 else if n<16384 then [(n:Int) % 128+128,(n:Int) / 128]
 else if n<2097152 then [(n:Int) % 128+128,(n:Int) / 128 % 128+128,(n:Int) / 16384]
 else if n<268435456 then [(n:Int) % 128+128,(n:Int) / 128 % 128+128,(n:Int) / 16384 % 128+128,(n:Int) / 2097152]
 else [(n:Int) % 128+128,(n:Int) / 128 % 128+128,(n:Int) / 16384 % 128+128,(n:Int) / 2097152 % 128+128,(n:Int) / 268435456]

theorem UY {n:Nat} (h:n<128):YY n=[(n:Int)]:=by unfold YY;rw [if_pos h]
theorem Hx {n:Nat} (h:128≤n) (k:n<16384):YY n=[(n:Int) % 128+128,(n:Int) / 128]:=by
 unfold YY;rw [if_neg (by omega),if_pos k]
theorem Hy {n:Nat} (h:16384≤n) (k:n<2097152):YY n=[(n:Int) % 128+128,(n:Int) / 128 % 128+128,(n:Int) / 16384]:=by
 unfold YY;rw [if_neg (by omega),if_neg (by omega),if_pos k]
theorem Hz {n:Nat} (h:2097152≤n) (k:n<268435456):YY n=[(n:Int) % 128+128,(n:Int) / 128 % 128+128,(n:Int) / 16384 % 128+128,(n:Int) / 2097152]:=by
 unfold YY;rw [if_neg (by omega),if_neg (by omega),if_neg (by omega),if_pos k]
theorem Fh {n:Nat} (h:268435456≤n):YY n=[(n:Int) % 128+128,(n:Int) / 128 % 128+128,(n:Int) / 16384 % 128+128,(n:Int) / 2097152 % 128+128,(n:Int) / 268435456]:=by
 unfold YY;rw [if_neg (by omega),if_neg (by omega),if_neg (by omega),if_neg (by omega)]
theorem Jr {n:Nat} (h:128≤n) (h2:n<34359738368):YY n=((n:Int) % 128+128)::YY (n / 128):=by
 have hc:((n / 128:Nat):Int)=(n:Int) / 128:=by omega
 by_cases h3:n<16384
 ·rw [Hx h h3,UY (by omega),hc]
 by_cases h4:n<2097152
 ·rw [Hy (by omega) h4,Hx (by omega) (by omega),hc]
  simp only [List.cons.injEq,true_and,and_true]
  omega
 by_cases h5:n<268435456
 ·rw [Hz (by omega) h5,Hy (by omega) (by omega),hc]
  simp only [List.cons.injEq,true_and,and_true]
  omega
 rw [Fh (by omega),Hz (by omega) (by omega),hc]
 simp only [List.cons.injEq,true_and,and_true]
 omega
theorem Vi (n:Nat):1≤(YY n).length∧(YY n).length≤5:=by
 unfold YY
 repeat' split
 all_goals simp
theorem Q1 (n:Nat) (h2:n<34359738368):∀ x ∈ YY n,0≤x∧x≤255:=by
 unfold YY
 repeat' split
 all_goals (intro x hx;simp at hx;omega)

theorem Lc (xs ys:List Int):strOfNums (xs++ys)=strOfNums xs++strOfNums ys:=by
 apply ByteArray.ext
 simp [strOfNums]


theorem PD:(Tryz.prog.info? 5).map (fun i=>(i.zero,i.size,i.bytes))=some (some (.int .u8 0),1,1):=by kernel_rfl
abbrev u8s (xs:List Int):List Value:=xs.map (Value.int .u8)

theorem UO {w:World} {base n:Nat} {v:Value} {xs:List Int} (h:w.ownsRow base 5 1 v n (u8s xs)) :
  (convert 22 9 v).run Tryz.prog w=.ok (.string (strOfNums xs)) w:=by
 obtain ⟨hl,h2⟩:=h
 simp at hl
 rcases h2 with ⟨rfl,rfl⟩ | ⟨g,cap,cur,rfl,hg,hh,hn,hc,hs,ht⟩
 ·have:xs=[]:=by simpa using hl
  subst this
  exact run_convert_bytes_nil w 22 5 Tryz.underlying22 Tryz.underlying5 0 0 9 Tryz.underlying9
 refine run_convert_bytes_arg w 22 5 Tryz.underlying22 Tryz.underlying5 g 0 n cap xs hl (fun i hi=>?_) 9 Tryz.underlying9
 have hown:w.ownsRow base 5 1 (.slice (some ⟨g,0,none⟩) n cap) n (u8s xs):=⟨by simpa using hl,.inr ⟨g,cap,cur,rfl,hg,hh,hn,hc,hs,ht⟩⟩
 have:=hown.cellAt i (by omega)
 rw [Nat.zero_add,this]
 simp [List.getElem?_eq_getElem (show i<xs.length by omega)]

theorem UU (n:Int):∀ u ∈ [Value.int .u8 n],u.oneCell'=true:=by intro u hu;simp at hu;subst hu;rfl


def ZT (xs:List I3):List Int:=xs.flatMap fun x=>[x.1,x.2.1,x.2.2]
theorem Xd (xs:List I3):(ZT xs).length=xs.length*3:=by
 induction xs with
 | nil=>rfl
 | cons x xs ih=>simp [ZT] at *;omega
theorem PV {xs:List I3} {k:Nat} (hk:k<xs.length):ZT (xs.take (k+1))=ZT (xs.take k)++[(xs.getD k (0,0,0)).1,(xs.getD k (0,0,0)).2.1,(xs.getD k (0,0,0)).2.2]:=by
 unfold ZT
 rw [List.take_succ_eq_append_getElem hk,List.flatMap_append]
 simp [List.getD,hk]
theorem RG {n:Nat}:∀ {xs:List I3} {i:Nat},Yq n i xs=true→∀ x ∈ xs,okI x=true
 | [],_,_,x,hx=>by cases hx
 | y::ys,i,h,x,hx=>by
  unfold Yq at h
  simp only [Bool.and_eq_true] at h
  rcases List.mem_cons.1 hx with rfl | hx
  ·exact h.1.1
  exact RG h.2 x hx
theorem Ws {rows:List (List I3)} (h:Zj rows=true):rows.length=3∧∀ r ∈ rows,r.length≤6∧∀ x ∈ r,okI x=true:=by
 unfold Zj at h
 simp only [Bool.and_eq_true,decide_eq_true_eq,List.all_eq_true] at h
 refine ⟨h.1,fun r hr=>?_⟩
 have:=h.2 r hr
 unfold Yb at this
 simp only [Bool.and_eq_true,decide_eq_true_eq] at this
 exact ⟨this.1,RG this.2⟩
theorem Xm {P:Program} {ops:Array Oper} {o:Oper} {a:Act} {w:World} {K:Act→World→Prop} {Q:Exit→Act→World→Prop} {E:Prop}
  (hg:o.guard=none) (s x:Operand) (t:TypeId) (hop:o.op=Op.call { callee:=Callee.builtin Builtin.append,args:=#[s,x],argTypes:=#[t,t] })
  (base:Nat) (e:TypeId) (i:TypeInfo) (z:Value) (size bytes:Nat) (h1:P.underlying t=some (.slice e)) (h2:P.info? e=some i) (h3:i.zero=some z) (h4:i.size=size) (h5:i.bytes=bytes) (h6:z.cells.size=size) (h7:0<size)
  (v:Value) (n:Nat) (olds:List Value) (hs:a.eval s=v) (hown:w.ownsRow base e size v n olds)
  (ad:Addr) (m c:Nat) (news:List Value) (hx:a.eval x=.slice (some ad) m c) (hn:news.length=m*size) (hc:∀ j u,news[j]?=some u→w.cell? (ad.add j)=some u) (h1c:∀ u ∈ news,u.oneCell'=true)
  (b1:n+m≤maxLen) (b2:(n+m)*bytes≤140737488355328) (hbw:base≤w.heap.size)
  (hK:∀ v' w',w'.ownsRow base e size v' (n+m) (olds++news)→w.grownBy w' v.ownBlock→K (a.put o.dst v') w') :
  if Region.wanted o (yielded ops a.tmps)=true then Oper.wp P o a w K Q else E:=by
 have hw:Region.wanted o (yielded ops a.tmps)=true:=by simp [Region.wanted,hg]
 rw [if_pos hw]
 obtain ⟨v',w',hrun,r1,r2,_⟩:=run_append_own (P:=P) w base t o.type e i z size bytes h1 h2 h3 h4 h5 h6 h7 v n olds hown ad m c news hn hc h1c b1 b2 hbw
 subst hs
 unfold Oper.wp
 simp [execOp,hop,resolve,invoke,builtin,hx,hrun,Result.andThen]
 exact hK v' w' r1 r2
theorem Rd (w:World) (x y z:Value) (t:TypeId):∀ j u,[x,y,z][j]?=some u→(w.alloc (.cells #[x,y,z] t)).cell? ((⟨w.heap.size,0,none⟩:Addr).add j)=some u:=by
 intro j u hj
 match j,hj with
 | 0,hj=>simp at hj;subst hj;simp [Addr.add]
 | 1,hj=>simp at hj;subst hj;simp [Addr.add]
 | 2,hj=>simp at hj;subst hj;simp [Addr.add]
 | (j+3),hj=>simp at hj


def Xy (m:V4):List Int:=((m.1++m.2.1)++m.2.2.1)++m.2.2.2
def Zs (m:V4):ByteArray:=strOfNums ((Xy m).map fun z=>48+z)
theorem YI {zs:List Int} {n high:Int} (h:YC zs n high=true):(zs.length:Int)=n∧∀ z ∈ zs,0≤z∧z≤high:=by
 unfold YC at h
 simp at h
 exact ⟨h.2,h.1⟩
theorem ZI {m:V4} (h:Zd m=true):m.1.length=3∧m.2.1.length=4∧m.2.2.1.length=2∧m.2.2.2.length=6∧∀ z ∈ Xy m,0≤z∧z≤9:=by
 unfold Zd at h
 simp only [Bool.and_eq_true] at h
 obtain ⟨h0,h1,h2,h3⟩:=h
 obtain ⟨l0,e0⟩:=YI h0
 obtain ⟨l1,e1⟩:=YI h1
 obtain ⟨l2,e2⟩:=YI h2
 obtain ⟨l3,e3⟩:=YI h3
 refine ⟨by omega,by omega,by omega,by omega,fun z hz=>?_⟩
 unfold Xy at hz
 simp only [List.mem_append] at hz
 rcases hz with ((hz | hz) | hz) | hz
 ·have:=e0 z hz;omega
 ·exact e1 z hz
 ·have:=e2 z hz;omega
 exact e3 z hz
theorem Xr {w:World} {b off n c:Nat} {zs:List Int} (h:Z2 .i64 w (some ⟨b,off,none⟩) n c zs):∀ j u,(zs.map (Value.int .i64))[j]?=some u→w.cell? ((⟨b,off,none⟩:Addr).add j)=some u:=by
 obtain ⟨hl,_,_,h0⟩:=h
 intro j u hj
 have hjl:j<zs.length:=by
  rcases Nat.lt_or_ge j zs.length with h | h
  ·exact h
  simp [List.getElem?_eq_none h] at hj
 rcases h0 with h0 | ⟨b',off',ha,_,hc⟩
 ·omega
 cases ha
 have e:(⟨b,off,none⟩:Addr).add j=⟨b,off+j,none⟩:=by unfold Addr.add;split<;>simp_all
 rw [e,hc j (by omega)]
 simp [hjl] at hj
 simp [List.getD,hjl,hj]
theorem Wh (zs:List Int):∀ u ∈ zs.map (Value.int .i64),u.oneCell'=true:=by intro u hu;obtain ⟨z,_,rfl⟩:=List.mem_map.1 hu;rfl
theorem XQ (w:World) (t s B:Nat) (hB:B≤w.heap.size):(w.alloc (.cells #[] t)).ownsRow B t s (.slice (some ⟨w.heap.size,0,none⟩) 0 0) 0 []:=World.ownsRow_lit w #[] 0 hB (by unfold maxLen;omega) (by simp)
theorem Zq {w:World} {a:Option Addr} {n c k:Nat} {zs:List Int} (h:Z2 .i64 w a n c zs) (hl:zs.length=k) (hk:0<k):n=k∧∃ b off,a=some ⟨b,off,none⟩:=by
 have hn:n=k:=h.1.symm.trans hl
 rcases h.2.2.2 with h0 | ⟨b,off,ha,_⟩
 ·omega
 exact ⟨hn,b,off,ha⟩

theorem T8 (s:S4) (m:V4) (w:World) (h:Yy w s m) (hok:Zd m=true) :
  Calls Tryz.prog 166 #[s.val] w fun e w'=>e=.returned (.string (Zs m))∧Below w.heap.size w w':=by
 obtain ⟨i0,hi,hz0,hz1,hz2⟩:=info_parts XC
 obtain ⟨l0,l1,l2,l3,hdig⟩:=ZI hok
 have HD:Hid (∀ z ∈ Xy m,0≤z∧z≤9):=hdig
 obtain ⟨fin,hfin⟩:∃ fin,fin=Zs m:=⟨_,rfl⟩
 rw [← hfin]
 have HF:Hid (fin=strOfNums ((Xy m).map fun z=>48+z)):=hfin
 clear hdig hfin hok
 obtain ⟨⟨j0,_⟩,⟨j1,_⟩,⟨j2,_⟩,⟨j3,_⟩⟩:=h
 obtain ⟨⟨a0,n0,c0⟩,⟨a1,n1,c1⟩,⟨a2,n2,c2⟩,⟨a3,n3,c3⟩⟩:=s
 obtain ⟨zs,hzs⟩:∃ zs,zs=Xy m:=⟨_,rfl⟩
 rw [← hzs] at HD HF
 have hall:zs=((m.1++m.2.1)++m.2.2.1)++m.2.2.2:=hzs
 clear hzs
 obtain ⟨m0,m1,m2,m3⟩:=m
 simp only at j0 j1 j2 j3 l0 l1 l2 l3 hall
 obtain ⟨rfl,b0,o0,rfl⟩:=Zq j0 l0 (by omega)
 obtain ⟨rfl,b1,o1,rfl⟩:=Zq j1 l1 (by omega)
 obtain ⟨rfl,b2,o2,rfl⟩:=Zq j2 l2 (by omega)
 obtain ⟨rfl,b3,o3,rfl⟩:=Zq j3 l3 (by omega)
 unfold S4.val
 simp only
 have bw:Below w.heap.size w ((w.alloc (.cells #[.slice (some ⟨b0,o0,none⟩) 3 c0,.slice (some ⟨b1,o1,none⟩) 4 c1,.slice (some ⟨b2,o2,none⟩) 2 c2,.slice (some ⟨b3,o3,none⟩) 6 c3] 112)).alloc (.cells #[] 5)):=by go_grown
 have pP:((w.alloc (.cells #[.slice (some ⟨b0,o0,none⟩) 3 c0,.slice (some ⟨b1,o1,none⟩) 4 c1,.slice (some ⟨b2,o2,none⟩) 2 c2,.slice (some ⟨b3,o3,none⟩) 6 c3] 112)).alloc (.cells #[] 5)).ownsRow w.heap.size 112 4 (.slice (some ⟨w.heap.size,0,none⟩) 1 1) 1 [.slice (some ⟨b0,o0,none⟩) 3 c0,.slice (some ⟨b1,o1,none⟩) 4 c1,.slice (some ⟨b2,o2,none⟩) 2 c2,.slice (some ⟨b3,o3,none⟩) 6 c3]:=(FO w _ _ _ _ 112 w.heap.size (Nat.le_refl _)).alloc _
 have pQ:((w.alloc (.cells #[.slice (some ⟨b0,o0,none⟩) 3 c0,.slice (some ⟨b1,o1,none⟩) 4 c1,.slice (some ⟨b2,o2,none⟩) 2 c2,.slice (some ⟨b3,o3,none⟩) 6 c3] 112)).alloc (.cells #[] 5)).ownsRow w.heap.size 5 1 (.slice (some ⟨w.heap.size+1,0,none⟩) 0 0) 0 (u8s []):=by
  have h9:=XQ (w.alloc (.cells #[.slice (some ⟨b0,o0,none⟩) 3 c0,.slice (some ⟨b1,o1,none⟩) 4 c1,.slice (some ⟨b2,o2,none⟩) 2 c2,.slice (some ⟨b3,o3,none⟩) 6 c3] 112)) 5 1 w.heap.size (by simp)
  simp only [World.size_alloc] at h9
  exact h9
 go_enter Tryz.func166,Tryz.ntmps166
 go_wp2_with fail
 generalize ((w.alloc (.cells #[.slice (some ⟨b0,o0,none⟩) 3 c0,.slice (some ⟨b1,o1,none⟩) 4 c1,.slice (some ⟨b2,o2,none⟩) 2 c2,.slice (some ⟨b3,o3,none⟩) 6 c3] 112)).alloc (.cells #[] 5))=W0 at *
 generalize w.heap.size+1=Q at *
 have g0:W0.cell? ⟨w.heap.size,0,none⟩=some (.slice (some ⟨b0,o0,none⟩) 3 c0):=by simpa using pP.cellAt 0 (by simp)
 have g1:W0.cell? ⟨w.heap.size,1,none⟩=some (.slice (some ⟨b1,o1,none⟩) 4 c1):=by simpa using pP.cellAt 1 (by simp)
 have g2:W0.cell? ⟨w.heap.size,2,none⟩=some (.slice (some ⟨b2,o2,none⟩) 2 c2):=by simpa using pP.cellAt 2 (by simp)
 have g3:W0.cell? ⟨w.heap.size,3,none⟩=some (.slice (some ⟨b3,o3,none⟩) 6 c3):=by simpa using pP.cellAt 3 (by simp)
 refine wp_region_held_drew (S:=(fun w'=>w'.cell? ⟨w.heap.size,0,none⟩=some (.slice (some ⟨b0,o0,none⟩) 3 c0)∧w'.cell? ⟨w.heap.size,1,none⟩=some (.slice (some ⟨b1,o1,none⟩) 4 c1)∧w'.cell? ⟨w.heap.size,2,none⟩=some (.slice (some ⟨b2,o2,none⟩) 2 c2)∧w'.cell? ⟨w.heap.size,3,none⟩=some (.slice (some ⟨b3,o3,none⟩) 6 c3))) (by kernel_rfl) ⟨g0,g1,g2,g3⟩ (fun hS0=>?_)
 refine tkm 1 8 (.pointer (some ⟨w.heap.size,0,none⟩)) ?_
 refine tkm 2 9 (.slice (some ⟨b0,o0,none⟩) 3 c0) ?_
 refine tkm 4 11 (.pointer (some ⟨w.heap.size,1,none⟩)) ?_
 refine tkm 5 12 (.slice (some ⟨b1,o1,none⟩) 4 c1) ?_
 refine tkm 7 14 (.pointer (some ⟨w.heap.size,2,none⟩)) ?_
 refine tkm 8 15 (.slice (some ⟨b2,o2,none⟩) 2 c2) ?_
 refine tkm 10 17 (.pointer (some ⟨w.heap.size,3,none⟩)) ?_
 refine tkm 11 18 (.slice (some ⟨b3,o3,none⟩) 6 c3) ?_
 refine tkr 0 7 (fun K hK=>?_)
 have hsz0:w.heap.size≤W0.heap.size:=bw.size
 have q0:=(XQ W0 3 1 w.heap.size hsz0).drew
 have hal:Below W0.heap.size W0 (W0.alloc (.cells #[] 3)).drew:=by go_grown
 replace bw:=Zb bw hal
 replace pP:=Zz pP hal
 replace pQ:=Zz pQ hal
 clear hal
 have y0:(W0.alloc (.cells #[] 3)).drew.cell? ⟨w.heap.size,0,none⟩=some (.slice (some ⟨b0,o0,none⟩) 3 c0):=by simpa using pP.cellAt 0 (by simp)
 have y1:(W0.alloc (.cells #[] 3)).drew.cell? ⟨w.heap.size,1,none⟩=some (.slice (some ⟨b1,o1,none⟩) 4 c1):=by simpa using pP.cellAt 1 (by simp)
 have y2:(W0.alloc (.cells #[] 3)).drew.cell? ⟨w.heap.size,2,none⟩=some (.slice (some ⟨b2,o2,none⟩) 2 c2):=by simpa using pP.cellAt 2 (by simp)
 have y3:(W0.alloc (.cells #[] 3)).drew.cell? ⟨w.heap.size,3,none⟩=some (.slice (some ⟨b3,o3,none⟩) 6 c3):=by simpa using pP.cellAt 3 (by simp)
 go_simp
 refine hK.out _ _ ⟨y0,y1,y2,y3⟩ (fun hS1=>?_)
 clear hK y0 y1 y2 y3
 generalize (W0.alloc (.cells #[] 3)).drew=U0 at *
 refine tkr 3 10 (fun K hK=>?_)
 refine Xm rfl _ _ 36 rfl w.heap.size 3 i0 (.int .i64 0) 1 8 Tryz.underlying36 hi hz0 hz1 hz2 rfl (by decide) _ _ _ rfl q0 ⟨b0,o0,none⟩ 3 c0 (m0.map (Value.int .i64)) rfl (by simp [l0]) (Xr (j0.below bw)) (Wh _) (by unfold maxLen;omega) (by omega) bw.size ?_
 intro v1 U1 q1 gr1
 replace pP:=pP.kept gr1 (Xo pP q0 (by decide))
 replace pQ:=pQ.kept gr1 (Xo pQ q0 (by decide))
 replace bw:=bw.grown gr1 bw.size (fun k hk=>(q0.lt k hk).1)
 have y0:U1.cell? ⟨w.heap.size,0,none⟩=some (.slice (some ⟨b0,o0,none⟩) 3 c0):=by simpa using pP.cellAt 0 (by simp)
 have y1:U1.cell? ⟨w.heap.size,1,none⟩=some (.slice (some ⟨b1,o1,none⟩) 4 c1):=by simpa using pP.cellAt 1 (by simp)
 have y2:U1.cell? ⟨w.heap.size,2,none⟩=some (.slice (some ⟨b2,o2,none⟩) 2 c2):=by simpa using pP.cellAt 2 (by simp)
 have y3:U1.cell? ⟨w.heap.size,3,none⟩=some (.slice (some ⟨b3,o3,none⟩) 6 c3):=by simpa using pP.cellAt 3 (by simp)
 refine hK.out _ _ ⟨y0,y1,y2,y3⟩ (fun hS2=>?_)
 clear hK y0 y1 y2 y3 q0 gr1
 simp only [Act.put,tka,tkb,tkc]
 refine tkr 6 13 (fun K hK=>?_)
 refine Xm rfl _ _ 36 rfl w.heap.size 3 i0 (.int .i64 0) 1 8 Tryz.underlying36 hi hz0 hz1 hz2 rfl (by decide) _ _ _ rfl q1 ⟨b1,o1,none⟩ 4 c1 (m1.map (Value.int .i64)) rfl (by simp [l1]) (Xr (j1.below bw)) (Wh _) (by unfold maxLen;omega) (by omega) bw.size ?_
 intro v2 U2 q2 gr2
 replace pP:=pP.kept gr2 (Xo pP q1 (by decide))
 replace pQ:=pQ.kept gr2 (Xo pQ q1 (by decide))
 replace bw:=bw.grown gr2 bw.size (fun k hk=>(q1.lt k hk).1)
 have y0:U2.cell? ⟨w.heap.size,0,none⟩=some (.slice (some ⟨b0,o0,none⟩) 3 c0):=by simpa using pP.cellAt 0 (by simp)
 have y1:U2.cell? ⟨w.heap.size,1,none⟩=some (.slice (some ⟨b1,o1,none⟩) 4 c1):=by simpa using pP.cellAt 1 (by simp)
 have y2:U2.cell? ⟨w.heap.size,2,none⟩=some (.slice (some ⟨b2,o2,none⟩) 2 c2):=by simpa using pP.cellAt 2 (by simp)
 have y3:U2.cell? ⟨w.heap.size,3,none⟩=some (.slice (some ⟨b3,o3,none⟩) 6 c3):=by simpa using pP.cellAt 3 (by simp)
 refine hK.out _ _ ⟨y0,y1,y2,y3⟩ (fun hS3=>?_)
 clear hK y0 y1 y2 y3 q1 gr2
 simp only [Act.put,tka,tkb,tkc]
 refine tkr 9 16 (fun K hK=>?_)
 refine Xm rfl _ _ 36 rfl w.heap.size 3 i0 (.int .i64 0) 1 8 Tryz.underlying36 hi hz0 hz1 hz2 rfl (by decide) _ _ _ rfl q2 ⟨b2,o2,none⟩ 2 c2 (m2.map (Value.int .i64)) rfl (by simp [l2]) (Xr (j2.below bw)) (Wh _) (by unfold maxLen;omega) (by omega) bw.size ?_
 intro v3 U3 q3 gr3
 replace pP:=pP.kept gr3 (Xo pP q2 (by decide))
 replace pQ:=pQ.kept gr3 (Xo pQ q2 (by decide))
 replace bw:=bw.grown gr3 bw.size (fun k hk=>(q2.lt k hk).1)
 have y0:U3.cell? ⟨w.heap.size,0,none⟩=some (.slice (some ⟨b0,o0,none⟩) 3 c0):=by simpa using pP.cellAt 0 (by simp)
 have y1:U3.cell? ⟨w.heap.size,1,none⟩=some (.slice (some ⟨b1,o1,none⟩) 4 c1):=by simpa using pP.cellAt 1 (by simp)
 have y2:U3.cell? ⟨w.heap.size,2,none⟩=some (.slice (some ⟨b2,o2,none⟩) 2 c2):=by simpa using pP.cellAt 2 (by simp)
 have y3:U3.cell? ⟨w.heap.size,3,none⟩=some (.slice (some ⟨b3,o3,none⟩) 6 c3):=by simpa using pP.cellAt 3 (by simp)
 refine hK.out _ _ ⟨y0,y1,y2,y3⟩ (fun hS4=>?_)
 clear hK y0 y1 y2 y3 q2 gr3
 simp only [Act.put,tka,tkb,tkc]
 refine tkr 12 19 (fun K hK=>?_)
 refine Xm rfl _ _ 36 rfl w.heap.size 3 i0 (.int .i64 0) 1 8 Tryz.underlying36 hi hz0 hz1 hz2 rfl (by decide) _ _ _ rfl q3 ⟨b3,o3,none⟩ 6 c3 (m3.map (Value.int .i64)) rfl (by simp [l3]) (Xr (j3.below bw)) (Wh _) (by unfold maxLen;omega) (by omega) bw.size ?_
 intro v4 U4 q4 gr4
 replace pP:=pP.kept gr4 (Xo pP q3 (by decide))
 replace pQ:=pQ.kept gr4 (Xo pQ q3 (by decide))
 replace bw:=bw.grown gr4 bw.size (fun k hk=>(q3.lt k hk).1)
 have y0:U4.cell? ⟨w.heap.size,0,none⟩=some (.slice (some ⟨b0,o0,none⟩) 3 c0):=by simpa using pP.cellAt 0 (by simp)
 have y1:U4.cell? ⟨w.heap.size,1,none⟩=some (.slice (some ⟨b1,o1,none⟩) 4 c1):=by simpa using pP.cellAt 1 (by simp)
 have y2:U4.cell? ⟨w.heap.size,2,none⟩=some (.slice (some ⟨b2,o2,none⟩) 2 c2):=by simpa using pP.cellAt 2 (by simp)
 have y3:U4.cell? ⟨w.heap.size,3,none⟩=some (.slice (some ⟨b3,o3,none⟩) 6 c3):=by simpa using pP.cellAt 3 (by simp)
 refine hK.out _ _ ⟨y0,y1,y2,y3⟩ (fun hS5=>?_)
 clear hK y0 y1 y2 y3 q3 gr4
 simp only [Act.put,tka,tkb,tkc]
 refine tkm 13 4 v4 ?_
 refine wpAnyH_done (by kernel_rfl) ?_ _
 clear hS0 hS1 hS2 hS3 hS4 hS5 pP g0 g1 g2 g3 hsz0 hi hz0 hz1 hz2
 have q5:U4.ownsRow w.heap.size 3 1 v4 15 (zs.map (Value.int .i64)):=by
  rw [hall]
  simpa [List.append_assoc] using q4
 clear q4 hall
 obtain ⟨g,capA,rfl⟩:∃ g c,v4=.slice (some ⟨g,0,none⟩) 15 c:=by
  rcases q5.2 with ⟨rfl,h5⟩ | ⟨g,cap,cur,hv,_⟩
  ·exact absurd h5 (by decide)
  exact ⟨g,cap,hv⟩
 have hl15:zs.length=15:=by simpa using q5.1
 have HL:Hid (zs.length=15):=hl15
 clear hl15
 obtain ⟨i8,hi8,hy0,hy1,hy2⟩:=info_parts PD
 go_wp2
 go_loopw [3,5] (fun so si wr=>∃ j:Nat,j≤15∧si=.int .i64 j∧wr.ownsRow w.heap.size 5 1 so j (u8s ((zs.map fun z=>48+z).take j))∧wr.ownsRow w.heap.size 3 1 (.slice (some ⟨g,0,none⟩) 15 capA) 15 (zs.map (Value.int .i64))∧Below w.heap.size w wr) (fun _ si _=>15 - (intOf si).toNat)
 case atStart=>exact ⟨0,by omega,rfl,by simpa using pQ,q5,bw⟩
 case round =>
  clear pQ q5 bw
  obtain ⟨j,hj,rfl,hr,hq,hbw⟩:=hrel
  by_cases hlt:j<15
  ·have hjl:j<zs.length:=by rw [HL.out];exact hlt
   have hc:wr.cell? ⟨g,j,none⟩=some (.int .i64 (zs.getD j 0)):=by
    have:=hq.cellAt j (by omega)
    rw [this]
    simp [List.getD,hjl]
   have hx:=HD.out (zs.getD j 0) (by simp [List.getD,hjl])
   have HX:Hid ((zs.map fun z=>48+z).take (j+1)=(zs.map fun z=>48+z).take j++[48+zs.getD j 0]):=by
    rw [Hid,List.take_succ_eq_append_getElem (by simpa using hjl)]
    simp [List.getD,hjl]
   obtain ⟨d,hd⟩:∃ d:Nat,zs.getD j 0=(d:Int):=⟨(zs.getD j 0).toNat,by omega⟩
   rw [hd] at hc hx HX
   have hd9:d≤9:=by omega
   clear hx hd hjl
   have hsz:=hbw.size
   have hj15:(j:Int)<15:=by omega
   go_wp2_with (at_builtin;refine wpList_append_own _ rfl _ _ 22 rfl w.heap.size 5 i8 (.int .u8 0) 1 1 Tryz.underlying22 hi8 hy0 hy1 hy2 rfl (by decide) _ _ _ rfl (hr.alloc _) ⟨wr.heap.size,0,none⟩ 1 1 [.int .u8 (48+(d:Int))] rfl rfl (cell_one_new _ _ _) (UU _) ?c3 ?c4 ?c5 ?_)
   case c3=>unfold maxLen;omega
   case c4=>omega
   case c5=>simp;omega
   intro v' w2 hown' hgrow _
   have R:w2.ownsRow w.heap.size 5 1 v' (j+1) (u8s ((zs.map fun z=>48+z).take (j+1))):=by
    rw [HX.out]
    simpa [u8s] using hown'
   have hq2:=(hq.alloc (.cells #[.int .u8 (48+(d:Int))] 5)).kept hgrow (Xo hq hr (by decide))
   have b2:Below w.heap.size w w2:=(hbw.alloc hsz _).grown hgrow (by simp;omega) (fun k hk=>(hr.lt k hk).1)
   clear hown' hgrow hr hq hbw hc HX
   go_wp2
   go_roundw
   case rel=>exact ⟨j+1,by omega,by go_num,R,hq2,b2⟩
   case measure=>simp [intOf];omega
  obtain rfl:j=15:=by omega
  have hfull:(zs.map fun z=>48+z).take 15=zs.map fun z=>48+z:=List.take_of_length_le (by simp [HL.out])
  rw [hfull] at hr
  have hcv:=UO hr
  rw [← HF.out] at hcv
  clear hr hq hfull
  go_wp2
  go_ret
  exact ⟨rfl,hbw⟩


def Xn (rows:List (List I3)) (k:Nat):List I3:=rows.getD k []
def Yt (rows:List (List I3)) (m:V4) (k:Nat):Bool:=decide (((Xn rows k).length:Int)≤m.1.getD k 0)
def Xj (rows:List (List I3)) (m:V4) (k:Nat):I3:=(Xn rows k).getD (m.1.getD k 0).toNat (0,0,0)
def WR (m:V4) (x:I3):Bool:=decide (x.1=5) && !decide (m.2.2.1.getD x.2.1.toNat 0=0)
def Qf (rows:List (List I3)) (m:V4) (k:Nat):Bool:=!Yt rows m k && WR m (Xj rows m k)
def WZ (rows:List (List I3)) (m:V4) (k:Nat):Bool:=!Yt rows m k && !WR m (Xj rows m k)
def Zn (rows:List (List I3)) (m:V4):Nat→List Int
 | 0=>[]
 | k+1=>if WZ rows m k then Zn rows m k++[(k:Int)] else Zn rows m k
def Wf (rows:List (List I3)) (m:V4) (k:Nat):Bool:=(List.range' k (3 - k)).any fun i=>!Yt rows m i
def Wk (rows:List (List I3)) (m:V4):Bool:=decide (Zn rows m 3=[]) && Wf rows m 0
def ZH (m:V4) (x:I3) (k:Nat):V4 × Int:=
 if x.1=1 then ((m.1.set k (m.1.getD k 0+1),m.2.1,m.2.2.1,m.2.2.2.set (k*2+x.2.1.toNat) (m.2.1.getD x.2.2.toNat 0)),0)
 else if x.1=2 then ((m.1.set k (m.1.getD k 0+1),m.2.1.set x.2.1.toNat (m.2.2.2.getD (k*2+x.2.2.toNat) 0),m.2.2.1,m.2.2.2),0)
 else if x.1=3 then ((m.1.set k (m.1.getD k 0+1),m.2.1,m.2.2.1,m.2.2.2.set (k*2+x.2.1.toNat) x.2.2),0)
 else if x.1=4 then ((m.1.set k (m.1.getD k 0+1),m.2.1,m.2.2.1,m.2.2.2.set (k*2+x.2.1.toNat) ((m.2.2.2.getD (k*2+x.2.1.toNat) 0+x.2.2) % 10)),0)
 else if x.1=5 then ((m.1.set k (m.1.getD k 0+1),m.2.1,m.2.2.1.set x.2.1.toNat (k+1),m.2.2.2),0)
 else if x.1=6 then
  if m.2.2.1.getD x.2.1.toNat 0=k+1 then ((m.1.set k (m.1.getD k 0+1),m.2.1,m.2.2.1.set x.2.1.toNat 0,m.2.2.2),0)
  else ((m.1.set k (m.1.getD k 0+1),m.2.1,m.2.2.1,m.2.2.2),13)
 else if x.1=7 then
  if m.2.2.2.getD (k*2+x.2.1.toNat) 0=0 then ((m.1.set k (m.1.getD k 0+1),m.2.1,m.2.2.1,m.2.2.2),0)
  else ((m.1.set k x.2.2,m.2.1,m.2.2.1,m.2.2.2),0)
 else if m.2.2.2.getD (k*2+x.2.1.toNat) 0=x.2.2 then ((m.1.set k (m.1.getD k 0+1),m.2.1,m.2.2.1,m.2.2.2),0)
 else ((m.1.set k (m.1.getD k 0+1),m.2.1,m.2.2.1,m.2.2.2),12)

theorem RB (rows:List (List I3)) (m:V4) {k:Nat} (hk:k<3):Wf rows m k=(!Yt rows m k || Wf rows m (k+1)):=by
 unfold Wf
 obtain ⟨n,hn⟩:∃ n,3 - k=n+1:=⟨3 - k - 1,by omega⟩
 have hn':3 - (k+1)=n:=by omega
 rw [hn,hn',List.range'_succ,List.any_cons]
theorem QN (rows:List (List I3)) (m:V4):Wf rows m 3=false:=rfl

theorem Uh {m:V4} (h:Zd m=true):∃ p0 p1 p2 v0 v1 v2 v3 h0 h1 x0 y0 x1 y1 x2 y2:Int,m=([p0,p1,p2],[v0,v1,v2,v3],[h0,h1],[x0,y0,x1,y1,x2,y2]):=by
 obtain ⟨l0,l1,l2,l3,_⟩:=ZI h
 obtain ⟨a,b,c,d⟩:=m
 simp only at l0 l1 l2 l3
 match a,b,c,d,l0,l1,l2,l3 with
 | [p0,p1,p2],[v0,v1,v2,v3],[h0,h1],[x0,y0,x1,y1,x2,y2],_,_,_,_=>exact ⟨p0,p1,p2,v0,v1,v2,v3,h0,h1,x0,y0,x1,y1,x2,y2,rfl⟩
theorem Yr {m:V4} (h:Zd m=true):(∀ z ∈ m.1,0≤z∧z≤6)∧(∀ z ∈ m.2.1,0≤z∧z≤9)∧(∀ z ∈ m.2.2.1,0≤z∧z≤3)∧∀ z ∈ m.2.2.2,0≤z∧z≤9:=by
 unfold Zd at h
 simp only [Bool.and_eq_true] at h
 exact ⟨(YI h.1).2,(YI h.2.1).2,(YI h.2.2.1).2,(YI h.2.2.2).2⟩
theorem Vr {zs:List Int} {lo hi:Int} (h:∀ z ∈ zs,lo≤z∧z≤hi) (h0:lo≤0∧0≤hi) (k:Nat):lo≤zs.getD k 0∧zs.getD k 0≤hi:=by
 rcases Nat.lt_or_ge k zs.length with hk | hk
 ·simp only [List.getD,List.getElem?_eq_getElem hk,Option.getD_some]
  exact h _ (List.getElem_mem hk)
 simp [List.getD,List.getElem?_eq_none hk,h0]

def Zk (c0 c1 c2:Value) (m:V4):List Value:=
 [c0,.int .i64 (m.1.getD 0 0),.int .i64 (m.2.2.2.getD 0 0),.int .i64 (m.2.2.2.getD 1 0),
  c1,.int .i64 (m.1.getD 1 0),.int .i64 (m.2.2.2.getD 2 0),.int .i64 (m.2.2.2.getD 3 0),
  c2,.int .i64 (m.1.getD 2 0),.int .i64 (m.2.2.2.getD 4 0),.int .i64 (m.2.2.2.getD 5 0),
  .int .i64 (m.2.1.getD 0 0),.int .i64 (m.2.1.getD 1 0),.int .i64 (m.2.1.getD 2 0),.int .i64 (m.2.1.getD 3 0),
  .int .i64 (m.2.2.1.getD 0 0),.int .i64 (m.2.2.1.getD 1 0)]
def G8 (c0 c1 c2:Value) (k:Nat):Value:=[c0,c1,c2].getD k undef

section
variable (c0 c1 c2 : Value) (m : V4)
theorem GO {k:Nat} (hk:k<3):(Zk c0 c1 c2 m)[k*4]?=some (G8 c0 c1 c2 k):=by
 match k,hk with
 | 0,_=>rfl
 | 1,_=>rfl
 | 2,_=>rfl
theorem Fg {k:Nat} (hk:k<3):(Zk c0 c1 c2 m)[k*4+1]?=some (.int .i64 (m.1.getD k 0)):=by
 match k,hk with
 | 0,_=>rfl
 | 1,_=>rfl
 | 2,_=>rfl
theorem VZ {k a:Nat} (hk:k<3) (ha:a<2):(Zk c0 c1 c2 m)[k*4+2+a]?=some (.int .i64 (m.2.2.2.getD (k*2+a) 0)):=by
 match k,hk,a,ha with
 | 0,_,0,_=>rfl
 | 1,_,0,_=>rfl
 | 2,_,0,_=>rfl
 | 0,_,1,_=>rfl
 | 1,_,1,_=>rfl
 | 2,_,1,_=>rfl
theorem Hs {a:Nat} (ha:a<4):(Zk c0 c1 c2 m)[12+a]?=some (.int .i64 (m.2.1.getD a 0)):=by
 match a,ha with
 | 0,_=>rfl
 | 1,_=>rfl
 | 2,_=>rfl
 | 3,_=>rfl
theorem S2 {a:Nat} (ha:a<2):(Zk c0 c1 c2 m)[16+a]?=some (.int .i64 (m.2.2.1.getD a 0)):=by
 match a,ha with
 | 0,_=>rfl
 | 1,_=>rfl
end

section
variable (c0 c1 c2 : Value) (m : V4) (h : Zd m = true)
include h
end

def Blk (w:World) (g:Nat) (t:TypeId) (cs:List Value):Prop:=w.heap[g]?=some (.cells cs.toArray t (0,0))
theorem Blk.lt {w:World} {g t:Nat} {cs:List Value} (h:Blk w g t cs):g<w.heap.size:=(Array.getElem?_eq_some_iff.1 h).1
theorem Blk.cell {w:World} {g t:Nat} {cs:List Value} (h:Blk w g t cs) (i:Nat):w.cell? ⟨g,i,none⟩=cs[i]?:=by
 unfold Blk at h
 simp [World.cell?,h]
theorem Blk.frozen {w:World} {g t:Nat} {cs:List Value} (h:Blk w g t cs) (i:Nat):w.frozen? ⟨g,i,none⟩=false:=by
 unfold Blk at h
 simp [World.frozen?,h]
theorem Blk.set {w:World} {g t:Nat} {cs:List Value} (h:Blk w g t cs) (i:Nat) (v:Value):Blk (w.setCell ⟨g,i,none⟩ v) g t (cs.set i v):=by
 have hl:=h.lt
 unfold Blk at h ⊢
 simp [World.setCell,Array.getElem?_modify,h]
theorem Blk.below {w w':World} {g t:Nat} {cs:List Value} (h:Blk w g t cs) (hb:Below w.heap.size w w'):Blk w' g t cs:=(hb.block g h.lt).trans h
theorem Blk.new (w:World) (t:Nat) (cs:List Value):Blk (w.alloc (.cells cs.toArray t)) w.heap.size t cs:=by
 show (w.heap.push _)[w.heap.size]?=_
 simp
theorem Blk.drew {w:World} {g t:Nat} {cs:List Value} (h:Blk w g t cs):Blk w.drew g t cs:=h
theorem Blk.off {w:World} {g t:Nat} {cs:List Value} (h:Blk w g t cs) (p:Addr) (v:Value) (hp:g≠p.block):Blk (w.setCell p v) g t cs:=(Below.heap_setCell w p v g hp).trans h

set_option linter.unusedVariables false

def TY (e:Ending) (w':World) (B:Nat) (xs:List Int):Prop:=∃ v,e=.returned v∧w'.ownsRow B 3 1 v xs.length (xs.map (Value.int .i64))
theorem Zh {a b c:World} (h:Below a.heap.size a b) (k:Below b.heap.size b c):Below a.heap.size a c:=h.trans (k.mono h.size)
theorem FI {a b:World} (h:Below a.heap.size a b) (d:Nat):Below a.heap.size a (b.drewN d):=h.trans ⟨rfl,rfl,rfl,Nat.le_refl _,fun _ _=>rfl⟩
theorem Yi {B e k n:Nat} {v:Value} {xs:List Value} {w w':World} (h:w.ownsRow B e k v n xs) (hb:Below w.heap.size w w'):w'.ownsRow B e k v n xs:=
 h.kept (row:=none) ⟨hb.os,hb.tape,hb.output,hb.size,fun i hi _=>hb.block i hi⟩ (by cases v.ownBlock<;>simp)
theorem ZE {w w':World} (h:Below w.heap.size w w') {p:Addr} {v:Value} (hv:w.cell? p=some v):w'.cell? p=some v:=by
 rw [h.cell (World.block_lt_of_cell? _ _ hv)]
 exact hv
theorem Zu {w w':World} {row:Option Nat} (g:w.grownBy w' row) {p:Addr} {v:Value} (hc:w.cell? p=some v) (hne:some p.block≠row):w'.cell? p=some v:=by
 have hl:=World.block_lt_of_cell? _ _ hc
 rw [← hc]
 unfold World.cell?
 rw [g.block p.block hl hne]
theorem Yl {w:World} {B B' e s n:Nat} {v:Value} {cs:List Value} (h:w.ownsRow B e s v n cs) (hB:B'≤B):w.ownsRow B' e s v n cs:=by
 refine ⟨h.1,?_⟩
 rcases h.2 with h0 | ⟨g,cap,cur,hv,hg,rest⟩
 ·exact .inl h0
 exact .inr ⟨g,cap,cur,hv,by omega,rest⟩
theorem Uj {w:World} {B e s n:Nat} {v:Value} {cs:List Value} (h:w.ownsRow B e s v n cs) (hn:0<n):∃ g c,v=.slice (some ⟨g,0,none⟩) n c:=by
 rcases h.2 with ⟨rfl,h0⟩ | ⟨g,cap,cur,hv,_⟩
 ·omega
 exact ⟨g,cap,hv⟩
theorem Ye {w:World} {B e s n:Nat} {v:Value} {cs:List Value} (h:w.ownsRow B e s v n cs):∃ a c,v=.slice a n c:=by
 rcases h.2 with ⟨rfl,h0⟩ | ⟨g,cap,cur,hv,_⟩
 ·subst h0;exact ⟨none,0,rfl⟩
 exact ⟨some ⟨g,0,none⟩,cap,hv⟩
theorem WB (w:World) (t s B:Nat) (hB:B≤w.heap.size):(w.alloc (.cells #[] t)).ownsRow B t s (.slice (some ⟨w.heap.size,0,none⟩) 0 0) 0 []:=World.ownsRow_lit w #[] 0 hB (by unfold maxLen;omega) (by simp)
theorem QI {w:World} {B n c:Nat} {a:Option Addr} {xs:List Int} (h:w.ownsRow B 3 1 (.slice a n c) n (xs.map (Value.int .i64))):Z2 .i64 w a n c xs:=by
 rcases h.2 with ⟨e,h0⟩ | ⟨b,cc,cur,e,h1,h2,h3,h4⟩
 ·cases e
  have hl:=h.1
  exact ⟨by simpa using hl,Nat.le_refl _,by unfold maxLen;omega,.inl rfl⟩
 cases e
 exact Z2.of_owns h
theorem WN {w:World} {b off n c:Nat} {xs:List Int} (h:Z2 .i64 w (some ⟨b,off,none⟩) n c xs):∀ j u,(xs.map (Value.int .i64))[j]?=some u→w.cell? ((⟨b,off,none⟩:Addr).add j)=some u:=by
 intro j u hj
 obtain ⟨hl,_,_,hcase⟩:=h
 have hjl:j<xs.length:=by simpa using (List.getElem?_eq_some_iff.1 hj).1
 rcases hcase with h0 | ⟨b',off',he,hb,hc⟩
 ·omega
 cases he
 have:=hc j (by omega)
 have e:(⟨b,off,none⟩:Addr).add j=⟨b,off+j,none⟩:=by unfold Addr.add;split<;>simp_all
 rw [e,this]
 simp [List.getElem?_eq_getElem hjl] at hj
 simp [List.getD,List.getElem?_eq_getElem hjl,hj]
theorem WW (xs:List Int):∀ u ∈ xs.map (Value.int .i64),u.oneCell'=true:=by
 intro u hu
 obtain ⟨x,_,rfl⟩:=List.mem_map.1 hu
 rfl
theorem ZX {P:Program} {ops:Array Oper} {o:Oper} {a:Act} {w:World} {K:Act→World→Prop} {Q:Exit→Act→World→Prop} {E:Prop}
  (hg:o.guard=none) (s x:Operand) (t:TypeId) (hop:o.op=Op.call { callee:=Callee.builtin Builtin.append,args:=#[s,x],argTypes:=#[t,t] })
  (base:Nat) (e:TypeId) (i:TypeInfo) (z:Value) (size bytes:Nat) (h1:P.underlying t=some (.slice e)) (h2:P.info? e=some i) (h3:i.zero=some z) (h4:i.size=size) (h5:i.bytes=bytes) (h6:z.cells.size=size) (h7:0<size)
  (v:Value) (n:Nat) (olds:List Value) (hs:a.eval s=v) (hown:w.ownsRow base e size v n olds)
  (ad:Addr) (m c:Nat) (news:List Value) (hx:a.eval x=.slice (some ad) m c) (hn:news.length=m*size) (hc:∀ j u,news[j]?=some u→w.cell? (ad.add j)=some u) (h1c:∀ u ∈ news,u.oneCell'=true)
  (b1:n+m≤maxLen) (b2:(n+m)*bytes≤140737488355328) (hbw:base≤w.heap.size)
  (hK:∀ v' w',w'.ownsRow base e size v' (n+m) (olds++news)→w.grownBy w' v.ownBlock→(v'.ownBlock=v.ownBlock∨v'.ownBlock=some w.heap.size)→K (a.put o.dst v') w') :
  if Region.wanted o (yielded ops a.tmps)=true then Oper.wp P o a w K Q else E:=by
 have hw:Region.wanted o (yielded ops a.tmps)=true:=by simp [Region.wanted,hg]
 rw [if_pos hw]
 obtain ⟨v',w',hrun,r1,r2,_,r4⟩:=run_append_own_at (P:=P) (w:=w) base t o.type e i z size bytes h1 h2 h3 h4 h5 h6 h7 v n olds hown ad m c news hn hc h1c b1 b2 hbw
 subst hs
 unfold Oper.wp
 simp [execOp,hop,resolve,invoke,builtin,hx,hrun,Result.andThen]
 exact hK v' w' r1 r2 r4
theorem WJ {w:World} {b off len cap hi:Nat} {xs:List Int} (h:Z2 .i64 w (some ⟨b,off,none⟩) len cap xs) (h2:hi≤len) :
  (∀ W,(Instr.slice 36 (.slice (some ⟨b,off,none⟩) len cap) none (some (.int .i64 (hi:Int))) none).run Tryz.prog W=.ok (.slice (some ⟨b,off,none⟩) hi cap) W)∧Z2 .i64 w (some ⟨b,off,none⟩) hi cap (xs.take hi):=by
 obtain ⟨hl,hlc,hcm,hcase⟩:=h
 have hhc:(hi:Int)≤(cap:Int):=by omega
 refine ⟨fun W=>?_,by rw [List.length_take];omega,by omega,by omega,?_⟩
 ·go_simp
  try omega
 rcases hcase with h0 | ⟨b',off',he,hb,hc⟩
 ·exact .inl (by omega)
 cases he
 refine .inr ⟨b,off,rfl,hb,fun t ht=>?_⟩
 rw [hc t (by omega)]
 simp [List.getD,ht]
theorem H6 {w:World} {b off len cap lo:Nat} {xs:List Int} (h:Z2 .i64 w (some ⟨b,off,none⟩) len cap xs) (h1:lo≤len) :
  ∃ o2,(∀ W,(Instr.slice 36 (.slice (some ⟨b,off,none⟩) len cap) (some (.int .i64 (lo:Int))) none none).run Tryz.prog W=.ok (.slice (some ⟨b,o2,none⟩) (len - lo) (cap - lo)) W)∧Z2 .i64 w (some ⟨b,o2,none⟩) (len - lo) (cap - lo) (xs.drop lo):=by
 obtain ⟨hl,hlc,hcm,hcase⟩:=h
 have hlh:(lo:Int)≤(len:Int):=by omega
 by_cases hz:cap - lo=0
 ·refine ⟨off,fun W=>?_,by rw [List.length_drop];omega,by omega,by omega,.inl (by omega)⟩
  go_simp
  omega
 refine ⟨off+lo,fun W=>?_,by rw [List.length_drop];omega,by omega,by omega,?_⟩
 ·go_simp
  omega
 rcases hcase with h0 | ⟨b',off',he,hb,hc⟩
 ·exact .inl (by omega)
 cases he
 refine .inr ⟨b,off+lo,rfl,hb,fun t ht=>?_⟩
 have:=hc (lo+t) (by omega)
 rw [show off+lo+t=off+(lo+t) by omega,this]
 simp [List.getD]
end Go.Proofs.YtnffeclgboomoaaGreatDoor
