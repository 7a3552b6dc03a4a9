/-
  Joined: SrtB, DedI, RpG, CmtQ, FulQ, FulB, FulD, Rw3, KeyB, SpcP.
-/
import Derived.Deep.MidRow
import Derived.Test.YtnffeclgboomoaaGreatDoorT19
import Derived.Test.YtnffeclgboomoaaGreatDoorT33
import Derived.Test.YtnffeclgboomoaaGreatDoorT34

namespace Go.Proofs.YtnffeclgboomoaaGreatDoor
set_option maxRecDepth 100000
set_option maxHeartbeats 16000000
open Go.RowKit Go.Sort Go.Shelf
set_option linter.unusedVariables false
set_option linter.unusedSimpArgs false

theorem Ro (xs:List I3):(flatK I3.cells 3 xs.toArray).toList=Zm xs:=by
 apply List.ext_getElem?
 intro t
 by_cases h:t<xs.length*3
 ·have hq:t / 3<xs.length:=by omega
  have hl:t<(flatK I3.cells 3 xs.toArray).toList.length:=by simp;omega
  have e1:(flatK I3.cells 3 xs.toArray).toList[t]?=some ((I3.cells xs.toArray[t / 3]!)[t % 3]!):=by
   rw [List.getElem?_eq_getElem hl,Array.getElem_toList,← getElem!_pos (flatK I3.cells 3 xs.toArray) t (by simpa using h),get_flatK _ _ _ _ (by simpa using h)]
  rw [e1]
  obtain ⟨f0,f1,f2⟩:=Pv hq
  have ex:xs.toArray[t / 3]! = xs.getD (t / 3) (0,0,0):=by
   rw [getElem!_pos _ _ (by simpa using hq)]
   simp [List.getD,List.getElem?_eq_getElem hq]
  rw [ex]
  generalize xs.getD (t / 3) (0,0,0)=x at *
  have hr:t % 3=0∨t % 3=1∨t % 3=2:=by omega
  rcases hr with hr | hr | hr
  ·have e:t / 3*3=t:=by omega
   rw [e] at f0
   rw [f0,hr]
   rfl
  ·have e:t / 3*3+1=t:=by omega
   rw [e] at f1
   rw [f1,hr]
   rfl
  have e:t / 3*3+2=t:=by omega
  rw [e] at f2
  rw [f2,hr]
  rfl
 rw [List.getElem?_eq_none (by simp;omega),List.getElem?_eq_none (by rw [Zo];omega)]
theorem KG {w:World} {B g n cap:Nat} {xs:List I3} (h:w.ownsRow B 127 3 (.slice (some ⟨g,0,none⟩) n cap) n (Zm xs)) (hl:xs.length=n):HoldsK I3.cells 3 w g 0 xs.toArray:=by
 intro t ht
 rw [size_flatK] at ht
 have ht':t<n*3:=by simpa [hl] using ht
 refine ⟨?_,by rw [Nat.zero_add];exact h.frozenAt t⟩
 rw [Nat.zero_add,h.cellAt t ht',← Ro,getElem!_pos _ _ (by rw [size_flatK];exact ht)]
 simp [ht]
theorem JC {w:World} {B g n cap m:Nat} {xs ys:List I3} {os:Array Obj} (h:w.ownsRow B 127 3 (.slice (some ⟨g,0,none⟩) n cap) n (Zm xs)) (hx:xs.length=n) (hy:ys.length=n) :
  (sortWorldK I3.cells 3 w g 0 m ys.toArray os).ownsRow B 127 3 (.slice (some ⟨g,0,none⟩) n cap) n (Zm ys)∧w.grownBy (sortWorldK I3.cells 3 w g 0 m ys.toArray os) (some g):=by
 rcases h.2 with ⟨hv,_⟩ | ⟨g',cap',cur,hv,hB,hg,hn,hc,hsz,ht⟩
 ·cases hv
 cases hv
 have hgl:g<w.heap.size:=(Array.getElem?_eq_some_iff.1 hg).1
 refine ⟨⟨by rw [Zo];omega,.inr ⟨g,cap,putCells id 0 (flatK I3.cells 3 ys.toArray) cur,rfl,hB,?_,hn,hc,?_,?_⟩⟩,⟨rfl,rfl,rfl,?_,?_⟩⟩
 ·show (((Sort.ahead w m).heap.modify g _)++os)[g]?=_
  rw [Array.getElem?_append_left (by simpa [Sort.ahead] using hgl),Array.getElem?_modify]
  simp [Sort.ahead,hg,onCells]
 ·simpa [putCells] using hsz
 ·have hfk:=Ro ys
  have hfs:(flatK I3.cells 3 ys.toArray).size=n*3:=by simp [hy]
  apply List.ext_getElem?
  intro t
  by_cases h3:t<n*3
  ·rw [List.getElem?_take_of_lt h3,← hfk]
   have hcz:t<cur.size:=by rw [hsz];have:=Nat.mul_le_mul_right 3 hn;omega
   simp only [putCells,Array.getElem?_toList,Array.getElem?_mapIdx,Array.getElem?_eq_getElem hcz,Option.map_some]
   rw [if_pos ⟨Nat.zero_le _,by omega⟩,getElem!_pos _ _ (by omega),Array.getElem?_eq_getElem (by omega)]
   simp
  rw [List.getElem?_eq_none (by rw [List.length_take];omega),List.getElem?_eq_none (by rw [Zo];omega)]
 ·show w.heap.size≤(((Sort.ahead w m).heap.modify g _)++os).size
  simp [Sort.ahead]
 intro k hk hne
 show (((Sort.ahead w m).heap.modify g _)++os)[k]?=_
 rw [Array.getElem?_append_left (by simpa [Sort.ahead] using hk),Array.getElem?_modify]
 have:g≠k:=fun e=>hne (by rw [e])
 simp [Sort.ahead,this]

def Si (l:List I3):List I3:=l.mergeSort fun x y=>!(ltOf Tg) y x
theorem Mc (l:List I3):(Si l).length=l.length:=by unfold Si;simp
theorem Gg {l:List I3} {x:I3}:x ∈ Si l↔x ∈ l:=by unfold Si;exact (List.mergeSort_perm l _).mem_iff
theorem JF (l:List I3):(Si l).Pairwise fun a b=>ltB b a=false:=by
 have h:=List.pairwise_mergeSort (le:=fun x y=>!(ltOf Tg) y x) (fun a b c h1 h2=>by
  simp only [Bool.not_eq_true',WK] at *
  cases k:ltB c a
  ·rfl
  ·cases k2:ltB c b
   ·cases k3:ltB b c
    ·have:=Ww k2 k3
     subst this
     rw [h1] at k
     cases k
    have:=Ve k3 k
    rw [this] at h1
    cases h1
   rw [k2] at h2
   cases h2) (fun a b=>by
  simp only [WK,Bool.or_eq_true,Bool.not_eq_true']
  cases k:ltB b a
  ·exact .inl rfl
  exact .inr (QP k)) l
 exact h.imp fun {a b} h=>by simpa [WK] using h
theorem JE (xs ys:List I3):ZM (Si (xs++ys))=ZD xs ys:=MZ (JF _) fun x=>by rw [Gg,List.mem_append]
theorem M1:∀ {l:List I3},l.length<2→ZM l=l
 | [],_=>rfl
 | [x],_=>rfl
 | x::y::l,h=>by simp at h;omega

theorem Fu:∀ w,(isAgg 127).run Tryz.prog w=.ok true w:=Tryz.isAgg127
theorem GY:∀ w,(Go.sizeOf 127).run Tryz.prog w=.ok 3 w:=Tryz.sizeOf127
theorem Ps (blk off size:Nat) (w:World):CmpLays Tryz.prog 164 #[] I3.cells 3 Tg blk off size w:=fun _ _ _ _ x y=>VM x y _
theorem N9 (B g n cap:Nat) (xs:List I3) (w:World) (h:w.ownsRow B 127 3 (.slice (some ⟨g,0,none⟩) n cap) n (Zm xs)) (hl:xs.length=n) (hn:n≤1000000) :
  Calls Tryz.prog 179 #[.slice (some ⟨g,0,none⟩) n cap,.func (.func 164) #[] #[]] w fun e w'=>e=.returned (.tuple #[])∧w'.ownsRow B 127 3 (.slice (some ⟨g,0,none⟩) n cap) n (Zm (Si xs))∧w.grownBy w' (some g):=by
 have eg:∀ args w,(callFunc 164 args).run Tryz.prog w=.ok (.enter 164 args) w:=enters_of Tryz.func164 (by kernel_rfl) rfl
 have k:=AnyQ.slices_SortFunc_total L4 3 Fu GY I3.cells (fun _=>rfl) (fun x v hv=>by unfold I3.cells at hv;simp at hv;rcases hv with rfl | rfl | rfl<;>rfl) Tg J8 164 #[] g 0 cap xs.toArray w eg (Ps g 0 _ w) (KG h hl) ((h.lt g rfl).2) (by simp;omega) MA
 have e:xs.toArray.size=n:=by simpa using hl
 rw [e] at k
 refine Calls.mono k ?_
 rintro e' w' ⟨rfl,m,os,rfl⟩
 exact ⟨rfl,JC (ys:=Si xs) h hl (by rw [Mc];exact hl)⟩
theorem Qs (a:Option Addr) (cap:Nat) (w:World) :
  Calls Tryz.prog 179 #[.slice a 0 cap,.func (.func 164) #[] #[]] w fun e w'=>e=.returned (.tuple #[])∧w=w':=by
 have k:=AnyF.slices_SortFunc_none L4 a cap (.func (.func 164) #[] #[]) w
 refine Calls.mono k ?_
 rintro e' w' ⟨rfl,rfl⟩
 exact ⟨rfl,rfl⟩

def Ta (a:Option Addr) (c:Nat):Prop:=(a=none→c=0)∧∀ x,a=some x→x.spot=none
theorem Qq (a0:Option Addr) (n0 c0:Nat) (xs:List I3) (a1:Option Addr) (n1 c1:Nat) (ys:List I3) (w:World) (h0:Zl w a0 n0 c0 xs) (h1:Zl w a1 n1 c1 ys) (m0:n0≤400000) (m1:n1≤400000) (z0:Ta a0 c0) (z1:Ta a1 c1) :
  Calls Tryz.prog 123 #[.slice a0 n0 c0,.slice a1 n1 c1] w fun e w'=>Wn e w' w.heap.size (ZD xs ys)∧Below w.heap.size w w':=by
 have l0:=h0.1
 have l1:=h1.1
 have bw:Below w.heap.size w (w.alloc (.cells #[.slice a0 n0 c0,.slice a1 n1 c1] 28)):=by go_grown
 have d0:(w.alloc (.cells #[.slice a0 n0 c0,.slice a1 n1 c1] 28)).cell? ⟨w.heap.size,0,none⟩=some (.slice a0 n0 c0):=by simp [go_sem]
 have d1:(w.alloc (.cells #[.slice a0 n0 c0,.slice a1 n1 c1] 28)).cell? ⟨w.heap.size,1,none⟩=some (.slice a1 n1 c1):=by simp [go_sem]
 go_enter Tryz.func123,Tryz.ntmps123
 go_wp2_with fail
 generalize w.alloc (.cells #[.slice a0 n0 c0,.slice a1 n1 c1] 28)=W at *
 refine (Kr w.heap.size a0 n0 c0 xs a1 n1 c1 ys W (h0.below bw) (h1.below bw) m0 m1 z0.1 z1.1 z0.2 z1.2 d0 d1).mono ?_
 rintro e w1 ⟨⟨v,rfl,_,hq⟩,hb1⟩
 have hB:w.heap.size≤W.heap.size:=bw.size
 replace bw:=Zb bw hb1
 have hln:(xs++ys).length=n0+n1:=by rw [List.length_append];omega
 have HM:Hid (ZM (Si (xs++ys))=ZD xs ys):=JE xs ys
 clear d0 d1 h0 h1 z0 z1 hb1
 generalize xs++ys=zs at *
 by_cases hz:n0+n1=0
 ·obtain ⟨a,c,rfl⟩:∃ a c,v=.slice a 0 c:=by
   rcases hq.2 with ⟨rfl,h9⟩ | ⟨g,cap,cur,hv,_⟩
   ·exact ⟨_,_,rfl⟩
   exact ⟨_,_,by rw [hv,hz]⟩
  have hzs:zs=[]:=List.length_eq_zero_iff.1 (by omega)
  have HR:Hid (∀ e,e=.returned (.slice a 0 c)→Wn e w1 w.heap.size (ZD xs ys)):=fun e he=>by
   rw [← HM.out,hzs]
   refine ⟨_,he,?_⟩
   have e9:ZM (Si [])=[]:=by simp [Si,ZM]
   rw [e9]
   rw [hz,hzs] at hq
   exact YX hq hB
  clear hq HM
  go_wp2_with fail
  refine (Qs a c _).mono ?_
  rintro e w2 ⟨rfl,rfl⟩
  go_wp2_with fail
  refine (Sn a 0 c _ (by omega)).mono ?_
  rintro e w2 ⟨rfl,rfl⟩
  go_wp2
  go_ret
  exact ⟨HR.out _ rfl,bw⟩
 obtain ⟨g,c,rfl⟩:=YS hq (by omega)
 have kS:=N9 _ g (n0+n1) c zs w1 hq hln (by omega)
 have hsl:(Si zs).length=n0+n1:=by rw [Mc];exact hln
 have hnb:n0+n1≤1000000:=by omega
 generalize n0+n1=n at *
 go_wp2_with fail
 refine kS.mono ?_
 rintro e w2 ⟨rfl,hq2,g2⟩
 have hg:=(hq.lt g rfl).1
 replace bw:=bw.grown g2 bw.size (fun k hk=>by cases hk;omega)
 clear kS hq
 by_cases hn2:n<2
 ·have HR:Hid (∀ e,e=.returned (.slice (some ⟨g,0,none⟩) n c)→Wn e w2 w.heap.size (ZD xs ys)):=fun e he=>by
   rw [← HM.out,M1 (by omega)]
   exact ⟨_,he,by rw [hsl];exact YX hq2 hB⟩
  clear hq2 HM g2
  go_wp2_with fail
  refine (Sn _ n c _ (by omega)).mono ?_
  rintro e w3 ⟨rfl,rfl⟩
  go_wp2
  go_ret
  exact ⟨HR.out _ rfl,bw⟩
 have kC:=MD _ g n c (Si zs) w2 hq2 hsl (by omega) (by omega)
 clear hq2 g2
 go_wp2_with fail
 refine kC.mono ?_
 rintro e w3 ⟨m,rfl,hq3,g3⟩
 clear kC
 have bw3:=bw.grown g3 bw.size (fun k hk=>by cases hk;omega)
 have HR:Hid (∀ e,e=.returned (.slice (some ⟨g,0,none⟩) m c)→Wn e w3 w.heap.size (ZD xs ys)):=fun e he=>by
  rw [← HM.out]
  exact ⟨_,he,YX hq3 hB⟩
 clear hq3 g3 HM bw
 go_wp2
 go_ret
 exact ⟨HR.out _ rfl,bw3⟩

open Go.RowKit

def FH (e:Ending) (w':World) (B:Nat) (xs:List I3):Prop:=∃ v,e=.returned v∧w'.ownsRow B 127 3 v xs.length (Zm xs)
theorem So {w:World} {p:Addr} {b:Bool} (k:Calls Tryz.prog 213 #[.pointer (some p)] w fun e w'=>e=.returned (.bool b)∧Below w.heap.size w w') :
  Calls Tryz.prog 177 #[.pointer (some p)] w fun e w'=>FH e w' w.heap.size (if b then [(14,0,0)] else [])∧Below w.heap.size w w':=by
 cases b
 ·go_enter Tryz.func177,Tryz.ntmps177
  go_wp2_with fail
  refine k.mono ?_
  rintro e w1 ⟨rfl,hb⟩
  go_wp2
  go_ret
  exact ⟨⟨_,rfl,World.ownsRow_nil _ _ _ _⟩,hb⟩
 go_enter Tryz.func177,Tryz.ntmps177
 go_wp2_with fail
 refine k.mono ?_
 rintro e w1 ⟨rfl,hb⟩
 have q:=World.ownsRow_lit (e:=127) (base:=w.heap.size) (size:=3) w1 #[.int .i64 14,.int .i64 0,.int .i64 0] 1 hb.size (by unfold maxLen;omega) rfl
 have HD:Hid (FH (.returned (.slice (some ⟨w1.heap.size,0,none⟩) 1 1)) (w1.alloc (.cells #[.int .i64 14,.int .i64 0,.int .i64 0] 127)) w.heap.size [(14,0,0)]):=⟨_,rfl,q⟩
 clear q
 go_wp2
 go_ret
 exact ⟨HD.out,Zh hb (by go_grown)⟩


theorem Z8 {w:World} {B:Nat} {v:Value} {xs:List I3} (h:w.ownsRow B 127 3 v xs.length (Zm xs)) (hf:∀ x ∈ xs,I3.fits x):∃ a cap,v=.slice a xs.length cap∧Zl w a xs.length cap xs∧Ta a cap:=by
 rcases h.2 with ⟨rfl,h0⟩ | ⟨g,cap,cur,hv,_⟩
 ·exact ⟨none,0,by rw [h0],⟨rfl,by omega,by unfold maxLen;omega,hf,.inl h0⟩,fun _=>rfl,fun x hx=>by cases hx⟩
 subst hv
 exact ⟨_,_,rfl,Zl.of_owns h rfl hf rfl,(fun h=>by cases h),fun x hx=>by cases hx;rfl⟩


theorem Hg (rows:List (List I3)) (m:V4) (k:Nat):goM rows m (k:Int)=ZH m (Xj rows m k) k:=by unfold goM;rw [Int.toNat_natCast]
theorem GJ {rows:List (List I3)} {m:V4} {k:Nat} (hk:k<3) (hc:WZ rows m k=true):VS rows m (k:Int)=0:=by
 have hd:=(Kp hc).1
 unfold VS
 rw [if_pos (by omega),Int.toNat_natCast]
 simp [hd,hc]


def nxM (rows:List (List I3)) (m:V4):List (Int × V4):=(Zn rows m 3).map fun k=>(k,(goM rows m k).1)
theorem PO {rows:List (List I3)} {m:V4} {t:Int × V4} (h:t ∈ nxM rows m):VS rows m t.1=0∧t.2=(goM rows m t.1).1:=by
 unfold nxM at h
 obtain ⟨k,hk,rfl⟩:=List.mem_map.1 h
 obtain ⟨i,hi,hie⟩:=List.getElem_of_mem hk
 obtain ⟨k',e,h3,hc⟩:=GG hi
 have e2:(Zn rows m 3).getD i 0=k:=by simp [List.getD,hi,hie]
 rw [e2] at e
 subst e
 exact ⟨GJ h3 hc,rfl⟩
theorem Jj {rows:List (List I3)} {m:V4} (hp:Zj rows=true) (hs:Zd m=true) {t:Int × V4} (h:t ∈ nxM rows m):Zd t.2=true:=by
 obtain ⟨h1,h2⟩:=PO h
 rw [h2]
 exact T6 hp hs h1


theorem NQ {α:Type} [DecidableEq α]:∀ (l t:List α),l.Nodup→(∀ x ∈ l,x ∈ t)→l.length≤t.length
 | [],t,_,_=>Nat.zero_le _
 | x::l,t,hn,hs=>by
  have hn':=List.nodup_cons.1 hn
  have hx:x ∈ t:=hs x (by simp)
  have ih:=NQ l (t.erase x) hn'.2 (fun y hy=>by
   have hy':y ∈ t:=hs y (by simp [hy])
   have hne:y≠x:=fun e=>hn'.1 (e▸hy)
   exact (List.mem_erase_of_ne hne).2 hy')
  rw [List.length_erase_of_mem hx] at ih
  have:0<t.length:=List.length_pos_of_mem hx
  simp only [List.length_cons]
  omega
def Xf (rows:List (List I3)):Nat→V4→List V4
 | 0,m=>[m]
 | f+1,m=>m::(nxM rows m).flatMap fun t=>Xf rows f t.2
def Qr (rows:List (List I3)) (m:V4) (k:Nat):Nat:=(Xn rows k).length - (m.1.getD k 0).toNat
theorem HH {rows:List (List I3)} {m:V4} (hp:Zj rows=true) (hs:Zd m=true) {k:Nat} (hk:k<3) (hd:Yt rows m k=false) :
  Qr rows (goM rows m k).1 k+1≤Qr rows m k∧∀ j,j≠k→Qr rows (goM rows m k).1 j=Qr rows m j:=by
 have h1:=JH hp hs hk hd
 have hb:=Yr hs
 have hpc:=Vr hb.1 (by omega) k
 have hlt:m.1.getD k 0<(Xn rows k).length:=by
  unfold Yt at hd
  rw [decide_eq_false_iff_not] at hd
  omega
 rw [Hg]
 refine ⟨?_,fun j hj=>?_⟩
 ·unfold Qr
  omega
 unfold Qr
 rw [Md m _ hj]


def ZU (rows:List (List I3)) (m:V4):Nat:=Qr rows m 0+Qr rows m 1+Qr rows m 2
theorem UB {rows:List (List I3)} {m:V4} (hp:Zj rows=true) (hs:Zd m=true) {k:Int} (h:VS rows m k=0):ZU rows (goM rows m k).1+1≤ZU rows m:=by
 obtain ⟨h0,h2,hd,hc⟩:=X6 h
 obtain ⟨q,rfl⟩:∃ q:Nat,k=q:=⟨k.toNat,by omega⟩
 rw [Int.toNat_natCast] at hd
 obtain ⟨r1,r2⟩:=HH hp hs (show q<3 by omega) hd
 unfold ZU
 have hq:q=0∨q=1∨q=2:=by omega
 rcases hq with rfl | rfl | rfl
 ·have a:=r2 1 (by omega);have b:=r2 2 (by omega);omega
 ·have a:=r2 0 (by omega);have b:=r2 2 (by omega);omega
 have a:=r2 0 (by omega);have b:=r2 1 (by omega);omega
theorem Xi {rows:List (List I3)} {m:V4} {k:Int} (h:k ∈ Zn rows m 3):VS rows m k=0:=(PO (t:=(k,(goM rows m k).1)) (List.mem_map.2 ⟨k,h,rfl⟩)).1
theorem Ks {rows:List (List I3)} {m:V4} (hp:Zj rows=true) (hs:Zd m=true) (h:ZU rows m=0):Zn rows m 3=[]:=by
 rw [List.eq_nil_iff_forall_not_mem]
 intro k hk
 have:=UB hp hs (Xi hk)
 omega


def Ap3 (v u:Value):Prop:=∀ g,v.ownBlock=some g→u.ownBlock≠some g
theorem Ap3.or {v u:Value} (h:Ap3 v u):v.ownBlock=none∨v.ownBlock≠u.ownBlock:=by
 cases e:v.ownBlock with
 | none=>exact .inl rfl
 | some g=>exact .inr fun e2=>h g e e2.symm
theorem Ap3.types {w:World} {B B' e e' s s' n n':Nat} {v v':Value} {xs xs':List Value} (h:w.ownsRow B e s v n xs) (h':w.ownsRow B' e' s' v' n' xs') (he:e≠e'):Ap3 v v':=fun g hg h2=>by
 rcases Xo h h' he with h3 | h3
 ·rw [h3] at hg;cases hg
 exact h3 (hg.trans h2.symm)
theorem YO {w:World} {B e s n:Nat} {v:Value} {xs:List Value} (h:w.ownsRow B e s v n xs) {g:Nat} (hg:v.ownBlock=some g):B≤g∧g<w.heap.size:=by
 rcases h.2 with ⟨rfl,_⟩ | ⟨g',cap,cur,rfl,hb,hgg,_⟩
 ·simp [Value.ownBlock] at hg
 simp [Value.ownBlock] at hg
 subst hg
 refine ⟨hb,?_⟩
 rcases Nat.lt_or_ge g' w.heap.size with h1 | h1
 ·exact h1
 rw [Array.getElem?_eq_none h1] at hgg;cases hgg
/-! The rows that go with the list of states. -/


theorem J4 (xs:List Int) (h:∀ x ∈ xs,0≤x∧x≤255) (i:Nat) (hi:i<xs.length):btV (strOfNums xs) i=xs.getD i 0:=by
 have hx:=h xs[i] (List.getElem_mem hi)
 unfold btV
 simp [strOfNums,List.getD,List.getElem?_eq_getElem hi]
 omega
theorem Vt {m:V4} (h:Zd m=true):(Zs m).size=15:=by
 obtain ⟨l0,l1,l2,l3,_⟩:=ZI h
 unfold Zs
 rw [strOfNums_size,List.length_map]
 unfold Xy
 simp [l0,l1,l2,l3]
theorem Vd {m:V4} (h:Zd m=true):ZC (Zs m)=m:=by
 obtain ⟨l0,l1,l2,l3,hd⟩:=ZI h
 have hb:∀ i,i<15→btV (Zs m) i - 48=(Xy m).getD i 0:=fun i hi=>by
  have hl:(Xy m).length=15:=by unfold Xy;simp [l0,l1,l2,l3]
  unfold Zs
  rw [J4 _ (fun x hx=>by obtain ⟨z,hz,rfl⟩:=List.mem_map.1 hx;have:=hd z hz;omega) i (by rw [List.length_map];omega)]
  have e:((Xy m).map fun z=>48+z).getD i 0=48+(Xy m).getD i 0:=by
   have hi':i<(Xy m).length:=by omega
   simp [List.getD,List.getElem?_eq_getElem hi']
  rw [e]
  omega
 have b0:=hb 0 (by omega)
 have b1:=hb 1 (by omega)
 have b2:=hb 2 (by omega)
 have b3:=hb 3 (by omega)
 have b4:=hb 4 (by omega)
 have b5:=hb 5 (by omega)
 have b6:=hb 6 (by omega)
 have b7:=hb 7 (by omega)
 have b8:=hb 8 (by omega)
 have b9:=hb 9 (by omega)
 have b10:=hb 10 (by omega)
 have b11:=hb 11 (by omega)
 have b12:=hb 12 (by omega)
 have b13:=hb 13 (by omega)
 have b14:=hb 14 (by omega)
 clear hb hd l0 l1 l2 l3
 obtain ⟨p0,p1,p2,v0,v1,v2,v3,h0,h1,x0,y0,x1,y1,x2,y2,rfl⟩:=Uh h
 unfold ZC Yw X1
 simp [List.range_succ,b0,b1,b2,b3,b4,b5,b6,b7,b8,b9,b10,b11,b12,b13,b14]
 simp [Xy]
theorem WD {m q:V4} (h:Zd m=true) (h':Zd q=true) (e:Zs m=Zs q):m=q:=by rw [← Vd h,e,Vd h']


theorem Fx {s t:ByteArray} (h:s≠t):(Lit.string s.data.toList)≠Lit.string t.data.toList:=fun e=>by
 injection e with e
 exact h (ByteArray.ext (Array.ext' e))
/-! The records of states: 22 cells each. -/
end Go.Proofs.YtnffeclgboomoaaGreatDoor
