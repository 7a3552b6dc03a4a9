/-
  Joined: SrtB, DedI, RpG, CmtQ, FulQ, Rw3, RsuE, Ent0, EqInts, Mk8.
-/
import Derived.Deep.MidRow
import Derived.Test.YtnffeclgboomoaaGreatDoorR25
import Derived.Test.YtnffeclgboomoaaGreatDoorR26

namespace Go.Proofs.YtnffeclgboomoaaGreatDoor
set_option maxRecDepth 100000
set_option maxHeartbeats 16000000
open Go.RowKit Go.Sort Go.Shelf
set_option linter.unusedVariables false
set_option linter.unusedSimpArgs false

theorem Rc (xs:List I3):(flatK I3.cells 3 xs.toArray).toList=Zl xs:=by
 apply List.ext_getElem?
 intro t
 by_cases h:t<xs.length*3
 ·have hq:t / 3<xs.length:=by omega
  have hl:t<(flatK I3.cells 3 xs.toArray).toList.length:=by simp;omega
  have e1:(flatK I3.cells 3 xs.toArray).toList[t]?=some ((I3.cells xs.toArray[t / 3]!)[t % 3]!):=by
   rw [List.getElem?_eq_getElem hl,Array.getElem_toList,← getElem!_pos (flatK I3.cells 3 xs.toArray) t (by simpa using h),get_flatK _ _ _ _ (by simpa using h)]
  rw [e1]
  obtain ⟨f0,f1,f2⟩:=SO hq
  have ex:xs.toArray[t / 3]! = xs.getD (t / 3) (0,0,0):=by
   rw [getElem!_pos _ _ (by simpa using hq)]
   simp [List.getD,List.getElem?_eq_getElem hq]
  rw [ex]
  generalize xs.getD (t / 3) (0,0,0)=x at *
  have hr:t % 3=0∨t % 3=1∨t % 3=2:=by omega
  rcases hr with hr | hr | hr
  ·have e:t / 3*3=t:=by omega
   rw [e] at f0
   rw [f0,hr]
   rfl
  ·have e:t / 3*3+1=t:=by omega
   rw [e] at f1
   rw [f1,hr]
   rfl
  have e:t / 3*3+2=t:=by omega
  rw [e] at f2
  rw [f2,hr]
  rfl
 rw [List.getElem?_eq_none (by simp;omega),List.getElem?_eq_none (by rw [Zo];omega)]
theorem LK {w:World} {B g n cap:Nat} {xs:List I3} (h:w.ownsRow B 127 3 (.slice (some ⟨g,0,none⟩) n cap) n (Zl xs)) (hl:xs.length=n):HoldsK I3.cells 3 w g 0 xs.toArray:=by
 intro t ht
 rw [size_flatK] at ht
 have ht':t<n*3:=by simpa [hl] using ht
 refine ⟨?_,by rw [Nat.zero_add];exact h.frozenAt t⟩
 rw [Nat.zero_add,h.cellAt t ht',← Rc,getElem!_pos _ _ (by rw [size_flatK];exact ht)]
 simp [ht]
theorem KE {w:World} {B g n cap m:Nat} {xs ys:List I3} {os:Array Obj} (h:w.ownsRow B 127 3 (.slice (some ⟨g,0,none⟩) n cap) n (Zl xs)) (hx:xs.length=n) (hy:ys.length=n) :
  (sortWorldK I3.cells 3 w g 0 m ys.toArray os).ownsRow B 127 3 (.slice (some ⟨g,0,none⟩) n cap) n (Zl ys)∧w.grownBy (sortWorldK I3.cells 3 w g 0 m ys.toArray os) (some g):=by
 rcases h.2 with ⟨hv,_⟩ | ⟨g',cap',cur,hv,hB,hg,hn,hc,hsz,ht⟩
 ·cases hv
 cases hv
 have hgl:g<w.heap.size:=(Array.getElem?_eq_some_iff.1 hg).1
 refine ⟨⟨by rw [Zo];omega,.inr ⟨g,cap,putCells id 0 (flatK I3.cells 3 ys.toArray) cur,rfl,hB,?_,hn,hc,?_,?_⟩⟩,⟨rfl,rfl,rfl,?_,?_⟩⟩
 ·show (((Sort.ahead w m).heap.modify g _)++os)[g]?=_
  rw [Array.getElem?_append_left (by simpa [Sort.ahead] using hgl),Array.getElem?_modify]
  simp [Sort.ahead,hg,onCells]
 ·simpa [putCells] using hsz
 ·have hfk:=Rc ys
  have hfs:(flatK I3.cells 3 ys.toArray).size=n*3:=by simp [hy]
  apply List.ext_getElem?
  intro t
  by_cases h3:t<n*3
  ·rw [List.getElem?_take_of_lt h3,← hfk]
   have hcz:t<cur.size:=by rw [hsz];have:=Nat.mul_le_mul_right 3 hn;omega
   simp only [putCells,Array.getElem?_toList,Array.getElem?_mapIdx,Array.getElem?_eq_getElem hcz,Option.map_some]
   rw [if_pos ⟨Nat.zero_le _,by omega⟩,getElem!_pos _ _ (by omega),Array.getElem?_eq_getElem (by omega)]
   simp
  rw [List.getElem?_eq_none (by rw [List.length_take];omega),List.getElem?_eq_none (by rw [Zo];omega)]
 ·show w.heap.size≤(((Sort.ahead w m).heap.modify g _)++os).size
  simp [Sort.ahead]
 intro k hk hne
 show (((Sort.ahead w m).heap.modify g _)++os)[k]?=_
 rw [Array.getElem?_append_left (by simpa [Sort.ahead] using hk),Array.getElem?_modify]
 have:g≠k:=fun e=>hne (by rw [e])
 simp [Sort.ahead,this]

def T1 (l:List I3):List I3:=l.mergeSort fun x y=>!(ltOf UJ) y x
theorem NL (l:List I3):(T1 l).length=l.length:=by unfold T1;simp
theorem JP {l:List I3} {x:I3}:x ∈ T1 l↔x ∈ l:=by unfold T1;exact (List.mergeSort_perm l _).mem_iff
theorem KH (l:List I3):(T1 l).Pairwise fun a b=>ltB b a=false:=by
 have h:=List.pairwise_mergeSort (le:=fun x y=>!(ltOf UJ) y x) (fun a b c h1 h2=>by
  simp only [Bool.not_eq_true',WL] at *
  cases k:ltB c a
  ·rfl
  ·cases k2:ltB c b
   ·cases k3:ltB b c
    ·have:=Wx k2 k3
     subst this
     rw [h1] at k
     cases k
    have:=Vf k3 k
    rw [this] at h1
    cases h1
   rw [k2] at h2
   cases h2) (fun a b=>by
  simp only [WL,Bool.or_eq_true,Bool.not_eq_true']
  cases k:ltB b a
  ·exact .inl rfl
  exact .inr (QJ k)) l
 exact h.imp fun {a b} h=>by simpa [WL] using h
theorem KG (xs ys:List I3):ZT (T1 (xs++ys))=ZL xs ys:=Mx (KH _) fun x=>by rw [JP,List.mem_append]
theorem My:∀ {l:List I3},l.length<2→ZT l=l
 | [],_=>rfl
 | [x],_=>rfl
 | x::y::l,h=>by simp at h;omega

theorem GA:∀ w,(isAgg 127).run Tryz.prog w=.ok true w:=Tryz.isAgg127
theorem Hz:∀ w,(Go.sizeOf 127).run Tryz.prog w=.ok 3 w:=Tryz.sizeOf127
theorem Pa (blk off size:Nat) (w:World):CmpLays Tryz.prog 164 #[] I3.cells 3 UJ blk off size w:=fun _ _ _ _ x y=>VK x y _
theorem NK (B g n cap:Nat) (xs:List I3) (w:World) (h:w.ownsRow B 127 3 (.slice (some ⟨g,0,none⟩) n cap) n (Zl xs)) (hl:xs.length=n) (hn:n≤1000000) :
  Calls Tryz.prog 179 #[.slice (some ⟨g,0,none⟩) n cap,.func (.func 164) #[] #[]] w fun e w'=>e=.returned (.tuple #[])∧w'.ownsRow B 127 3 (.slice (some ⟨g,0,none⟩) n cap) n (Zl (T1 xs))∧w.grownBy w' (some g):=by
 have eg:∀ args w,(callFunc 164 args).run Tryz.prog w=.ok (.enter 164 args) w:=enters_of Tryz.func164 (by kernel_rfl) rfl
 have k:=AnyQ.slices_SortFunc_total Lj 3 GA Hz I3.cells (fun _=>rfl) (fun x v hv=>by unfold I3.cells at hv;simp at hv;rcases hv with rfl | rfl | rfl<;>rfl) UJ K6 164 #[] g 0 cap xs.toArray w eg (Pa g 0 _ w) (LK h hl) ((h.lt g rfl).2) (by simp;omega) N4
 have e:xs.toArray.size=n:=by simpa using hl
 rw [e] at k
 refine Calls.mono k ?_
 rintro e' w' ⟨rfl,m,os,rfl⟩
 exact ⟨rfl,KE (ys:=T1 xs) h hl (by rw [NL];exact hl)⟩
theorem Qf (a:Option Addr) (cap:Nat) (w:World) :
  Calls Tryz.prog 179 #[.slice a 0 cap,.func (.func 164) #[] #[]] w fun e w'=>e=.returned (.tuple #[])∧w=w':=by
 have k:=AnyF.slices_SortFunc_none Lj a cap (.func (.func 164) #[] #[]) w
 refine Calls.mono k ?_
 rintro e' w' ⟨rfl,rfl⟩
 exact ⟨rfl,rfl⟩

def VH (a:Option Addr) (c:Nat):Prop:=(a=none→c=0)∧∀ x,a=some x→x.spot=none
theorem Qd (a0:Option Addr) (n0 c0:Nat) (xs:List I3) (a1:Option Addr) (n1 c1:Nat) (ys:List I3) (w:World) (h0:Zm w a0 n0 c0 xs) (h1:Zm w a1 n1 c1 ys) (m0:n0≤400000) (m1:n1≤400000) (z0:VH a0 c0) (z1:VH a1 c1) :
  Calls Tryz.prog 123 #[.slice a0 n0 c0,.slice a1 n1 c1] w fun e w'=>Wm e w' w.heap.size (ZL xs ys)∧Below w.heap.size w w':=by
 have l0:=h0.1
 have l1:=h1.1
 have bw:Below w.heap.size w (w.alloc (.cells #[.slice a0 n0 c0,.slice a1 n1 c1] 28)):=by go_grown
 have d0:(w.alloc (.cells #[.slice a0 n0 c0,.slice a1 n1 c1] 28)).cell? ⟨w.heap.size,0,none⟩=some (.slice a0 n0 c0):=by simp [go_sem]
 have d1:(w.alloc (.cells #[.slice a0 n0 c0,.slice a1 n1 c1] 28)).cell? ⟨w.heap.size,1,none⟩=some (.slice a1 n1 c1):=by simp [go_sem]
 go_enter Tryz.func123,Tryz.ntmps123
 go_wp2_with fail
 generalize w.alloc (.cells #[.slice a0 n0 c0,.slice a1 n1 c1] 28)=W at *
 refine (LD w.heap.size a0 n0 c0 xs a1 n1 c1 ys W (h0.below bw) (h1.below bw) m0 m1 z0.1 z1.1 z0.2 z1.2 d0 d1).mono ?_
 rintro e w1 ⟨⟨v,rfl,_,hq⟩,hb1⟩
 have hB:w.heap.size≤W.heap.size:=bw.size
 replace bw:=Zb bw hb1
 have hln:(xs++ys).length=n0+n1:=by rw [List.length_append];omega
 have HM:Hid (ZT (T1 (xs++ys))=ZL xs ys):=KG xs ys
 clear d0 d1 h0 h1 z0 z1 hb1
 generalize xs++ys=zs at *
 by_cases hz:n0+n1=0
 ·obtain ⟨a,c,rfl⟩:∃ a c,v=.slice a 0 c:=by
   rcases hq.2 with ⟨rfl,h9⟩ | ⟨g,cap,cur,hv,_⟩
   ·exact ⟨_,_,rfl⟩
   exact ⟨_,_,by rw [hv,hz]⟩
  have hzs:zs=[]:=List.length_eq_zero_iff.1 (by omega)
  have HR:Hid (∀ e,e=.returned (.slice a 0 c)→Wm e w1 w.heap.size (ZL xs ys)):=fun e he=>by
   rw [← HM.out,hzs]
   refine ⟨_,he,?_⟩
   have e9:ZT (T1 [])=[]:=by simp [T1,ZT]
   rw [e9]
   rw [hz,hzs] at hq
   exact YU hq hB
  clear hq HM
  go_wp2_with fail
  refine (Qf a c _).mono ?_
  rintro e w2 ⟨rfl,rfl⟩
  go_wp2_with fail
  refine (T4 a 0 c _ (by omega)).mono ?_
  rintro e w2 ⟨rfl,rfl⟩
  go_wp2
  go_ret
  exact ⟨HR.out _ rfl,bw⟩
 obtain ⟨g,c,rfl⟩:=YP hq (by omega)
 have kS:=NK _ g (n0+n1) c zs w1 hq hln (by omega)
 have hsl:(T1 zs).length=n0+n1:=by rw [NL];exact hln
 have hnb:n0+n1≤1000000:=by omega
 generalize n0+n1=n at *
 go_wp2_with fail
 refine kS.mono ?_
 rintro e w2 ⟨rfl,hq2,g2⟩
 have hg:=(hq.lt g rfl).1
 replace bw:=bw.grown g2 bw.size (fun k hk=>by cases hk;omega)
 clear kS hq
 by_cases hn2:n<2
 ·have HR:Hid (∀ e,e=.returned (.slice (some ⟨g,0,none⟩) n c)→Wm e w2 w.heap.size (ZL xs ys)):=fun e he=>by
   rw [← HM.out,My (by omega)]
   exact ⟨_,he,by rw [hsl];exact YU hq2 hB⟩
  clear hq2 HM g2
  go_wp2_with fail
  refine (T4 _ n c _ (by omega)).mono ?_
  rintro e w3 ⟨rfl,rfl⟩
  go_wp2
  go_ret
  exact ⟨HR.out _ rfl,bw⟩
 have kC:=N7 _ g n c (T1 zs) w2 hq2 hsl (by omega) (by omega)
 clear hq2 g2
 go_wp2_with fail
 refine kC.mono ?_
 rintro e w3 ⟨m,rfl,hq3,g3⟩
 clear kC
 have bw3:=bw.grown g3 bw.size (fun k hk=>by cases hk;omega)
 have HR:Hid (∀ e,e=.returned (.slice (some ⟨g,0,none⟩) m c)→Wm e w3 w.heap.size (ZL xs ys)):=fun e he=>by
  rw [← HM.out]
  exact ⟨_,he,YU hq3 hB⟩
 clear hq3 g3 HM bw
 go_wp2
 go_ret
 exact ⟨HR.out _ rfl,bw3⟩

open Go.RowKit

def GL (e:Ending) (w':World) (B:Nat) (xs:List I3):Prop:=∃ v,e=.returned v∧w'.ownsRow B 127 3 v xs.length (Zl xs)
theorem T5 {w:World} {p:Addr} {b:Bool} (k:Calls Tryz.prog 213 #[.pointer (some p)] w fun e w'=>e=.returned (.bool b)∧Below w.heap.size w w') :
  Calls Tryz.prog 177 #[.pointer (some p)] w fun e w'=>GL e w' w.heap.size (if b then [(14,0,0)] else [])∧Below w.heap.size w w':=by
 cases b
 ·go_enter Tryz.func177,Tryz.ntmps177
  go_wp2_with fail
  refine k.mono ?_
  rintro e w1 ⟨rfl,hb⟩
  go_wp2
  go_ret
  exact ⟨⟨_,rfl,World.ownsRow_nil _ _ _ _⟩,hb⟩
 go_enter Tryz.func177,Tryz.ntmps177
 go_wp2_with fail
 refine k.mono ?_
 rintro e w1 ⟨rfl,hb⟩
 have q:=World.ownsRow_lit (e:=127) (base:=w.heap.size) (size:=3) w1 #[.int .i64 14,.int .i64 0,.int .i64 0] 1 hb.size (by unfold maxLen;omega) rfl
 have HD:Hid (GL (.returned (.slice (some ⟨w1.heap.size,0,none⟩) 1 1)) (w1.alloc (.cells #[.int .i64 14,.int .i64 0,.int .i64 0] 127)) w.heap.size [(14,0,0)]):=⟨_,rfl,q⟩
 clear q
 go_wp2
 go_ret
 exact ⟨HD.out,Zn hb (by go_grown)⟩


theorem Z5 {w:World} {B:Nat} {v:Value} {xs:List I3} (h:w.ownsRow B 127 3 v xs.length (Zl xs)) (hf:∀ x ∈ xs,I3.fits x):∃ a cap,v=.slice a xs.length cap∧Zm w a xs.length cap xs∧VH a cap:=by
 rcases h.2 with ⟨rfl,h0⟩ | ⟨g,cap,cur,hv,_⟩
 ·exact ⟨none,0,by rw [h0],⟨rfl,by omega,by unfold maxLen;omega,hf,.inl h0⟩,fun _=>rfl,fun x hx=>by cases hx⟩
 subst hv
 exact ⟨_,_,rfl,Zm.of_owns h rfl hf rfl,(fun h=>by cases h),fun x hx=>by cases hx;rfl⟩


theorem Jb (rows:List (List I3)) (m:V4) (k:Nat):goM rows m (k:Int)=ZJ m (Xk rows m k) k:=by unfold goM;rw [Int.toNat_natCast]
theorem J9 {rows:List (List I3)} {m:V4} {k:Nat} (hk:k<3) (hc:Vb rows m k=true):VQ rows m (k:Int)=0:=by
 have hd:=(LB hc).1
 unfold VQ
 rw [if_pos (by omega),Int.toNat_natCast]
 simp [hd,hc]


def nxM (rows:List (List I3)) (m:V4):List (Int × V4):=(Zv rows m 3).map fun k=>(k,(goM rows m k).1)
theorem Hp {rows:List (List I3)} {m:V4} {t:Int × V4} (h:t ∈ nxM rows m):VQ rows m t.1=0∧t.2=(goM rows m t.1).1:=by
 unfold nxM at h
 obtain ⟨k,hk,rfl⟩:=List.mem_map.1 h
 obtain ⟨i,hi,hie⟩:=List.getElem_of_mem hk
 obtain ⟨k',e,h3,hc⟩:=J7 hi
 have e2:(Zv rows m 3).getD i 0=k:=by simp [List.getD,hi,hie]
 rw [e2] at e
 subst e
 exact ⟨J9 h3 hc,rfl⟩


def Ap3 (v u:Value):Prop:=∀ g,v.ownBlock=some g→u.ownBlock≠some g
theorem Ap3.or {v u:Value} (h:Ap3 v u):v.ownBlock=none∨v.ownBlock≠u.ownBlock:=by
 cases e:v.ownBlock with
 | none=>exact .inl rfl
 | some g=>exact .inr fun e2=>h g e e2.symm
theorem Ap3.types {w:World} {B B' e e' s s' n n':Nat} {v v':Value} {xs xs':List Value} (h:w.ownsRow B e s v n xs) (h':w.ownsRow B' e' s' v' n' xs') (he:e≠e'):Ap3 v v':=fun g hg h2=>by
 rcases Yh h h' he with h3 | h3
 ·rw [h3] at hg;cases hg
 exact h3 (hg.trans h2.symm)
theorem Ym {w:World} {B e s n:Nat} {v:Value} {xs:List Value} (h:w.ownsRow B e s v n xs) {g:Nat} (hg:v.ownBlock=some g):B≤g∧g<w.heap.size:=by
 rcases h.2 with ⟨rfl,_⟩ | ⟨g',cap,cur,rfl,hb,hgg,_⟩
 ·simp [Value.ownBlock] at hg
 simp [Value.ownBlock] at hg
 subst hg
 refine ⟨hb,?_⟩
 rcases Nat.lt_or_ge g' w.heap.size with h1 | h1
 ·exact h1
 rw [Array.getElem?_eq_none h1] at hgg;cases hgg
/-! The rows that go with the list of states. -/


theorem WT (a a':Option Addr) (n c c':Nat) (nz:Int) (xs:List I3) (w:World) (h:Zm w a n c xs) (h':Zm w a' n c' xs) :
  Calls Tryz.prog 29 #[.agg #[.slice a n c,.int .i64 nz],.agg #[.slice a' n c',.int .i64 nz]] w fun e w'=>e=.returned (.bool true)∧Below w.heap.size w w':=by
 have bw:Below w.heap.size w ((w.alloc (.cells #[.slice a n c,.int .i64 nz] 30)).alloc (.cells #[.slice a' n c',.int .i64 nz] 30)):=by go_grown
 have p0:Blk ((w.alloc (.cells #[.slice a n c,.int .i64 nz] 30)).alloc (.cells #[.slice a' n c',.int .i64 nz] 30)) w.heap.size 30 [.slice a n c,.int .i64 nz]:=Zi _ (Zj _ _ _ rfl)
 have p1:Blk ((w.alloc (.cells #[.slice a n c,.int .i64 nz] 30)).alloc (.cells #[.slice a' n c',.int .i64 nz] 30)) (w.heap.size+1) 30 [.slice a' n c',.int .i64 nz]:=Zj _ _ _ (by simp)
 have kE:=T8 a a' n c c' xs _ (h.below bw) (h'.below bw)
 have hne:(nz != nz)=false:=by simp
 go_enter Tryz.func29,Tryz.ntmps29
 go_wp2_with fail
 generalize ((w.alloc (.cells #[.slice a n c,.int .i64 nz] 30)).alloc (.cells #[.slice a' n c',.int .i64 nz] 30))=U at *
 have c0:=p0.cell 0
 have c1:=p1.cell 0
 simp only [List.getElem?_cons_zero] at c0 c1
 go_wp2_with fail
 refine kE.mono ?_
 rintro e w1 ⟨rfl,hb⟩
 replace bw:=Zb bw hb
 replace p0:=p0.below hb
 replace p1:=p1.below hb
 clear hb kE c0 c1
 have c0:=p0.cell 1
 have c1:=p1.cell 1
 simp only [List.getElem?_cons_zero,List.getElem?_cons_succ] at c0 c1
 go_wp2
 go_ret
 exact ⟨rfl,bw⟩
theorem Rt (B T:Nat) (a:Option Addr) (c:Nat) (nz:Int) (k:Int) (xs:List I3) (w:World) (hk0:0≤k) (hk:k≤1000000) (hn:xs.length≤1048576) (ho:w.ownsRow B 127 3 (.slice a xs.length c) xs.length (Zl xs)) (hB:B≤w.heap.size) (hT:∀ j,(Value.slice a xs.length c).ownBlock=some j→j<T) :
  Calls Tryz.prog 33 #[.agg #[.slice a xs.length c,.int .i64 nz],.int .i64 k] w fun e w'=>e=.returned (.int .i64 (k+xs.length*3))∧w'.ownsRow B 127 3 (.slice a xs.length c) xs.length (Zl (mkI k xs xs.length))∧Xv B T w w':=by
 have bw:Below w.heap.size w (w.alloc (.cells #[.slice a xs.length c,.int .i64 nz] 30)):=by go_grown
 have p0:Blk (w.alloc (.cells #[.slice a xs.length c,.int .i64 nz] 30)) w.heap.size 30 [.slice a xs.length c,.int .i64 nz]:=Zj _ _ _ rfl
 have kM:=UZ B _ k xs _ hk0 (by omega) hn (Zs ho bw)
 have hs:=bw.size
 go_enter Tryz.func33,Tryz.ntmps33
 go_wp2_with fail
 generalize (w.alloc (.cells #[.slice a xs.length c,.int .i64 nz] 30))=U at *
 have c0:=p0.cell 0
 simp only [List.getElem?_cons_zero] at c0
 go_wp2_with fail
 refine kM.mono ?_
 rintro e w1 ⟨rfl,q1,g1⟩
 have hm:Xv B T w w1:=((Xv.refl B T U).step g1 (by omega) (fun x hx=>(Ym ho hx).1) hT).after bw hB
 clear kM c0 p0 g1 bw hs
 go_wp2
 go_ret
 exact ⟨rfl,q1,hm⟩
theorem VR (B:Nat) (a:Option Addr) (c:Nat) (nz:Int) (k:Int) (xs:List I3) (w:World) (hk0:0≤k) (hk:k≤1000000) (hn:xs.length≤1048576) (ho:w.ownsRow B 127 3 (.slice a xs.length c) xs.length (Zl (mkI k xs xs.length))) :
  Calls Tryz.prog 35 #[.agg #[.slice a xs.length c,.int .i64 nz],.int .i64 k] w fun e w'=>e=.returned (.int .i64 (k+xs.length*3))∧Below w.heap.size w w':=by
 have bw:Below w.heap.size w (w.alloc (.cells #[.slice a xs.length c,.int .i64 nz] 30)):=by go_grown
 have p0:Blk (w.alloc (.cells #[.slice a xs.length c,.int .i64 nz] 30)) w.heap.size 30 [.slice a xs.length c,.int .i64 nz]:=Zj _ _ _ rfl
 have kM:=UN B _ k xs _ hk0 (by omega) hn (Zs ho bw)
 have hlt:decide (k+(xs.length:Int)*3<0)=false:=by simp;omega
 go_enter Tryz.func35,Tryz.ntmps35
 go_wp2_with fail
 generalize (w.alloc (.cells #[.slice a xs.length c,.int .i64 nz] 30))=U at *
 have c0:=p0.cell 0
 simp only [List.getElem?_cons_zero] at c0
 go_wp2_with fail
 refine kM.mono ?_
 rintro e w1 ⟨rfl,rfl⟩
 clear kM c0 p0
 go_wp2
 go_ret
 exact ⟨rfl,bw⟩

open Go.RowKit Go.ChangeShapes Go.WideShapes Go.Joins

abbrev E3:=ByteArray × List I3 × List Int
abbrev Sl2:=Sl × Sl
def ZM (k:ByteArray) (s:Sl2):Value:=.agg #[.string k,.slice s.1.1 s.1.2.1 s.1.2.2,.slice s.2.1 s.2.2.1 s.2.2.2]
def Yj (k:ByteArray) (s:Sl2):List Value:=[.string k,.slice s.1.1 s.1.2.1 s.1.2.2,.slice s.2.1 s.2.2.1 s.2.2.2]
def GS (s:Sl2):Prop:=(s.1.1=none→s.1.2.2=0)∧(s.2.1=none→s.2.2.2=0)
def YI (w:World) (s:Sl2) (e:E3):Prop:=(e.1.size≤maxLen∧GS s)∧Zm w s.1.1 s.1.2.1 s.1.2.2 e.2.1∧VI w s.2 e.2.2
theorem YI.below {w w':World} {s:Sl2} {e:E3} (h:YI w s e) (hb:Below w.heap.size w w'):YI w' s e:=⟨h.1,h.2.1.below hb,h.2.2.below hb⟩
def e3d:E3:=(ByteArray.empty,[],[])
def YV (w:World) (a:Option Addr) (len cap:Nat) (es:List E3):Prop:=
 es.length=len∧len≤cap∧cap≤maxLen∧(len=0∨∃ b off,a=some ⟨b,off,none⟩∧b<w.heap.size∧∀ t,t<len →
  ∃ s:Sl2,w.cell? ⟨b,off+t*3,none⟩=some (.string (es.getD t e3d).1)∧w.cell? ⟨b,off+t*3+1,none⟩=some (.slice s.1.1 s.1.2.1 s.1.2.2)∧w.cell? ⟨b,off+t*3+2,none⟩=some (.slice s.2.1 s.2.2.1 s.2.2.2)∧YI w s (es.getD t e3d))
theorem YV.below {w w':World} {a:Option Addr} {len cap:Nat} {es:List E3} (h:YV w a len cap es) (hb:Below w.heap.size w w'):YV w' a len cap es:=by
 obtain ⟨h1,h2,h3,h4⟩:=h
 refine ⟨h1,h2,h3,?_⟩
 rcases h4 with h4 | ⟨b,off,ha,hlt,hc⟩
 ·exact .inl h4
 refine .inr ⟨b,off,ha,by have:=hb.size;omega,fun t ht=>?_⟩
 obtain ⟨s,c0,c1,c2,hm⟩:=hc t ht
 exact ⟨s,by rw [hb.cell (p:=⟨b,_,none⟩) hlt];exact c0,by rw [hb.cell (p:=⟨b,_,none⟩) hlt];exact c1,by rw [hb.cell (p:=⟨b,_,none⟩) hlt];exact c2,hm.below hb⟩

section
variable {H : Type} {enc : TypeId × Value → H} {w : World} {base : Nat} {spare : Nat → Bool} {held : Bool}
end


theorem PR (a a':Option Addr) (len cap cap':Nat) (zs:List Int) (w:World) (h:Yi .i64 w a len cap zs) (h':Yi .i64 w a' len cap' zs) :
  Calls Tryz.prog 94 #[.slice a len cap,.slice a' len cap'] w fun e w'=>e=.returned (.bool true)∧∃ d,w'=w.drewN d:=by
 obtain ⟨hl,hlc,hcm,hcase⟩:=h
 obtain ⟨_,hlc',hcm',hcase'⟩:=h'
 unfold maxLen at hcm hcm'
 have hne:((len:Int) != (len:Int))=false:=by simp
 by_cases h0:len=0
 ·subst h0
  go_enter Tryz.func94,Tryz.ntmps94
  go_wp2
  refine wp_loop_rounds 1 ?_
  rw [rounds_succ]
  go_wp2
  go_ret
  exact ⟨rfl,0,rfl⟩
 rcases hcase with h0' | ⟨b,off,rfl,hblt,hcell⟩
 ·exact absurd h0' h0
 rcases hcase' with h0' | ⟨b',off',rfl,hblt',hcell'⟩
 ·exact absurd h0' h0
 go_enter Tryz.func94,Tryz.ntmps94
 go_wp2
 go_loopw [5] (fun si wr=>∃ k d:Nat,k≤len∧si=.int .i64 k∧wr=w.drewN d) (fun si _=>len - (intOf si).toNat)
 case atStart=>exact ⟨0,0,by omega,rfl,rfl⟩
 case round =>
  obtain ⟨k,d,hk,rfl,rfl⟩:=hrel
  by_cases hlt:k<len
  ·have hc:=hcell k hlt
   have hc':=hcell' k hlt
   have hlt':(k:Int)<(len:Int):=by omega
   generalize zs.getD k 0=x at hc hc'
   clear hcell hcell'
   go_wp2
   go_quiet (fail)
   go_wp2
   go_roundw
   case rel=>exact ⟨k+1,_,by omega,by go_num,rfl⟩
   case measure=>simp [intOf];omega
  go_wp2
  go_ret
  exact ⟨rfl,d,rfl⟩


theorem H8 (w:World) (g j:Nat) (u:Value):w.grownBy (w.setCell ⟨g,j,none⟩ u) (some g):=
 ⟨rfl,rfl,rfl,by simp [World.setCell],fun k _ hk=>Below.heap_setCell _ _ _ _ (fun e=>hk (by rw [e]))⟩
theorem GU {a b c:World} {row:Option Nat} (h:a.grownBy b row) (k:b.grownBy c row):a.grownBy c row:=
 ⟨k.os.trans h.os,k.tape.trans h.tape,k.output.trans h.output,Nat.le_trans h.size k.size,fun i hi hne=>(k.block i (by have:=h.size;omega) hne).trans (h.block i hi hne)⟩
theorem GO (base g n cap:Nat) (k:Int) (xs:List Int) (w:World) (hk0:0≤k) (hk:k≤1000000000) (hn:n≤1048576) (ho:w.ownsRow base 3 1 (.slice (some ⟨g,0,none⟩) n cap) n (xs.map (Value.int .i64))) :
  Calls Tryz.prog 140 #[.slice (some ⟨g,0,none⟩) n cap,.int .i64 k] w fun e w'=>e=.returned (.int .i64 (k+n)) ∧
   w'.ownsRow base 3 1 (.slice (some ⟨g,0,none⟩) n cap) n ((WZ k xs n).map (Value.int .i64))∧w.grownBy w' (some g):=by
 have hlen:xs.length=n:=by simpa using ho.1
 go_enter Tryz.func140,Tryz.ntmps140
 go_wp2
 go_loopw [1,5] (fun sk si wr=>∃ j:Nat,j≤n∧si=.int .i64 j∧sk=.int .i64 (k+j)∧wr.ownsRow base 3 1 (.slice (some ⟨g,0,none⟩) n cap) n ((WZ k xs j).map (Value.int .i64))∧w.grownBy wr (some g)) (fun _ si _=>n - (Go.RowKit.intOf si).toNat)
 case atStart=>exact ⟨0,by omega,rfl,by go_num,by simpa [WZ] using ho,World.grownBy.refl _ _⟩
 case round =>
  obtain ⟨j,hj,rfl,rfl,hr,hbel⟩:=hrel
  by_cases hlt:j<n
  ·have hf:=hr.frozenAt j
   have hst:=(hr.stored j (.int .i64 (k+j))).1
   rw [← List.map_set,Nq k xs j (by omega)] at hst
   have hold:∃ u,wr.cell? ⟨g,j,none⟩=some u:=by
    have:=hr.cellAt j (by omega)
    rw [this]
    exact ⟨_,List.getElem?_eq_getElem (by simp [Ta];omega)⟩
   obtain ⟨u,hu⟩:=hold
   have hb1:=GU hbel (H8 wr g j (.int .i64 (k+j)))
   clear hr ho
   go_wp2
   go_roundw
   case rel=>exact ⟨j+1,by omega,by go_num,by go_num,hst,hb1⟩
   case measure=>simp [Go.RowKit.intOf];omega
  obtain rfl:j=n:=by omega
  go_wp2
  go_ret
  exact ⟨rfl,hr,hbel⟩
theorem Jr (base:Nat) (v:Value) (k:Int) (xs:List Int) (w:World) (hk0:0≤k) (hk:k≤1000000000) (hn:xs.length≤1048576) (ho:w.ownsRow base 3 1 v xs.length (xs.map (Value.int .i64))) :
  Calls Tryz.prog 140 #[v,.int .i64 k] w fun e w'=>e=.returned (.int .i64 (k+xs.length)) ∧
   w'.ownsRow base 3 1 v xs.length ((WZ k xs xs.length).map (Value.int .i64))∧w.grownBy w' v.ownBlock:=by
 rcases ho.2 with ⟨rfl,h0⟩ | ⟨g,cap,cur,rfl,_⟩
 ·have hx:xs=[]:=List.eq_nil_of_length_eq_zero h0
  subst hx
  refine (Qc none 0 k w).mono ?_
  rintro e w' ⟨rfl,rfl⟩
  exact ⟨by simp,ho,World.grownBy.refl _ _⟩
 refine (GO base g xs.length cap k xs w hk0 hk hn ho).mono ?_
 rintro e w' ⟨rfl,h1,h2⟩
 exact ⟨rfl,h1,h2⟩
theorem Jc (base:Nat) (v:Value) (k:Int) (xs:List Int) (w:World) (hk0:0≤k) (hk:k≤1000000000) (hn:xs.length≤1048576) (ho:w.ownsRow base 3 1 v xs.length ((WZ k xs xs.length).map (Value.int .i64))) :
  Calls Tryz.prog 141 #[v,.int .i64 k] w fun e w'=>e=.returned (.int .i64 (k+xs.length))∧w=w':=by
 obtain ⟨a,cap,rfl⟩:=ZH ho
 exact Pf a xs.length cap k (WZ k xs xs.length) w hk0 hk hn (Qy ho) (fun i hi=>Np k xs xs.length i hi (Nat.le_refl _))
theorem eq8 (a a':Option Addr) (len cap cap':Nat) (xs:List Int) (w:World) (h:Yi .i64 w a len cap xs) (h':Yi .i64 w a' len cap' xs) :
  Calls Tryz.prog 94 #[.slice a len cap,.slice a' len cap'] w fun e w'=>e=.returned (.bool true)∧Below w.heap.size w w':=by
 refine (PR a a' len cap cap' xs w h h').mono ?_
 rintro e w' ⟨rfl,d,rfl⟩
 exact ⟨rfl,⟨rfl,rfl,rfl,Nat.le_refl _,fun _ _=>rfl⟩⟩
end Go.Proofs.YtnffeclgboomoaaGreatDoor
