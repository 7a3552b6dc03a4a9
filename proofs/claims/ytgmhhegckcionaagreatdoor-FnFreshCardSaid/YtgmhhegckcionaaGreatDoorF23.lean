/-
  Joined: SrtB, Kit8, DedI, RpG, EvC, CmtQ, FulQ, FulB, FulD, Rw3, KeyB, SrcP, SpcP, SpcH.
-/
import Derived.Lib.Hide
import Derived.Deep.MidRow
import Derived.Maps.OwnSet
import Derived.Test.YtgmhhegckcionaaGreatDoorF18
import Derived.Test.YtgmhhegckcionaaGreatDoorF21
import Derived.Test.YtgmhhegckcionaaGreatDoorF22

namespace Go.Proofs.YtgmhhegckcionaaGreatDoor
set_option maxRecDepth 100000
set_option maxHeartbeats 16000000
open Go.RowKit Go.Sort Go.Shelf
set_option linter.unusedVariables false
set_option linter.unusedSimpArgs false

theorem Qs (xs:List I3):(flatK I3.cells 3 xs.toArray).toList=Zn xs:=by
 apply List.ext_getElem?
 intro t
 by_cases h:t<xs.length*3
 ·have hq:t / 3<xs.length:=by omega
  have hl:t<(flatK I3.cells 3 xs.toArray).toList.length:=by simp;omega
  have e1:(flatK I3.cells 3 xs.toArray).toList[t]?=some ((I3.cells xs.toArray[t / 3]!)[t % 3]!):=by
   rw [List.getElem?_eq_getElem hl,Array.getElem_toList,← getElem!_pos (flatK I3.cells 3 xs.toArray) t (by simpa using h),get_flatK _ _ _ _ (by simpa using h)]
  rw [e1]
  obtain ⟨f0,f1,f2⟩:=NZ hq
  have ex:xs.toArray[t / 3]! = xs.getD (t / 3) (0,0,0):=by
   rw [getElem!_pos _ _ (by simpa using hq)]
   simp [List.getD,List.getElem?_eq_getElem hq]
  rw [ex]
  generalize xs.getD (t / 3) (0,0,0)=x at *
  have hr:t % 3=0∨t % 3=1∨t % 3=2:=by omega
  rcases hr with hr | hr | hr
  ·have e:t / 3*3=t:=by omega
   rw [e] at f0
   rw [f0,hr]
   rfl
  ·have e:t / 3*3+1=t:=by omega
   rw [e] at f1
   rw [f1,hr]
   rfl
  have e:t / 3*3+2=t:=by omega
  rw [e] at f2
  rw [f2,hr]
  rfl
 rw [List.getElem?_eq_none (by simp;omega),List.getElem?_eq_none (by rw [Zw];omega)]
theorem He {w:World} {B g n cap:Nat} {xs:List I3} (h:w.ownsRow B 103 3 (.slice (some ⟨g,0,none⟩) n cap) n (Zn xs)) (hl:xs.length=n):HoldsK I3.cells 3 w g 0 xs.toArray:=by
 intro t ht
 rw [size_flatK] at ht
 have ht':t<n*3:=by simpa [hl] using ht
 refine ⟨?_,by rw [Nat.zero_add];exact h.frozenAt t⟩
 rw [Nat.zero_add,h.cellAt t ht',← Qs,getElem!_pos _ _ (by rw [size_flatK];exact ht)]
 simp [ht]
theorem GG {w:World} {B g n cap m:Nat} {xs ys:List I3} {os:Array Obj} (h:w.ownsRow B 103 3 (.slice (some ⟨g,0,none⟩) n cap) n (Zn xs)) (hx:xs.length=n) (hy:ys.length=n) :
  (sortWorldK I3.cells 3 w g 0 m ys.toArray os).ownsRow B 103 3 (.slice (some ⟨g,0,none⟩) n cap) n (Zn ys)∧w.grownBy (sortWorldK I3.cells 3 w g 0 m ys.toArray os) (some g):=by
 rcases h.2 with ⟨hv,_⟩ | ⟨g',cap',cur,hv,hB,hg,hn,hc,hsz,ht⟩
 ·cases hv
 cases hv
 have hgl:g<w.heap.size:=(Array.getElem?_eq_some_iff.1 hg).1
 refine ⟨⟨by rw [Zw];omega,.inr ⟨g,cap,putCells id 0 (flatK I3.cells 3 ys.toArray) cur,rfl,hB,?_,hn,hc,?_,?_⟩⟩,⟨rfl,rfl,rfl,?_,?_⟩⟩
 ·show (((Sort.ahead w m).heap.modify g _)++os)[g]?=_
  rw [Array.getElem?_append_left (by simpa [Sort.ahead] using hgl),Array.getElem?_modify]
  simp [Sort.ahead,hg,onCells]
 ·simpa [putCells] using hsz
 ·have hfk:=Qs ys
  have hfs:(flatK I3.cells 3 ys.toArray).size=n*3:=by simp [hy]
  apply List.ext_getElem?
  intro t
  by_cases h3:t<n*3
  ·rw [List.getElem?_take_of_lt h3,← hfk]
   have hcz:t<cur.size:=by rw [hsz];have:=Nat.mul_le_mul_right 3 hn;omega
   simp only [putCells,Array.getElem?_toList,Array.getElem?_mapIdx,Array.getElem?_eq_getElem hcz,Option.map_some]
   rw [if_pos ⟨Nat.zero_le _,by omega⟩,getElem!_pos _ _ (by omega),Array.getElem?_eq_getElem (by omega)]
   simp
  rw [List.getElem?_eq_none (by rw [List.length_take];omega),List.getElem?_eq_none (by rw [Zw];omega)]
 ·show w.heap.size≤(((Sort.ahead w m).heap.modify g _)++os).size
  simp [Sort.ahead]
 intro k hk hne
 show (((Sort.ahead w m).heap.modify g _)++os)[k]?=_
 rw [Array.getElem?_append_left (by simpa [Sort.ahead] using hk),Array.getElem?_modify]
 have:g≠k:=fun e=>hne (by rw [e])
 simp [Sort.ahead,this]

def Rv (l:List I3):List I3:=l.mergeSort fun x y=>!(ltOf So) y x
theorem LG (l:List I3):(Rv l).length=l.length:=by unfold Rv;simp
theorem Dm {l:List I3} {x:I3}:x ∈ Rv l↔x ∈ l:=by unfold Rv;exact (List.mergeSort_perm l _).mem_iff
theorem GJ (l:List I3):(Rv l).Pairwise fun a b=>ltB b a=false:=by
 have h:=List.pairwise_mergeSort (le:=fun x y=>!(ltOf So) y x) (fun a b c h1 h2=>by
  simp only [Bool.not_eq_true',VJ] at *
  cases k:ltB c a
  ·rfl
  ·cases k2:ltB c b
   ·cases k3:ltB b c
    ·have:=Vp k2 k3
     subst this
     rw [h1] at k
     cases k
    have:=Uf k3 k
    rw [this] at h1
    cases h1
   rw [k2] at h2
   cases h2) (fun a b=>by
  simp only [VJ,Bool.or_eq_true,Bool.not_eq_true']
  cases k:ltB b a
  ·exact .inl rfl
  exact .inr (P8 k)) l
 exact h.imp fun {a b} h=>by simpa [VJ] using h
theorem GI (xs ys:List I3):ZZ (Rv (xs++ys))=ZK xs ys:=KD (GJ _) fun x=>by rw [Dm,List.mem_append]
theorem KE:∀ {l:List I3},l.length<2→ZZ l=l
 | [],_=>rfl
 | [x],_=>rfl
 | x::y::l,h=>by simp at h;omega

theorem CX:∀ w,(isAgg 103).run Tryz.prog w=.ok true w:=Tryz.isAgg103
theorem Cj:∀ w,(Go.sizeOf 103).run Tryz.prog w=.ok 3 w:=Tryz.sizeOf103
theorem NV (blk off size:Nat) (w:World):CmpLays Tryz.prog 113 #[] I3.cells 3 So blk off size w:=fun _ _ _ _ x y=>UX x y _
theorem LD (B g n cap:Nat) (xs:List I3) (w:World) (h:w.ownsRow B 103 3 (.slice (some ⟨g,0,none⟩) n cap) n (Zn xs)) (hl:xs.length=n) (hn:n≤1000000) :
  Calls Tryz.prog 128 #[.slice (some ⟨g,0,none⟩) n cap,.func (.func 113) #[] #[]] w fun e w'=>e=.returned (.tuple #[])∧w'.ownsRow B 103 3 (.slice (some ⟨g,0,none⟩) n cap) n (Zn (Rv xs))∧w.grownBy w' (some g):=by
 have eg:∀ args w,(callFunc 113 args).run Tryz.prog w=.ok (.enter 113 args) w:=enters_of Tryz.func113 (by kernel_rfl) rfl
 have k:=AnyQ.slices_SortFunc_total Jw 3 CX Cj I3.cells (fun _=>rfl) (fun x v hv=>by unfold I3.cells at hv;simp at hv;rcases hv with rfl | rfl | rfl<;>rfl) So Fk 113 #[] g 0 cap xs.toArray w eg (NV g 0 _ w) (He h hl) ((h.lt g rfl).2) (by simp;omega) L8
 have e:xs.toArray.size=n:=by simpa using hl
 rw [e] at k
 refine Calls.mono k ?_
 rintro e' w' ⟨rfl,m,os,rfl⟩
 exact ⟨rfl,GG (ys:=Rv xs) h hl (by rw [LG];exact hl)⟩
theorem Pz (a:Option Addr) (cap:Nat) (w:World) :
  Calls Tryz.prog 128 #[.slice a 0 cap,.func (.func 113) #[] #[]] w fun e w'=>e=.returned (.tuple #[])∧w=w':=by
 have k:=AnyF.slices_SortFunc_none Jw a cap (.func (.func 113) #[] #[]) w
 refine Calls.mono k ?_
 rintro e' w' ⟨rfl,rfl⟩
 exact ⟨rfl,rfl⟩

def US (a:Option Addr) (c:Nat):Prop:=(a=none→c=0)∧∀ x,a=some x→x.spot=none
theorem TS (a0:Option Addr) (n0 c0:Nat) (xs:List I3) (a1:Option Addr) (n1 c1:Nat) (ys:List I3) (w:World) (h0:Zr w a0 n0 c0 xs) (h1:Zr w a1 n1 c1 ys) (m0:n0≤400000) (m1:n1≤400000) (z0:US a0 c0) (z1:US a1 c1) :
  Calls Tryz.prog 83 #[.slice a0 n0 c0,.slice a1 n1 c1] w fun e w'=>XW e w' w.heap.size (ZK xs ys)∧Below w.heap.size w w':=by
 have l0:=h0.1
 have l1:=h1.1
 have bw:Below w.heap.size w (w.alloc (.cells #[.slice a0 n0 c0,.slice a1 n1 c1] 28)):=by go_grown
 have d0:(w.alloc (.cells #[.slice a0 n0 c0,.slice a1 n1 c1] 28)).cell? ⟨w.heap.size,0,none⟩=some (.slice a0 n0 c0):=by simp [go_sem]
 have d1:(w.alloc (.cells #[.slice a0 n0 c0,.slice a1 n1 c1] 28)).cell? ⟨w.heap.size,1,none⟩=some (.slice a1 n1 c1):=by simp [go_sem]
 go_enter Tryz.func83,Tryz.ntmps83
 go_wp2_with fail
 generalize w.alloc (.cells #[.slice a0 n0 c0,.slice a1 n1 c1] 28)=W at *
 refine (JQ w.heap.size a0 n0 c0 xs a1 n1 c1 ys W (h0.below bw) (h1.below bw) m0 m1 z0.1 z1.1 z0.2 z1.2 d0 d1).mono ?_
 rintro e w1 ⟨⟨v,rfl,_,hq⟩,hb1⟩
 have hB:w.heap.size≤W.heap.size:=bw.size
 replace bw:=Zb bw hb1
 have hln:(xs++ys).length=n0+n1:=by rw [List.length_append];omega
 have HM:Hid (ZZ (Rv (xs++ys))=ZK xs ys):=GI xs ys
 clear d0 d1 h0 h1 z0 z1 hb1
 generalize xs++ys=zs at *
 by_cases hz:n0+n1=0
 ·obtain ⟨a,c,rfl⟩:∃ a c,v=.slice a 0 c:=by
   rcases hq.2 with ⟨rfl,h9⟩ | ⟨g,cap,cur,hv,_⟩
   ·exact ⟨_,_,rfl⟩
   exact ⟨_,_,by rw [hv,hz]⟩
  have hzs:zs=[]:=List.length_eq_zero_iff.1 (by omega)
  have HR:Hid (∀ e,e=.returned (.slice a 0 c)→XW e w1 w.heap.size (ZK xs ys)):=fun e he=>by
   rw [← HM.out,hzs]
   refine ⟨_,he,?_⟩
   have e9:ZZ (Rv [])=[]:=by simp [Rv,ZZ]
   rw [e9]
   rw [hz,hzs] at hq
   exact Xn hq hB
  clear hq HM
  go_wp2_with fail
  refine (Pz a c _).mono ?_
  rintro e w2 ⟨rfl,rfl⟩
  go_wp2_with fail
  refine (RA a 0 c _ (by omega)).mono ?_
  rintro e w2 ⟨rfl,rfl⟩
  go_wp2
  go_ret
  exact ⟨HR.out _ rfl,bw⟩
 obtain ⟨g,c,rfl⟩:=WF hq (by omega)
 have kS:=LD _ g (n0+n1) c zs w1 hq hln (by omega)
 have hsl:(Rv zs).length=n0+n1:=by rw [LG];exact hln
 have hnb:n0+n1≤1000000:=by omega
 generalize n0+n1=n at *
 go_wp2_with fail
 refine kS.mono ?_
 rintro e w2 ⟨rfl,hq2,g2⟩
 have hg:=(hq.lt g rfl).1
 replace bw:=bw.grown g2 bw.size (fun k hk=>by cases hk;omega)
 clear kS hq
 by_cases hn2:n<2
 ·have HR:Hid (∀ e,e=.returned (.slice (some ⟨g,0,none⟩) n c)→XW e w2 w.heap.size (ZK xs ys)):=fun e he=>by
   rw [← HM.out,KE (by omega)]
   exact ⟨_,he,by rw [hsl];exact Xn hq2 hB⟩
  clear hq2 HM g2
  go_wp2_with fail
  refine (RA _ n c _ (by omega)).mono ?_
  rintro e w3 ⟨rfl,rfl⟩
  go_wp2
  go_ret
  exact ⟨HR.out _ rfl,bw⟩
 have kC:=Kb _ g n c (Rv zs) w2 hq2 hsl (by omega) (by omega)
 clear hq2 g2
 go_wp2_with fail
 refine kC.mono ?_
 rintro e w3 ⟨m,rfl,hq3,g3⟩
 clear kC
 have bw3:=bw.grown g3 bw.size (fun k hk=>by cases hk;omega)
 have HR:Hid (∀ e,e=.returned (.slice (some ⟨g,0,none⟩) m c)→XW e w3 w.heap.size (ZK xs ys)):=fun e he=>by
  rw [← HM.out]
  exact ⟨_,he,Xn hq3 hB⟩
 clear hq3 g3 HM bw
 go_wp2
 go_ret
 exact ⟨HR.out _ rfl,bw3⟩

open Go.RowKit

def S9 (e:Ending) (w':World) (B:Nat) (xs:List Int):Prop:=∃ v,e=.returned v∧w'.ownsRow B 3 1 v xs.length (xs.map (Value.int .i64))
theorem Zo {a b c:World} (h:Below a.heap.size a b) (k:Below b.heap.size b c):Below a.heap.size a c:=h.trans (k.mono h.size)
theorem Bj {a b:World} (h:Below a.heap.size a b) (d:Nat):Below a.heap.size a (b.drewN d):=h.trans ⟨rfl,rfl,rfl,Nat.le_refl _,fun _ _=>rfl⟩
theorem Z1 {B e k n:Nat} {v:Value} {xs:List Value} {w w':World} (h:w.ownsRow B e k v n xs) (hb:Below w.heap.size w w'):w'.ownsRow B e k v n xs:=
 h.kept (row:=none) ⟨hb.os,hb.tape,hb.output,hb.size,fun i hi _=>hb.block i hi⟩ (by cases v.ownBlock<;>simp)
theorem ZM {w w':World} (h:Below w.heap.size w w') {p:Addr} {v:Value} (hv:w.cell? p=some v):w'.cell? p=some v:=by
 rw [h.cell (World.block_lt_of_cell? _ _ hv)]
 exact hv
theorem Zp {w w':World} {row:Option Nat} (g:w.grownBy w' row) {p:Addr} {v:Value} (hc:w.cell? p=some v) (hne:some p.block≠row):w'.cell? p=some v:=by
 have hl:=World.block_lt_of_cell? _ _ hc
 rw [← hc]
 unfold World.cell?
 rw [g.block p.block hl hne]
theorem Yz {w:World} {B B' e s n:Nat} {v:Value} {cs:List Value} (h:w.ownsRow B e s v n cs) (hB:B'≤B):w.ownsRow B' e s v n cs:=by
 refine ⟨h.1,?_⟩
 rcases h.2 with h0 | ⟨g,cap,cur,hv,hg,rest⟩
 ·exact .inl h0
 exact .inr ⟨g,cap,cur,hv,by omega,rest⟩
theorem RR {w:World} {B e s n:Nat} {v:Value} {cs:List Value} (h:w.ownsRow B e s v n cs) (hn:0<n):∃ g c,v=.slice (some ⟨g,0,none⟩) n c:=by
 rcases h.2 with ⟨rfl,h0⟩ | ⟨g,cap,cur,hv,_⟩
 ·omega
 exact ⟨g,cap,hv⟩
theorem ZY {w:World} {B e s n:Nat} {v:Value} {cs:List Value} (h:w.ownsRow B e s v n cs):∃ a c,v=.slice a n c:=by
 rcases h.2 with ⟨rfl,h0⟩ | ⟨g,cap,cur,hv,_⟩
 ·subst h0;exact ⟨none,0,rfl⟩
 exact ⟨some ⟨g,0,none⟩,cap,hv⟩
theorem XZ (w:World) (t s B:Nat) (hB:B≤w.heap.size):(w.alloc (.cells #[] t)).ownsRow B t s (.slice (some ⟨w.heap.size,0,none⟩) 0 0) 0 []:=World.ownsRow_lit w #[] 0 hB (by unfold maxLen;omega) (by simp)
theorem MU {w:World} {B n c:Nat} {a:Option Addr} {xs:List Int} (h:w.ownsRow B 3 1 (.slice a n c) n (xs.map (Value.int .i64))):Yn .i64 w a n c xs:=by
 rcases h.2 with ⟨e,h0⟩ | ⟨b,cc,cur,e,h1,h2,h3,h4⟩
 ·cases e
  have hl:=h.1
  exact ⟨by simpa using hl,Nat.le_refl _,by unfold maxLen;omega,.inl rfl⟩
 cases e
 exact Yn.of_owns h
theorem TT {w:World} {b off n c:Nat} {xs:List Int} (h:Yn .i64 w (some ⟨b,off,none⟩) n c xs):∀ j u,(xs.map (Value.int .i64))[j]?=some u→w.cell? ((⟨b,off,none⟩:Addr).add j)=some u:=by
 intro j u hj
 obtain ⟨hl,_,_,hcase⟩:=h
 have hjl:j<xs.length:=by simpa using (List.getElem?_eq_some_iff.1 hj).1
 rcases hcase with h0 | ⟨b',off',he,hb,hc⟩
 ·omega
 cases he
 have:=hc j (by omega)
 have e:(⟨b,off,none⟩:Addr).add j=⟨b,off+j,none⟩:=by unfold Addr.add;split<;>simp_all
 rw [e,this]
 simp [List.getElem?_eq_getElem hjl] at hj
 simp [List.getD,List.getElem?_eq_getElem hjl,hj]
theorem Ro (xs:List Int):∀ u ∈ xs.map (Value.int .i64),u.oneCell'=true:=by
 intro u hu
 obtain ⟨x,_,rfl⟩:=List.mem_map.1 hu
 rfl
theorem Xw {P:Program} {ops:Array Oper} {o:Oper} {a:Act} {w:World} {K:Act→World→Prop} {Q:Exit→Act→World→Prop} {E:Prop}
  (hg:o.guard=none) (s x:Operand) (t:TypeId) (hop:o.op=Op.call { callee:=Callee.builtin Builtin.append,args:=#[s,x],argTypes:=#[t,t] })
  (base:Nat) (e:TypeId) (i:TypeInfo) (z:Value) (size bytes:Nat) (h1:P.underlying t=some (.slice e)) (h2:P.info? e=some i) (h3:i.zero=some z) (h4:i.size=size) (h5:i.bytes=bytes) (h6:z.cells.size=size) (h7:0<size)
  (v:Value) (n:Nat) (olds:List Value) (hs:a.eval s=v) (hown:w.ownsRow base e size v n olds)
  (ad:Addr) (m c:Nat) (news:List Value) (hx:a.eval x=.slice (some ad) m c) (hn:news.length=m*size) (hc:∀ j u,news[j]?=some u→w.cell? (ad.add j)=some u) (h1c:∀ u ∈ news,u.oneCell'=true)
  (b1:n+m≤maxLen) (b2:(n+m)*bytes≤140737488355328) (hbw:base≤w.heap.size)
  (hK:∀ v' w',w'.ownsRow base e size v' (n+m) (olds++news)→w.grownBy w' v.ownBlock→(v'.ownBlock=v.ownBlock∨v'.ownBlock=some w.heap.size)→K (a.put o.dst v') w') :
  if Region.wanted o (yielded ops a.tmps)=true then Oper.wp P o a w K Q else E:=by
 have hw:Region.wanted o (yielded ops a.tmps)=true:=by simp [Region.wanted,hg]
 rw [if_pos hw]
 obtain ⟨v',w',hrun,r1,r2,_,r4⟩:=run_append_own_at (P:=P) (w:=w) base t o.type e i z size bytes h1 h2 h3 h4 h5 h6 h7 v n olds hown ad m c news hn hc h1c b1 b2 hbw
 subst hs
 unfold Oper.wp
 simp [execOp,hop,resolve,invoke,builtin,hx,hrun,Result.andThen]
 exact hK v' w' r1 r2 r4
theorem VG {w:World} {b off len cap hi:Nat} {xs:List Int} (h:Yn .i64 w (some ⟨b,off,none⟩) len cap xs) (h2:hi≤len) :
  (∀ W,(Instr.slice 36 (.slice (some ⟨b,off,none⟩) len cap) none (some (.int .i64 (hi:Int))) none).run Tryz.prog W=.ok (.slice (some ⟨b,off,none⟩) hi cap) W)∧Yn .i64 w (some ⟨b,off,none⟩) hi cap (xs.take hi):=by
 obtain ⟨hl,hlc,hcm,hcase⟩:=h
 have hhc:(hi:Int)≤(cap:Int):=by omega
 refine ⟨fun W=>?_,by rw [List.length_take];omega,by omega,by omega,?_⟩
 ·go_simp
  try omega
 rcases hcase with h0 | ⟨b',off',he,hb,hc⟩
 ·exact .inl (by omega)
 cases he
 refine .inr ⟨b,off,rfl,hb,fun t ht=>?_⟩
 rw [hc t (by omega)]
 simp [List.getD,ht]
theorem F6 {w:World} {b off len cap lo:Nat} {xs:List Int} (h:Yn .i64 w (some ⟨b,off,none⟩) len cap xs) (h1:lo≤len) :
  ∃ o2,(∀ W,(Instr.slice 36 (.slice (some ⟨b,off,none⟩) len cap) (some (.int .i64 (lo:Int))) none none).run Tryz.prog W=.ok (.slice (some ⟨b,o2,none⟩) (len - lo) (cap - lo)) W)∧Yn .i64 w (some ⟨b,o2,none⟩) (len - lo) (cap - lo) (xs.drop lo):=by
 obtain ⟨hl,hlc,hcm,hcase⟩:=h
 have hlh:(lo:Int)≤(len:Int):=by omega
 by_cases hz:cap - lo=0
 ·refine ⟨off,fun W=>?_,by rw [List.length_drop];omega,by omega,by omega,.inl (by omega)⟩
  go_simp
  omega
 refine ⟨off+lo,fun W=>?_,by rw [List.length_drop];omega,by omega,by omega,?_⟩
 ·go_simp
  omega
 rcases hcase with h0 | ⟨b',off',he,hb,hc⟩
 ·exact .inl (by omega)
 cases he
 refine .inr ⟨b,off+lo,rfl,hb,fun t ht=>?_⟩
 have:=hc (lo+t) (by omega)
 rw [show off+lo+t=off+(lo+t) by omega,this]
 simp [List.getD]


def Bg (e:Ending) (w':World) (B:Nat) (xs:List I3):Prop:=∃ v,e=.returned v∧w'.ownsRow B 103 3 v xs.length (Zn xs)
theorem U8 {w:World} {p:Addr} {b:Bool} (k:Calls Tryz.prog 159 #[.pointer (some p)] w fun e w'=>e=.returned (.bool b)∧Below w.heap.size w w') :
  Calls Tryz.prog 126 #[.pointer (some p)] w fun e w'=>Bg e w' w.heap.size (if b then [(14,0,0)] else [])∧Below w.heap.size w w':=by
 cases b
 ·go_enter Tryz.func126,Tryz.ntmps126
  go_wp2_with fail
  refine k.mono ?_
  rintro e w1 ⟨rfl,hb⟩
  go_wp2
  go_ret
  exact ⟨⟨_,rfl,World.ownsRow_nil _ _ _ _⟩,hb⟩
 go_enter Tryz.func126,Tryz.ntmps126
 go_wp2_with fail
 refine k.mono ?_
 rintro e w1 ⟨rfl,hb⟩
 have q:=World.ownsRow_lit (e:=103) (base:=w.heap.size) (size:=3) w1 #[.int .i64 14,.int .i64 0,.int .i64 0] 1 hb.size (by unfold maxLen;omega) rfl
 have HD:Hid (Bg (.returned (.slice (some ⟨w1.heap.size,0,none⟩) 1 1)) (w1.alloc (.cells #[.int .i64 14,.int .i64 0,.int .i64 0] 103)) w.heap.size [(14,0,0)]):=⟨_,rfl,q⟩
 clear q
 go_wp2
 go_ret
 exact ⟨HD.out,Zo hb (by go_grown)⟩


theorem WO {w:World} {B:Nat} {v:Value} {xs:List I3} (h:w.ownsRow B 103 3 v xs.length (Zn xs)) (hf:∀ x ∈ xs,I3.fits x):∃ a cap,v=.slice a xs.length cap∧Zr w a xs.length cap xs∧US a cap:=by
 rcases h.2 with ⟨rfl,h0⟩ | ⟨g,cap,cur,hv,_⟩
 ·exact ⟨none,0,by rw [h0],⟨rfl,by omega,by unfold maxLen;omega,hf,.inl h0⟩,fun _=>rfl,fun x hx=>by cases hx⟩
 subst hv
 exact ⟨_,_,rfl,Zr.of_owns h rfl hf rfl,(fun h=>by cases h),fun x hx=>by cases hx;rfl⟩


def J3 (rows:List (List I3)):V4→List Int→List I4
 | _,[]=>[]
 | m,k::ks=>Kh rows m k.toNat::J3 rows (goM rows m k).1 ks


theorem Fv (rows:List (List I3)) (m:V4) (k:Nat):goM rows m (k:Int)=ZQ m (Xa rows m k) k:=by unfold goM;rw [Int.toNat_natCast]
theorem K8 {rows:List (List I3)} {m:V4} {k:Nat} (hk:k<3) (hc:YH rows m k=true):XO rows m (k:Int)=0:=by
 have hd:=(JO hc).1
 unfold XO
 rw [if_pos (by omega),Int.toNat_natCast]
 simp [hd,hc]
theorem Rp {rows:List (List I3)} {m:V4} {fs:List I3} {k:Int} {ks:List Int} (h:(Vh rows m fs (k::ks)).2.2=0):XO rows m k=0∧Vh rows m fs (k::ks)=Vh rows (goM rows m k).1 (fs++Xg rows m k) ks:=by
 have e:Vh rows m fs (k::ks)=if XO rows m k=0 then Vh rows (goM rows m k).1 (fs++Xg rows m k) ks else (m,fs,XO rows m k):=rfl
 by_cases hz:XO rows m k=0
 ·rw [if_pos hz] at e
  exact ⟨hz,e⟩
 rw [e,if_neg hz] at h
 exact absurd h hz
theorem F3 {rows:List (List I3)} {m:V4} {fs:List I3} {k:Int} {ks:List Int} (hz:XO rows m k=0):Vh rows m fs (k::ks)=Vh rows (goM rows m k).1 (fs++Xg rows m k) ks:=by
 show (if XO rows m k=0 then _ else _)=_
 rw [if_pos hz]
theorem Jv {rows:List (List I3)}:∀ (pre ks:List Int) (m:V4) (fs:List I3),(Vh rows m fs pre).2.2=0→Vh rows m fs (pre++ks)=Vh rows (Vh rows m fs pre).1 (Vh rows m fs pre).2.1 ks∧J3 rows m (pre++ks)=J3 rows m pre++J3 rows (Vh rows m fs pre).1 ks
 | [],ks,m,fs,_=>⟨rfl,rfl⟩
 | k::pre,ks,m,fs,h=>by
  obtain ⟨h1,e1⟩:=Rp h
  rw [e1] at h ⊢
  obtain ⟨i1,i2⟩:=Jv pre ks _ _ h
  rw [List.cons_append,F3 h1,i1]
  refine ⟨rfl,?_⟩
  show Kh rows m k.toNat::J3 rows (goM rows m k).1 (pre++ks)=Kh rows m k.toNat::(J3 rows (goM rows m k).1 pre++_)
  rw [i2]


def nxM (rows:List (List I3)) (m:V4):List (Int × V4):=(Zm rows m 3).map fun k=>(k,(goM rows m k).1)
theorem R8 {rows:List (List I3)} {m:V4} {t:Int × V4} (h:t ∈ nxM rows m):XO rows m t.1=0∧t.2=(goM rows m t.1).1:=by
 unfold nxM at h
 obtain ⟨k,hk,rfl⟩:=List.mem_map.1 h
 obtain ⟨i,hi,hie⟩:=List.getElem_of_mem hk
 obtain ⟨k',e,h3,hc⟩:=DJ hi
 have e2:(Zm rows m 3).getD i 0=k:=by simp [List.getD,hi,hie]
 rw [e2] at e
 subst e
 exact ⟨K8 h3 hc,rfl⟩
theorem C5 {rows:List (List I3)} {m:V4} {k:Int} (h:XO rows m k=0):(k,(goM rows m k).1) ∈ nxM rows m:=by
 obtain ⟨h0,h2,hd,hc⟩:=XB h
 obtain ⟨q,rfl⟩:∃ q:Nat,k=q:=⟨k.toNat,by omega⟩
 rw [Int.toNat_natCast] at hc
 exact List.mem_map.2 ⟨(q:Int),(QL 3).2 ⟨by omega,hc⟩,rfl⟩
theorem Ni {rows:List (List I3)} {m:V4} (hp:Zf rows=true) (hs:Zc m=true) {t:Int × V4} (h:t ∈ nxM rows m):Zc t.2=true:=by
 obtain ⟨h1,h2⟩:=R8 h
 rw [h2]
 exact Vm hp hs h1
def ZL (rows:List (List I3)):List (Zz V4):=Ul (nxM rows) 2000 0 [(Zu,0,0)]
def Xl (S:List (Zz V4)):Prop:=∀ r ∈ S,Zc r.1=true
theorem Tl {i:Nat} {S:List (Zz V4)} {t:Int × V4} (h:Xl S) (ht:Zc t.2=true):Xl (WW i S t):=by
 unfold WW
 split
 ·exact h
 intro r hr
 rcases List.mem_append.1 hr with hr | hr
 ·exact h r hr
 simp at hr
 subst hr
 exact ht
theorem QQ {i:Nat}:∀ (ts:List (Int × V4)) (S:List (Zz V4)),Xl S→(∀ t ∈ ts,Zc t.2=true)→Xl (onS i S ts)
 | [],S,h,_=>h
 | t::ts,S,h,ht=>QQ ts _ (Tl h (ht t (by simp))) (fun u hu=>ht u (by simp [hu]))
theorem Tt {rows:List (List I3)} (hp:Zf rows=true):∀ (f i:Nat) (S:List (Zz V4)),Xl S→Xl (Ul (nxM rows) f i S)
 | 0,_,S,h=>h
 | f+1,i,S,h=>by
  unfold Ul
  split
  ·exact h
  rename_i r hr
  exact Tt hp f (i+1) _ (QQ _ S h (fun t ht=>Ni hp (h r (List.mem_of_getElem? hr)) ht))
theorem Su {rows:List (List I3)} (hp:Zf rows=true):Xl (ZL rows):=Tt hp _ _ _ (fun r hr=>by simp at hr;subst hr;exact ZJ)
theorem VA (rows:List (List I3)):(ZL rows)[0]?=some (Zu,0,0):=by
 obtain ⟨r,hr⟩:=SY (nxM rows) 2000 0 [(Zu,0,0)]
 unfold ZL
 rw [← hr]
 rfl
theorem Qw (rows:List (List I3)):NK (nxM rows) (ZL rows):=Ru _ _ _ (fun j r hj hr=>by
 match j,hj with
 | j+1,_=>simp at hr)
theorem RE (rows:List (List I3)):((ZL rows).map (·.1)).Nodup:=Sb _ _ _ (by simp)
theorem Us {rows:List (List I3)} (h:(ZL rows).length≤2000):∀ r ∈ ZL rows,∀ t ∈ nxM rows r.1,t.2 ∈ (ZL rows).map (·.1):=
 Ts 2000 0 _ (fun j r hj=>by omega) (by omega) (by unfold ZL at h;omega)
def UM (S:List (Zz V4)):Nat→Nat→List Int
 | 0,_=>[]
 | f+1,j=>if j=0 then [] else match S[j]? with
  | none=>[]
  | some r=>UM S f r.2.1++[r.2.2]
theorem QW {rows:List (List I3)} {S:List (Zz V4)} (hC:NK (nxM rows) S) (h0:S[0]?=some (Zu,0,0)):∀ (f j:Nat) (r:Zz V4),j≤f→S[j]?=some r →
  (Vh rows Zu [] (UM S f j)).1=r.1∧(Vh rows Zu [] (UM S f j)).2.2=0∧(UM S f j).length≤j
 | 0,j,r,hj,hr=>by
  obtain rfl:j=0:=by omega
  rw [h0] at hr
  cases hr
  exact ⟨rfl,rfl,Nat.le_refl _⟩
 | f+1,j,r,hj,hr=>by
  by_cases e:j=0
  ·subst e
   rw [h0] at hr
   cases hr
   exact ⟨rfl,rfl,Nat.le_refl _⟩
  obtain ⟨h1,q,h2,h3⟩:=hC j r (by omega) hr
  have hp9:UM S (f+1) j=UM S f r.2.1++[r.2.2]:=by
   show (if j=0 then [] else match S[j]? with | none=>[] | some r=>UM S f r.2.1++[r.2.2])=_
   rw [if_neg e,hr]
  obtain ⟨i1,i2,i3⟩:=QW hC h0 f r.2.1 q (by omega) h2
  obtain ⟨n1,n2⟩:=R8 h3
  simp only at n1 n2
  have ha:=(Jv (rows:=rows) (UM S f r.2.1) [r.2.2] Zu [] i2).1
  rw [i1] at ha
  have hg:Vh rows q.1 (Vh rows Zu [] (UM S f r.2.1)).2.1 [r.2.2]=((goM rows q.1 r.2.2).1,(Vh rows Zu [] (UM S f r.2.1)).2.1++Xg rows q.1 r.2.2,0):=by
   show (if XO rows q.1 r.2.2=0 then _ else _)=_
   rw [if_pos n1]
   rfl
  rw [hp9,ha,hg]
  refine ⟨n2.symm,rfl,?_⟩
  rw [List.length_append]
  simp
  omega


theorem Th {α:Type} [DecidableEq α]:∀ (l t:List α),l.Nodup→(∀ x ∈ l,x ∈ t)→l.length≤t.length
 | [],t,_,_=>Nat.zero_le _
 | x::l,t,hn,hs=>by
  have hn':=List.nodup_cons.1 hn
  have hx:x ∈ t:=hs x (by simp)
  have ih:=Th l (t.erase x) hn'.2 (fun y hy=>by
   have hy':y ∈ t:=hs y (by simp [hy])
   have hne:y≠x:=fun e=>hn'.1 (e▸hy)
   exact (List.mem_erase_of_ne hne).2 hy')
  rw [List.length_erase_of_mem hx] at ih
  have:0<t.length:=List.length_pos_of_mem hx
  simp only [List.length_cons]
  omega
def Xj:Nat→Nat→Nat→Nat→Nat
 | 0,_,_,_=>1
 | f+1,a,b,c=>1+(if a=0 then 0 else Xj f (a - 1) b c)+(if b=0 then 0 else Xj f a (b - 1) c)+(if c=0 then 0 else Xj f a b (c - 1))
theorem XG:∀ (f a b c a' b' c':Nat),a≤a'→b≤b'→c≤c'→Xj f a b c≤Xj f a' b' c'
 | 0,_,_,_,_,_,_,_,_,_=>Nat.le_refl _
 | f+1,a,b,c,a',b',c',h1,h2,h3=>by
  have i1:=XG f (a - 1) b c (a' - 1) b' c' (by omega) h2 h3
  have i2:=XG f a (b - 1) c a' (b' - 1) c' h1 (by omega) h3
  have i3:=XG f a b (c - 1) a' b' (c' - 1) h1 h2 (by omega)
  show 1+(if a=0 then 0 else Xj f (a - 1) b c)+(if b=0 then 0 else Xj f a (b - 1) c)+(if c=0 then 0 else Xj f a b (c - 1))≤1+(if a'=0 then 0 else Xj f (a' - 1) b' c')+(if b'=0 then 0 else Xj f a' (b' - 1) c')+(if c'=0 then 0 else Xj f a' b' (c' - 1))
  have k1:(if a=0 then 0 else Xj f (a - 1) b c)≤(if a'=0 then 0 else Xj f (a' - 1) b' c'):=by
   by_cases e:a=0
   ·rw [if_pos e];exact Nat.zero_le _
   rw [if_neg e,if_neg (by omega)];exact i1
  have k2:(if b=0 then 0 else Xj f a (b - 1) c)≤(if b'=0 then 0 else Xj f a' (b' - 1) c'):=by
   by_cases e:b=0
   ·rw [if_pos e];exact Nat.zero_le _
   rw [if_neg e,if_neg (by omega)];exact i2
  have k3:(if c=0 then 0 else Xj f a b (c - 1))≤(if c'=0 then 0 else Xj f a' b' (c' - 1)):=by
   by_cases e:c=0
   ·rw [if_pos e];exact Nat.zero_le _
   rw [if_neg e,if_neg (by omega)];exact i3
  omega
theorem Nv:Xj 8 3 3 2=1749:=by decide
def ZT (rows:List (List I3)):Nat→V4→List V4
 | 0,m=>[m]
 | f+1,m=>m::(nxM rows m).flatMap fun t=>ZT rows f t.2
def YB (rows:List (List I3)) (m:V4) (k:Nat):Nat:=(Yg rows k).length - (m.1.getD k 0).toNat
theorem Tm {rows:List (List I3)} {m:V4} (hp:Zf rows=true) (hs:Zc m=true) {k:Nat} (hk:k<3) (hd:Ya rows m k=false) :
  YB rows (goM rows m k).1 k+1≤YB rows m k∧∀ j,j≠k→YB rows (goM rows m k).1 j=YB rows m j:=by
 have h1:=GL hp hs hk hd
 have hb:=Ym hs
 have hpc:=VM hb.1 (by omega) k
 have hlt:m.1.getD k 0<(Yg rows k).length:=by
  unfold Ya at hd
  rw [decide_eq_false_iff_not] at hd
  omega
 rw [Fv]
 refine ⟨?_,fun j hj=>?_⟩
 ·unfold YB
  omega
 unfold YB
 rw [LH m _ hj]
theorem Ke {rows:List (List I3)} {m:V4} (F:Int→Nat):((Zm rows m 3).map F).sum=(if YH rows m 0 then F 0 else 0)+(if YH rows m 1 then F 1 else 0)+(if YH rows m 2 then F 2 else 0):=by
 have e:Zm rows m 3=(if YH rows m 2 then (if YH rows m 1 then (if YH rows m 0 then []++[(0:Int)] else [])++[(1:Int)] else (if YH rows m 0 then []++[(0:Int)] else []))++[(2:Int)] else (if YH rows m 1 then (if YH rows m 0 then []++[(0:Int)] else [])++[(1:Int)] else (if YH rows m 0 then []++[(0:Int)] else []))):=rfl
 rw [e]
 cases YH rows m 0<;>cases YH rows m 1<;>cases YH rows m 2<;>simp<;>omega
theorem Rw {rows:List (List I3)} (hp:Zf rows=true):∀ (f:Nat) (m:V4),Zc m=true→(ZT rows f m).length≤Xj f (YB rows m 0) (YB rows m 1) (YB rows m 2)
 | 0,m,_=>Nat.le_refl _
 | f+1,m,hs=>by
  have key:∀ k:Nat,k<3→YH rows m k=true→(ZT rows f (goM rows m (k:Int)).1).length≤Xj f (YB rows (goM rows m (k:Int)).1 0) (YB rows (goM rows m (k:Int)).1 1) (YB rows (goM rows m (k:Int)).1 2)∧Ya rows m k=false:=fun k hk hc=>by
   have hd:Ya rows m k=false:=by
    unfold YH at hc
    simp at hc
    exact hc.1
   exact ⟨Rw hp f _ (Vm hp hs (K8 hk hc)),hd⟩
  have hl:(ZT rows (f+1) m).length=1+((Zm rows m 3).map fun k=>(ZT rows f (goM rows m k).1).length).sum:=by
   show ((m::(nxM rows m).flatMap fun t=>ZT rows f t.2)).length=_
   rw [List.length_cons,List.length_flatMap]
   unfold nxM
   rw [List.map_map]
   simp only [Function.comp_def]
   omega
  rw [hl,Ke fun k=>(ZT rows f (goM rows m k).1).length]
  have b0:(if YH rows m 0 then (ZT rows f (goM rows m 0).1).length else 0)≤(if YB rows m 0=0 then 0 else Xj f (YB rows m 0 - 1) (YB rows m 1) (YB rows m 2)):=by
   by_cases hc:YH rows m 0=true
   ·obtain ⟨k1,hd⟩:=key 0 (by omega) hc
    obtain ⟨r1,r2⟩:=Tm hp hs (show 0<3 by omega) hd
    rw [if_pos hc,if_neg (by omega)]
    refine Nat.le_trans k1 (XG f _ _ _ _ _ _ ?_ ?_ ?_)
    ·have:YB rows (goM rows m ((0:Nat):Int)).1 0+1≤YB rows m 0:=r1
     omega
    ·exact Nat.le_of_eq (r2 1 (by omega))
    exact Nat.le_of_eq (r2 2 (by omega))
   rw [if_neg hc];exact Nat.zero_le _
  have b1:(if YH rows m 1 then (ZT rows f (goM rows m 1).1).length else 0)≤(if YB rows m 1=0 then 0 else Xj f (YB rows m 0) (YB rows m 1 - 1) (YB rows m 2)):=by
   by_cases hc:YH rows m 1=true
   ·obtain ⟨k1,hd⟩:=key 1 (by omega) hc
    obtain ⟨r1,r2⟩:=Tm hp hs (show 1<3 by omega) hd
    rw [if_pos hc,if_neg (by omega)]
    refine Nat.le_trans k1 (XG f _ _ _ _ _ _ ?_ ?_ ?_)
    ·exact Nat.le_of_eq (r2 0 (by omega))
    ·have:YB rows (goM rows m ((1:Nat):Int)).1 1+1≤YB rows m 1:=r1
     omega
    exact Nat.le_of_eq (r2 2 (by omega))
   rw [if_neg hc];exact Nat.zero_le _
  have b2:(if YH rows m 2 then (ZT rows f (goM rows m 2).1).length else 0)≤(if YB rows m 2=0 then 0 else Xj f (YB rows m 0) (YB rows m 1) (YB rows m 2 - 1)):=by
   by_cases hc:YH rows m 2=true
   ·obtain ⟨k1,hd⟩:=key 2 (by omega) hc
    obtain ⟨r1,r2⟩:=Tm hp hs (show 2<3 by omega) hd
    rw [if_pos hc,if_neg (by omega)]
    refine Nat.le_trans k1 (XG f _ _ _ _ _ _ ?_ ?_ ?_)
    ·exact Nat.le_of_eq (r2 0 (by omega))
    ·exact Nat.le_of_eq (r2 1 (by omega))
    have:YB rows (goM rows m ((2:Nat):Int)).1 2+1≤YB rows m 2:=r1
    omega
   rw [if_neg hc];exact Nat.zero_le _
  show _≤1+(if YB rows m 0=0 then 0 else Xj f (YB rows m 0 - 1) (YB rows m 1) (YB rows m 2))+(if YB rows m 1=0 then 0 else Xj f (YB rows m 0) (YB rows m 1 - 1) (YB rows m 2))+(if YB rows m 2=0 then 0 else Xj f (YB rows m 0) (YB rows m 1) (YB rows m 2 - 1))
  omega
theorem Pg {rows:List (List I3)}:∀ (f:Nat) (ks:List Int) (m:V4) (fs:List I3),ks.length≤f→(Vh rows m fs ks).2.2=0→(Vh rows m fs ks).1 ∈ ZT rows f m
 | 0,[],m,fs,_,_=>by simp [ZT,Vh]
 | 0,k::ks,m,fs,h,_=>by simp at h
 | f+1,[],m,fs,_,_=>by simp [ZT,Vh]
 | f+1,k::ks,m,fs,h,hz=>by
  obtain ⟨hh,he⟩:=Rp hz
  rw [he] at hz ⊢
  have ih:=Pg f ks _ _ (by simpa using h) hz
  show _ ∈ m::(nxM rows m).flatMap fun t=>ZT rows f t.2
  exact List.mem_cons_of_mem _ (List.mem_flatMap.2 ⟨_,C5 hh,ih⟩)
theorem Mn {rows:List (List I3)} (hp:Zf rows=true):∀ (ks:List Int) (m:V4) (fs:List I3),Zc m=true→(Vh rows m fs ks).2.2=0→ks.length≤YB rows m 0+YB rows m 1+YB rows m 2
 | [],_,_,_,_=>Nat.zero_le _
 | k::ks,m,fs,hs,hz=>by
  obtain ⟨hh,he⟩:=Rp hz
  rw [he] at hz
  have ih:=Mn hp ks _ _ (Vm hp hs hh) hz
  obtain ⟨h0,h2,hd,hc⟩:=XB hh
  obtain ⟨q,rfl⟩:∃ q:Nat,k=q:=⟨k.toNat,by omega⟩
  rw [Int.toNat_natCast] at hd
  obtain ⟨r1,r2⟩:=Tm hp hs (show q<3 by omega) hd
  have hq:q=0∨q=1∨q=2:=by omega
  simp only [List.length_cons]
  rcases hq with rfl | rfl | rfl
  ·have a:=r2 1 (by omega);have b:=r2 2 (by omega);omega
  ·have a:=r2 0 (by omega);have b:=r2 2 (by omega);omega
  have a:=r2 0 (by omega);have b:=r2 1 (by omega);omega
theorem Sa {rows:List (List I3)} (hp:Zf rows=true) (h0:(Yg rows 0).length≤3) (h1:(Yg rows 1).length≤3) (h2:(Yg rows 2).length≤2):(ZL rows).length≤1749:=by
 have hz:∀ k,YB rows Zu k≤(Yg rows k).length:=fun k=>by unfold YB;omega
 have hl:=Rw hp 8 Zu ZJ
 have hm:=XG 8 _ _ _ 3 3 2 (Nat.le_trans (hz 0) h0) (Nat.le_trans (hz 1) h1) (Nat.le_trans (hz 2) h2)
 rw [Nv] at hm
 have hn:=Th ((ZL rows).map (·.1)) (ZT rows 8 Zu) (RE rows) (fun x hx=>by
  obtain ⟨r,hr,rfl⟩:=List.mem_map.1 hx
  obtain ⟨j,hj,hje⟩:=List.getElem_of_mem hr
  obtain ⟨p1,p2,p3⟩:=QW (Qw rows) (VA rows) j j r (Nat.le_refl _) (by rw [List.getElem?_eq_getElem hj,hje])
  have hlen:=Mn hp _ Zu [] ZJ p2
  have a:=hz 0
  have b:=hz 1
  have c:=hz 2
  have:=Pg 8 _ Zu [] (show (UM (ZL rows) j j).length≤8 by omega) p2
  rw [p1] at this
  exact this)
 rw [List.length_map] at hn
 omega


def ZR (rows:List (List I3)) (m:V4):Nat:=YB rows m 0+YB rows m 1+YB rows m 2
theorem TH {rows:List (List I3)} {m:V4} (hp:Zf rows=true) (hs:Zc m=true) {k:Int} (h:XO rows m k=0):ZR rows (goM rows m k).1+1≤ZR rows m:=by
 obtain ⟨h0,h2,hd,hc⟩:=XB h
 obtain ⟨q,rfl⟩:∃ q:Nat,k=q:=⟨k.toNat,by omega⟩
 rw [Int.toNat_natCast] at hd
 obtain ⟨r1,r2⟩:=Tm hp hs (show q<3 by omega) hd
 unfold ZR
 have hq:q=0∨q=1∨q=2:=by omega
 rcases hq with rfl | rfl | rfl
 ·have a:=r2 1 (by omega);have b:=r2 2 (by omega);omega
 ·have a:=r2 0 (by omega);have b:=r2 2 (by omega);omega
 have a:=r2 0 (by omega);have b:=r2 1 (by omega);omega
theorem Xe {rows:List (List I3)} {m:V4} {k:Int} (h:k ∈ Zm rows m 3):XO rows m k=0:=(R8 (t:=(k,(goM rows m k).1)) (List.mem_map.2 ⟨k,h,rfl⟩)).1
theorem JS {rows:List (List I3)} {m:V4} (hp:Zf rows=true) (hs:Zc m=true) (h:ZR rows m=0):Zm rows m 3=[]:=by
 rw [List.eq_nil_iff_forall_not_mem]
 intro k hk
 have:=TH hp hs (Xe hk)
 omega


def Ap3 (v u:Value):Prop:=∀ g,v.ownBlock=some g→u.ownBlock≠some g
theorem Ap3.or {v u:Value} (h:Ap3 v u):v.ownBlock=none∨v.ownBlock≠u.ownBlock:=by
 cases e:v.ownBlock with
 | none=>exact .inl rfl
 | some g=>exact .inr fun e2=>h g e e2.symm
theorem Ap3.types {w:World} {B B' e e' s s' n n':Nat} {v v':Value} {xs xs':List Value} (h:w.ownsRow B e s v n xs) (h':w.ownsRow B' e' s' v' n' xs') (he:e≠e'):Ap3 v v':=fun g hg h2=>by
 rcases Ys h h' he with h3 | h3
 ·rw [h3] at hg;cases hg
 exact h3 (hg.trans h2.symm)
theorem Yc {w:World} {B e s n:Nat} {v:Value} {xs:List Value} (h:w.ownsRow B e s v n xs) {g:Nat} (hg:v.ownBlock=some g):B≤g∧g<w.heap.size:=by
 rcases h.2 with ⟨rfl,_⟩ | ⟨g',cap,cur,rfl,hb,hgg,_⟩
 ·simp [Value.ownBlock] at hg
 simp [Value.ownBlock] at hg
 subst hg
 refine ⟨hb,?_⟩
 rcases Nat.lt_or_ge g' w.heap.size with h1 | h1
 ·exact h1
 rw [Array.getElem?_eq_none h1] at hgg;cases hgg
/-! The rows that go with the list of states. -/
def Xq (S:List (Zz V4)):List ByteArray:=S.map fun r=>Zt r.1
theorem Hw (S:List (Zz V4)):(Xq S).length=S.length:=by simp [Xq]
theorem Hv (S:List (Zz V4)) (r:Zz V4):Xq (S++[r])=Xq S++[Zt r.1]:=by simp [Xq]


theorem Ff (xs:List Int) (h:∀ x ∈ xs,0≤x∧x≤255) (i:Nat) (hi:i<xs.length):btV (strOfNums xs) i=xs.getD i 0:=by
 have hx:=h xs[i] (List.getElem_mem hi)
 unfold btV
 simp [strOfNums,List.getD,List.getElem?_eq_getElem hi]
 omega
theorem X0 {m:V4} (h:Zc m=true):(Zt m).size=15:=by
 obtain ⟨l0,l1,l2,l3,_⟩:=ZS h
 unfold Zt
 rw [strOfNums_size,List.length_map]
 unfold WN
 simp [l0,l1,l2,l3]
theorem Vn {m:V4} (h:Zc m=true):Yh (Zt m)=m:=by
 obtain ⟨l0,l1,l2,l3,hd⟩:=ZS h
 have hb:∀ i,i<15→btV (Zt m) i - 48=(WN m).getD i 0:=fun i hi=>by
  have hl:(WN m).length=15:=by unfold WN;simp [l0,l1,l2,l3]
  unfold Zt
  rw [Ff _ (fun x hx=>by obtain ⟨z,hz,rfl⟩:=List.mem_map.1 hx;have:=hd z hz;omega) i (by rw [List.length_map];omega)]
  have e:((WN m).map fun z=>48+z).getD i 0=48+(WN m).getD i 0:=by
   have hi':i<(WN m).length:=by omega
   simp [List.getD,List.getElem?_eq_getElem hi']
  rw [e]
  omega
 have b0:=hb 0 (by omega)
 have b1:=hb 1 (by omega)
 have b2:=hb 2 (by omega)
 have b3:=hb 3 (by omega)
 have b4:=hb 4 (by omega)
 have b5:=hb 5 (by omega)
 have b6:=hb 6 (by omega)
 have b7:=hb 7 (by omega)
 have b8:=hb 8 (by omega)
 have b9:=hb 9 (by omega)
 have b10:=hb 10 (by omega)
 have b11:=hb 11 (by omega)
 have b12:=hb 12 (by omega)
 have b13:=hb 13 (by omega)
 have b14:=hb 14 (by omega)
 clear hb hd l0 l1 l2 l3
 obtain ⟨p0,p1,p2,v0,v1,v2,v3,h0,h1,x0,y0,x1,y1,x2,y2,rfl⟩:=Tq h
 unfold Yh YU Vy
 simp [List.range_succ,b0,b1,b2,b3,b4,b5,b6,b7,b8,b9,b10,b11,b12,b13,b14]
 simp [WN]
theorem XU {m q:V4} (h:Zc m=true) (h':Zc q=true) (e:Zt m=Zt q):m=q:=by rw [← Vn h,e,Vn h']


theorem DO {S:List (Zz V4)} {x:V4} (hS:Xl S) (hx:Zc x=true):RX S x=true↔Zt x ∈ Xq S:=by
 rw [Uc]
 unfold Xq
 constructor
 ·intro h
  obtain ⟨r,hr,rfl⟩:=List.mem_map.1 h
  exact List.mem_map.2 ⟨r,hr,rfl⟩
 intro h
 obtain ⟨r,hr,e⟩:=List.mem_map.1 h
 exact List.mem_map.2 ⟨r,hr,XU (hS r hr) hx e⟩


def ixS:List (Zz V4)→V4→Nat
 | [],_=>0
 | r::S,x=>if r.1=x then 0 else ixS S x+1
theorem Mc:∀ {S:List (Zz V4)} {x:V4} (T:List (Zz V4)),x ∈ S.map (·.1)→ixS (S++T) x=ixS S x
 | [],_,_,h=>by simp at h
 | r::S,x,T,h=>by
  show (if r.1=x then 0 else ixS (S++T) x+1)=if r.1=x then 0 else ixS S x+1
  split
  ·rfl
  rename_i hne
  have h2:x ∈ S.map (·.1):=by
   rcases List.mem_cons.1 (by simpa using h:x ∈ r.1::S.map (·.1)) with h3 | h3
   ·exact absurd h3.symm hne
   exact h3
  rw [Mc T h2]
theorem DS {S T:List (Zz V4)} {x:V4} (h:S <+: T) (hx:x ∈ S.map (·.1)):ixS T x=ixS S x:=by
 obtain ⟨U,rfl⟩:=h
 exact Mc U hx
theorem R6:∀ {S:List (Zz V4)} {x:V4} (i:Nat) (k:Int),x ∉ S.map (·.1)→ixS (S++[(x,i,k)]) x=S.length
 | [],x,i,k,_=>by simp [ixS]
 | r::S,x,i,k,h=>by
  have h1:r.1≠x:=fun e=>h (by simp [e])
  have h2:x ∉ S.map (·.1):=fun e=>h (by simpa using Or.inr e)
  show (if r.1=x then 0 else ixS (S++[(x,i,k)]) x+1)=_
  rw [if_neg h1,R6 i k h2]
  rfl
def C2 (rows:List (List I3)) (S:List (Zz V4)) (m:V4) (k:Int):I4:=((goM rows m k).2,k,m.1.getD k.toNat 0,(ixS S (goM rows m k).1:Int))
def Yv (rows:List (List I3)) (S:List (Zz V4)) (m:V4):List I4:=(Zm rows m 3).map (C2 rows S m)
structure TY (D:DataW Unit) (S:List (Zz V4)):Prop where
 has:∀ t:ByteArray,Maps.has D (.string t.data.toList)=true↔t ∈ Xq S
 at9:∀ x,x ∈ S.map (·.1)→∀ z,D.atKey (.string (Zt x).data.toList) z=.lit (.int .i64 (ixS S x))
theorem TY.start:TY (.map []) []:=⟨fun t=>by simp [Xq,Maps.has],fun x hx=>by simp at hx⟩
theorem Kw {s t:ByteArray} (h:s≠t):(Lit.string s.data.toList)≠Lit.string t.data.toList:=fun e=>by
 injection e with e
 exact h (ByteArray.ext (Array.ext' e))
theorem TY.put {D:DataW Unit} {S:List (Zz V4)} (h:TY D S) (hm:Maps.IsMap D) (hS:Xl S) {x:V4} (hx:Zc x=true) (hn:x ∉ S.map (·.1)) (i:Nat) (k:Int) :
  TY (D.put (.string (Zt x).data.toList) (.lit (.int .i64 S.length))) (S++[(x,i,k)]):=by
 have hkl:WideAt.IsKeyLit (.string (Zt x).data.toList):=trivial
 refine ⟨fun t=>?_,fun y hy z=>?_⟩
 ·rw [Hv]
  by_cases e:t=Zt x
  ·subst e
   rw [Maps.has_put_same hm hkl]
   simp
  rw [Maps.has_put_other (Kw e),h.has]
  simp [e]
 by_cases e:y=x
 ·subst e
  rw [Maps.atKey_put_same hm hkl,R6 i k hn]
 have hy2:y ∈ S.map (·.1):=by
  rcases List.mem_append.1 (by simpa using hy:y ∈ S.map (·.1)++[x]) with h3 | h3
  ·exact h3
  exact absurd (by simpa using h3) e
 obtain ⟨r,hr,rfl⟩:=List.mem_map.1 hy2
 have hk:Zt r.1≠Zt x:=fun e2=>e (XU (hS r hr) hx e2)
 rw [Maps.atKey_put_other (Kw hk),h.at9 _ hy2,Mc _ hy2]

/-! The records of states: 22 cells each. -/
def rcC (cs:Sl × Sl × Sl) (r:Zz V4) (mv:Value):List Value:=.string (Zt r.1)::(Zi cs.1.val cs.2.1.val cs.2.2.val r.1++[.int .i64 r.2.1,.int .i64 r.2.2,mv])
theorem TK (cs:Sl × Sl × Sl) (r:Zz V4) (mv:Value):(rcC cs r mv).length=22:=rfl
def rcF (cs:Sl × Sl × Sl) (L:List (Zz V4 × Value)):List Value:=L.flatMap fun x=>rcC cs x.1 x.2
theorem Cg (cs:Sl × Sl × Sl) (L:List (Zz V4 × Value)) (x:Zz V4 × Value):rcF cs (L++[x])=rcF cs L++rcC cs x.1 x.2:=by simp [rcF]
theorem FX (cs:Sl × Sl × Sl):∀ (L:List (Zz V4 × Value)) (i j:Nat) (x:Zz V4 × Value),L[i]?=some x→j<22→(rcF cs L)[i*22+j]?=(rcC cs x.1 x.2)[j]?
 | [],_,_,_,h,_=>by simp at h
 | y::L,0,j,x,h,hj=>by
  simp at h
  subst h
  show (rcC cs y.1 y.2++rcF cs L)[0*22+j]?=_
  rw [List.getElem?_append_left (by rw [TK];omega)]
  congr 1
  omega
 | y::L,i+1,j,x,h,hj=>by
  have ih:=FX cs L i j x (by simpa using h) hj
  show (rcC cs y.1 y.2++rcF cs L)[(i+1)*22+j]?=_
  rw [List.getElem?_append_right (by rw [TK];omega),TK,← ih]
  congr 1
  omega
theorem Cf (cs:Sl × Sl × Sl) (r:Zz V4) (mv mv':Value):(rcC cs r mv).set 21 mv'=rcC cs r mv':=rfl
theorem Ju (cs:Sl × Sl × Sl):∀ (L:List (Zz V4 × Value)) (i:Nat) (r:Zz V4) (mv mv':Value),L[i]?=some (r,mv)→(rcF cs L).set (i*22+21) mv'=rcF cs (L.set i (r,mv'))
 | [],_,_,_,_,h=>by simp at h
 | y::L,0,r,mv,mv',h=>by
  simp at h
  subst h
  show (rcC cs r mv++rcF cs L).set (0*22+21) mv'=rcC cs r mv'++rcF cs L
  rw [List.set_append_left _ _ (by rw [TK];omega)]
  rw [show 0*22+21=21 by omega,Cf]
 | y::L,i+1,r,mv,mv',h=>by
  have ih:=Ju cs L i r mv mv' (by simpa using h)
  show (rcC cs y.1 y.2++rcF cs L).set ((i+1)*22+21) mv'=rcC cs y.1 y.2++rcF cs (L.set i (r,mv'))
  rw [List.set_append_right _ _ (by rw [TK];omega),TK,← ih]
  congr 2
  omega


theorem QI:Maps.Keyed Tryz.prog 9:=Maps.string_keyed Tryz.underlying9
theorem NH (w:World):(zeroValue 3).run Tryz.prog w=.ok (.int .i64 0) w:=by kernel_rfl
structure Xc (w:World) (B nb:Nat) (vs:Value) (cs:Sl × Sl × Sl) (M:V4→List I4) (L:List (Zz V4 × Value)) (d:Nat):Prop where
 row:w.ownsRow B 101 22 vs L.length (rcF cs L)
 map:∃ D:DataW Unit,w.ownsMap Tryz.prog 9 (plainElem Tryz.prog 3) nb L.length D∧TY D (L.map (·.1))
 mvs:∀ i r mv,i<d→L[i]?=some (r,mv)→w.ownsRow B 194 4 mv (M r.1).length (We (M r.1))
 nil:∀ i r mv,d≤i→L[i]?=some (r,mv)→mv=.slice none 0 0
 low:B≤nb
structure Yu (w w':World) (X nb:Nat) (vs:Value):Prop where
 os:w'.os=w.os
 tape:w'.tape=w.tape
 output:w'.output=w.output
 size:w.heap.size≤w'.heap.size
 block:∀ k,k<w.heap.size→k≠X→k≠nb→vs.ownBlock≠some k→w'.heap[k]?=w.heap[k]?
def XY (w:World) (vs vs':Value):Prop:=vs'.ownBlock=vs.ownBlock∨∃ g,w.heap.size≤g∧vs'.ownBlock=some g
theorem XY.refl (w:World) (vs:Value):XY w vs vs:=.inl rfl
theorem XY.trans {w w':World} {a b c:Value} (h:XY w a b) (hs:w.heap.size≤w'.heap.size) (k:XY w' b c):XY w a c:=by
 rcases k with k | ⟨g,hg,k⟩
 ·unfold XY
  rw [k]
  exact h
 exact .inr ⟨g,Nat.le_trans hs hg,k⟩
theorem Yu.refl (w:World) (X nb:Nat) (vs:Value):Yu w w X nb vs:=⟨rfl,rfl,rfl,Nat.le_refl _,fun _ _ _ _ _=>rfl⟩
theorem Yu.trans {a b c:World} {X nb:Nat} {v v':Value} (h:Yu a b X nb v) (hm:XY a v v') (k:Yu b c X nb v'):Yu a c X nb v:=
 ⟨k.os.trans h.os,k.tape.trans h.tape,k.output.trans h.output,Nat.le_trans h.size k.size,fun j hj h1 h2 h3=>(k.block j (Nat.lt_of_lt_of_le hj h.size) h1 h2 (fun e=>by
  rcases hm with hm | ⟨g,hg,hm⟩
  ·exact h3 (hm▸e)
  rw [hm] at e;cases e;omega)).trans (h.block j hj h1 h2 h3)⟩
theorem Yu.belowR {a b c:World} {X nb:Nat} {v:Value} (h:Yu a b X nb v) (k:Below b.heap.size b c):Yu a c X nb v:=
 ⟨k.os.trans h.os,k.tape.trans h.tape,k.output.trans h.output,Nat.le_trans h.size k.size,fun j hj h1 h2 h3=>(k.block j (Nat.lt_of_lt_of_le hj h.size)).trans (h.block j hj h1 h2 h3)⟩
theorem Yu.of_below {a b:World} (X nb:Nat) (v:Value) (k:Below a.heap.size a b):Yu a b X nb v:=(Yu.refl a X nb v).belowR k
theorem Yu.below {a b:World} {X nb B:Nat} {v:Value} (h:Yu a b X nb v) (hX:B≤X) (hn:B≤nb) (hv:∀ k,v.ownBlock=some k→B≤k) (hB:B≤a.heap.size):Below B a b:=
 ⟨h.os,h.tape,h.output,h.size,fun k hk=>h.block k (by omega) (by omega) (by omega) (fun e=>by have:=hv k e;omega)⟩
theorem Uy {w:World} {nb n g t:Nat} {D:DataW Unit} {cs:List Value} (h:w.ownsMap Tryz.prog 9 (plainElem Tryz.prog 3) nb n D) (hB:Blk w g t cs):g≠nb:=by
 rintro rfl
 obtain ⟨es,clock,hb,_⟩:=h
 unfold Blk at hB
 rw [hb] at hB
 simp at hB
theorem Uz {w:World} {nb n B e s k:Nat} {v:Value} {xs:List Value} {D:DataW Unit} (h:w.ownsMap Tryz.prog 9 (plainElem Tryz.prog 3) nb n D) (ho:w.ownsRow B e s v k xs):v.ownBlock≠some nb:=by
 intro e2
 obtain ⟨es,clock,hb,_⟩:=h
 rcases ho.2 with ⟨rfl,_⟩ | ⟨g,cap,cur,rfl,_,hg,_⟩
 ·simp [Value.ownBlock] at e2
 simp [Value.ownBlock] at e2
 subst e2
 rw [hb] at hg
 simp at hg
section
variable {w w' : World} {B X nb d : Nat} {vs : Value} {cs : Sl × Sl × Sl} {M : V4 → List I4} {L : List (Zz V4 × Value)}
theorem Xc.below (h:Xc w B nb vs cs M L d) (hb:Below w.heap.size w w'):Xc w' B nb vs cs M L d:=by
 obtain ⟨D,hm,hn⟩:=h.map
 exact ⟨Zs h.row hb,⟨D,hm.kept (row:=none) ⟨hb.os,hb.tape,hb.output,hb.size,fun k hk _=>hb.block k hk⟩ (by simp),hn⟩,fun i r mv hi hr=>Zs (h.mvs i r mv hi hr) hb,h.nil,h.low⟩
theorem Xc.grown {g t:Nat} {cs':List Value} (h:Xc w B nb vs cs M L d) (hg:w.grownBy w' (some g)) (hB:Blk w g t cs') (h1:101≠t) (h2:194≠t):Xc w' B nb vs cs M L d:=by
 obtain ⟨D,hm,hn⟩:=h.map
 refine ⟨h.row.kept hg (.inr (Zk h.row hB h1)),⟨D,hm.kept hg (fun e=>Uy hm hB (by cases e;rfl)),hn⟩,fun i r mv hi hr=>?_,h.nil,h.low⟩
 have:=h.mvs i r mv hi hr
 exact this.kept hg (.inr (Zk this hB h2))
theorem Yu.row (k:Yu w w' X nb vs) (h:Xc w B nb vs cs M L d) {t:Nat} {cs':List Value} (hX:Blk w X t cs') {B' e s n:Nat} {v:Value} {xs:List Value} (ho:w.ownsRow B' e s v n xs) (h1:e≠101) (h2:e≠t):w'.ownsRow B' e s v n xs:=by
 obtain ⟨D,hm,_⟩:=h.map
 have hlt:=fun g hg=>(Yc ho (g:=g) hg).2
 have hnX:=Zk ho hX h2
 have hnm:=Uz hm ho
 have hap:=Ap3.types ho h.row h1
 refine ⟨ho.1,?_⟩
 rcases ho.2 with hn | ⟨g,cap,cur,rfl,hb,hgg,rest⟩
 ·exact .inl hn
 refine .inr ⟨g,cap,cur,rfl,hb,(k.block g (hlt g rfl) (fun e=>hnX (by rw [← e];rfl)) (fun e=>hnm (by rw [← e];rfl)) (hap g rfl)).trans hgg,rest⟩
theorem Yu.blk (k:Yu w w' X nb vs) (h:Xc w B nb vs cs M L d) {t:Nat} {cs':List Value} (hX:Blk w X t cs') {g e:Nat} {xs:List Value} (p:Blk w g e xs) (h1:101≠e) (h2:t≠e):Blk w' g e xs:=by
 obtain ⟨D,hm,_⟩:=h.map
 exact (k.block g p.lt (fun e2=>Z8 hX p h2 e2.symm) (Uy hm p) (Zk h.row p h1)).trans p
theorem Yu.ownI (k:Yu w w' X nb vs) (h:Xc w B nb vs cs M L d) {cs':List Value} (hX:Blk w X 84 cs') {B':Nat} {s:Sl} {zs:List Int} (ho:Z0 w B' s zs):Z0 w' B' s zs:=k.row h hX ho (by decide) (by decide)
theorem Xc.at9 (h:Xc w B nb vs cs M L d) {i:Nat} {r:Zz V4} {mv:Value} (hr:L[i]?=some (r,mv)):∃ g c,vs=.slice (some ⟨g,0,none⟩) L.length c∧g<w.heap.size∧w.rangeAt g (i*22) (rcC cs r mv):=by
 have hl:=(List.getElem?_eq_some_iff.1 hr).1
 rcases h.row.2 with ⟨_,h0⟩ | ⟨g,c,cur,hv,_⟩
 ·omega
 refine ⟨g,c,hv,(Yc h.row (by rw [hv];rfl)).2,fun j v hj=>?_⟩
 have hj2:j<22:=(List.getElem?_eq_some_iff.1 hj).1
 have h9:=h.row
 rw [hv] at h9
 rw [h9.cellAt (i*22+j) (by omega),FX cs L i j _ hr hj2]
 exact hj
end
end Go.Proofs.YtgmhhegckcionaaGreatDoor
