/-
  Joined: SrtB, Kit8, RpG, EvC.
-/
import Derived.Lib.Hide
import Derived.Deep.MidRow
import Derived.Test.YtifoggpohlegmaaGreatDoorE29

namespace Go.Proofs.YtifoggpohlegmaaGreatDoor
set_option maxRecDepth 100000
set_option maxHeartbeats 16000000
open Go.RowKit Go.Sort Go.Shelf
set_option linter.unusedVariables false
set_option linter.unusedSimpArgs false

theorem RI (xs:List I3):(flatK I3.cells 3 xs.toArray).toList=Zo xs:=by
 apply List.ext_getElem?
 intro t
 by_cases h:t<xs.length*3
 ·have hq:t / 3<xs.length:=by omega
  have hl:t<(flatK I3.cells 3 xs.toArray).toList.length:=by simp;omega
  have e1:(flatK I3.cells 3 xs.toArray).toList[t]?=some ((I3.cells xs.toArray[t / 3]!)[t % 3]!):=by
   rw [List.getElem?_eq_getElem hl,Array.getElem_toList,← getElem!_pos (flatK I3.cells 3 xs.toArray) t (by simpa using h),get_flatK _ _ _ _ (by simpa using h)]
  rw [e1]
  obtain ⟨f0,f1,f2⟩:=PF hq
  have ex:xs.toArray[t / 3]! = xs.getD (t / 3) (0,0,0):=by
   rw [getElem!_pos _ _ (by simpa using hq)]
   simp [List.getD,List.getElem?_eq_getElem hq]
  rw [ex]
  generalize xs.getD (t / 3) (0,0,0)=x at *
  have hr:t % 3=0∨t % 3=1∨t % 3=2:=by omega
  rcases hr with hr | hr | hr
  ·have e:t / 3*3=t:=by omega
   rw [e] at f0
   rw [f0,hr]
   rfl
  ·have e:t / 3*3+1=t:=by omega
   rw [e] at f1
   rw [f1,hr]
   rfl
  have e:t / 3*3+2=t:=by omega
  rw [e] at f2
  rw [f2,hr]
  rfl
 rw [List.getElem?_eq_none (by simp;omega),List.getElem?_eq_none (by rw [Zt];omega)]
theorem Kt {w:World} {B g n cap:Nat} {xs:List I3} (h:w.ownsRow B 64 3 (.slice (some ⟨g,0,none⟩) n cap) n (Zo xs)) (hl:xs.length=n):HoldsK I3.cells 3 w g 0 xs.toArray:=by
 intro t ht
 rw [size_flatK] at ht
 have ht':t<n*3:=by simpa [hl] using ht
 refine ⟨?_,by rw [Nat.zero_add];exact h.frozenAt t⟩
 rw [Nat.zero_add,h.cellAt t ht',← RI,getElem!_pos _ _ (by rw [size_flatK];exact ht)]
 simp [ht]
theorem Jg {w:World} {B g n cap m:Nat} {xs ys:List I3} {os:Array Obj} (h:w.ownsRow B 64 3 (.slice (some ⟨g,0,none⟩) n cap) n (Zo xs)) (hx:xs.length=n) (hy:ys.length=n) :
  (sortWorldK I3.cells 3 w g 0 m ys.toArray os).ownsRow B 64 3 (.slice (some ⟨g,0,none⟩) n cap) n (Zo ys)∧w.grownBy (sortWorldK I3.cells 3 w g 0 m ys.toArray os) (some g):=by
 rcases h.2 with ⟨hv,_⟩ | ⟨g',cap',cur,hv,hB,hg,hn,hc,hsz,ht⟩
 ·cases hv
 cases hv
 have hgl:g<w.heap.size:=(Array.getElem?_eq_some_iff.1 hg).1
 refine ⟨⟨by rw [Zt];omega,.inr ⟨g,cap,putCells id 0 (flatK I3.cells 3 ys.toArray) cur,rfl,hB,?_,hn,hc,?_,?_⟩⟩,⟨rfl,rfl,rfl,?_,?_⟩⟩
 ·show (((Sort.ahead w m).heap.modify g _)++os)[g]?=_
  rw [Array.getElem?_append_left (by simpa [Sort.ahead] using hgl),Array.getElem?_modify]
  simp [Sort.ahead,hg,onCells]
 ·simpa [putCells] using hsz
 ·have hfk:=RI ys
  have hfs:(flatK I3.cells 3 ys.toArray).size=n*3:=by simp [hy]
  apply List.ext_getElem?
  intro t
  by_cases h3:t<n*3
  ·rw [List.getElem?_take_of_lt h3,← hfk]
   have hcz:t<cur.size:=by rw [hsz];have:=Nat.mul_le_mul_right 3 hn;omega
   simp only [putCells,Array.getElem?_toList,Array.getElem?_mapIdx,Array.getElem?_eq_getElem hcz,Option.map_some]
   rw [if_pos ⟨Nat.zero_le _,by omega⟩,getElem!_pos _ _ (by omega),Array.getElem?_eq_getElem (by omega)]
   simp
  rw [List.getElem?_eq_none (by rw [List.length_take];omega),List.getElem?_eq_none (by rw [Zt];omega)]
 ·show w.heap.size≤(((Sort.ahead w m).heap.modify g _)++os).size
  simp [Sort.ahead]
 intro k hk hne
 show (((Sort.ahead w m).heap.modify g _)++os)[k]?=_
 rw [Array.getElem?_append_left (by simpa [Sort.ahead] using hk),Array.getElem?_modify]
 have:g≠k:=fun e=>hne (by rw [e])
 simp [Sort.ahead,this]

def SA (l:List I3):List I3:=l.mergeSort fun x y=>!(ltOf Rx) y x
theorem Mp (l:List I3):(SA l).length=l.length:=by unfold SA;simp
theorem Gy {l:List I3} {x:I3}:x ∈ SA l↔x ∈ l:=by unfold SA;exact (List.mergeSort_perm l _).mem_iff
theorem Jj (l:List I3):(SA l).Pairwise fun a b=>ltB b a=false:=by
 have h:=List.pairwise_mergeSort (le:=fun x y=>!(ltOf Rx) y x) (fun a b c h1 h2=>by
  simp only [Bool.not_eq_true',VD] at *
  cases k:ltB c a
  ·rfl
  ·cases k2:ltB c b
   ·cases k3:ltB b c
    ·have:=WG k2 k3
     subst this
     rw [h1] at k
     cases k
    have:=UF k3 k
    rw [this] at h1
    cases h1
   rw [k2] at h2
   cases h2) (fun a b=>by
  simp only [VD,Bool.or_eq_true,Bool.not_eq_true']
  cases k:ltB b a
  ·exact .inl rfl
  exact .inr (QW k)) l
 exact h.imp fun {a b} h=>by simpa [VD] using h
theorem Ji (xs ys:List I3):ZX (SA (xs++ys))=Yg xs ys:=MW (Jj _) fun x=>by rw [Gy,List.mem_append]
theorem MX:∀ {l:List I3},l.length<2→ZX l=l
 | [],_=>rfl
 | [x],_=>rfl
 | x::y::l,h=>by simp at h;omega

theorem FM:∀ w,(isAgg 64).run Tryz.prog w=.ok true w:=Tryz.isAgg64
theorem Fk:∀ w,(Go.sizeOf 64).run Tryz.prog w=.ok 3 w:=Tryz.sizeOf64
theorem PB (blk off size:Nat) (w:World):CmpLays Tryz.prog 151 #[] I3.cells 3 Rx blk off size w:=fun _ _ _ _ x y=>RA x y _
theorem Mm (B g n cap:Nat) (xs:List I3) (w:World) (h:w.ownsRow B 64 3 (.slice (some ⟨g,0,none⟩) n cap) n (Zo xs)) (hl:xs.length=n) (hn:n≤1000000) :
  Calls Tryz.prog 150 #[.slice (some ⟨g,0,none⟩) n cap,.func (.func 151) #[] #[]] w fun e w'=>e=.returned (.tuple #[])∧w'.ownsRow B 64 3 (.slice (some ⟨g,0,none⟩) n cap) n (Zo (SA xs))∧w.grownBy w' (some g):=by
 have eg:∀ args w,(callFunc 151 args).run Tryz.prog w=.ok (.enter 151 args) w:=enters_of Tryz.func151 (by kernel_rfl) rfl
 have k:=AnyQ.slices_SortFunc_total LO 3 FM Fk I3.cells (fun _=>rfl) (fun x v hv=>by unfold I3.cells at hv;simp at hv;rcases hv with rfl | rfl | rfl<;>rfl) Rx JS 151 #[] g 0 cap xs.toArray w eg (PB g 0 _ w) (Kt h hl) ((h.lt g rfl).2) (by simp;omega) Mz
 have e:xs.toArray.size=n:=by simpa using hl
 rw [e] at k
 refine Calls.mono k ?_
 rintro e' w' ⟨rfl,m,os,rfl⟩
 exact ⟨rfl,Jg (ys:=SA xs) h hl (by rw [Mp];exact hl)⟩
theorem QB (a:Option Addr) (cap:Nat) (w:World) :
  Calls Tryz.prog 150 #[.slice a 0 cap,.func (.func 151) #[] #[]] w fun e w'=>e=.returned (.tuple #[])∧w=w':=by
 have k:=AnyF.slices_SortFunc_none LO a cap (.func (.func 151) #[] #[]) w
 refine Calls.mono k ?_
 rintro e' w' ⟨rfl,rfl⟩
 exact ⟨rfl,rfl⟩

def JE (a:Option Addr) (c:Nat):Prop:=(a=none→c=0)∧∀ x,a=some x→x.spot=none
theorem Qz (a0:Option Addr) (n0 c0:Nat) (xs:List I3) (a1:Option Addr) (n1 c1:Nat) (ys:List I3) (w:World) (h0:ZL w a0 n0 c0 xs) (h1:ZL w a1 n1 c1 ys) (m0:n0≤400000) (m1:n1≤400000) (z0:JE a0 c0) (z1:JE a1 c1) :
  Calls Tryz.prog 95 #[.slice a0 n0 c0,.slice a1 n1 c1] w fun e w'=>Uq e w' w.heap.size (Yg xs ys)∧Below w.heap.size w w':=by
 have l0:=h0.1
 have l1:=h1.1
 have bw:Below w.heap.size w (w.alloc (.cells #[.slice a0 n0 c0,.slice a1 n1 c1] 34)):=by go_grown
 have d0:(w.alloc (.cells #[.slice a0 n0 c0,.slice a1 n1 c1] 34)).cell? ⟨w.heap.size,0,none⟩=some (.slice a0 n0 c0):=by simp [go_sem]
 have d1:(w.alloc (.cells #[.slice a0 n0 c0,.slice a1 n1 c1] 34)).cell? ⟨w.heap.size,1,none⟩=some (.slice a1 n1 c1):=by simp [go_sem]
 go_enter Tryz.func95,Tryz.ntmps95
 go_wp2_with fail
 generalize w.alloc (.cells #[.slice a0 n0 c0,.slice a1 n1 c1] 34)=W at *
 refine (Kj w.heap.size a0 n0 c0 xs a1 n1 c1 ys W (h0.below bw) (h1.below bw) m0 m1 z0.1 z1.1 z0.2 z1.2 d0 d1).mono ?_
 rintro e w1 ⟨⟨v,rfl,_,hq⟩,hb1⟩
 have hB:w.heap.size≤W.heap.size:=bw.size
 replace bw:=Zb bw hb1
 have hln:(xs++ys).length=n0+n1:=by rw [List.length_append];omega
 have HM:Hid (ZX (SA (xs++ys))=Yg xs ys):=Ji xs ys
 clear d0 d1 h0 h1 z0 z1 hb1
 generalize xs++ys=zs at *
 by_cases hz:n0+n1=0
 ·obtain ⟨a,c,rfl⟩:∃ a c,v=.slice a 0 c:=by
   rcases hq.2 with ⟨rfl,h9⟩ | ⟨g,cap,cur,hv,_⟩
   ·exact ⟨_,_,rfl⟩
   exact ⟨_,_,by rw [hv,hz]⟩
  have hzs:zs=[]:=List.length_eq_zero_iff.1 (by omega)
  have HR:Hid (∀ e,e=.returned (.slice a 0 c)→Uq e w1 w.heap.size (Yg xs ys)):=fun e he=>by
   rw [← HM.out,hzs]
   refine ⟨_,he,?_⟩
   have e9:ZX (SA [])=[]:=by simp [SA,ZX]
   rw [e9]
   rw [hz,hzs] at hq
   exact ZZ hq hB
  clear hq HM
  go_wp2_with fail
  refine (QB a c _).mono ?_
  rintro e w2 ⟨rfl,rfl⟩
  go_wp2_with fail
  refine (SJ a 0 c _ (by omega)).mono ?_
  rintro e w2 ⟨rfl,rfl⟩
  go_wp2
  go_ret
  exact ⟨HR.out _ rfl,bw⟩
 obtain ⟨g,c,rfl⟩:=Y6 hq (by omega)
 have kS:=Mm _ g (n0+n1) c zs w1 hq hln (by omega)
 have hsl:(SA zs).length=n0+n1:=by rw [Mp];exact hln
 have hnb:n0+n1≤1000000:=by omega
 generalize n0+n1=n at *
 go_wp2_with fail
 refine kS.mono ?_
 rintro e w2 ⟨rfl,hq2,g2⟩
 have hg:=(hq.lt g rfl).1
 replace bw:=bw.grown g2 bw.size (fun k hk=>by cases hk;omega)
 clear kS hq
 by_cases hn2:n<2
 ·have HR:Hid (∀ e,e=.returned (.slice (some ⟨g,0,none⟩) n c)→Uq e w2 w.heap.size (Yg xs ys)):=fun e he=>by
   rw [← HM.out,MX (by omega)]
   exact ⟨_,he,by rw [hsl];exact ZZ hq2 hB⟩
  clear hq2 HM g2
  go_wp2_with fail
  refine (SJ _ n c _ (by omega)).mono ?_
  rintro e w3 ⟨rfl,rfl⟩
  go_wp2
  go_ret
  exact ⟨HR.out _ rfl,bw⟩
 have kC:=MA _ g n c (SA zs) w2 hq2 hsl (by omega) (by omega)
 clear hq2 g2
 go_wp2_with fail
 refine kC.mono ?_
 rintro e w3 ⟨m,rfl,hq3,g3⟩
 clear kC
 have bw3:=bw.grown g3 bw.size (fun k hk=>by cases hk;omega)
 have HR:Hid (∀ e,e=.returned (.slice (some ⟨g,0,none⟩) m c)→Uq e w3 w.heap.size (Yg xs ys)):=fun e he=>by
  rw [← HM.out]
  exact ⟨_,he,ZZ hq3 hB⟩
 clear hq3 g3 HM bw
 go_wp2
 go_ret
 exact ⟨HR.out _ rfl,bw3⟩

open Go.RowKit

theorem Pv {a b c:World} (h:Below a.heap.size a b) (k:Below b.heap.size b c):Below a.heap.size a c:=h.trans (k.mono h.size)
theorem Fx {B e k n:Nat} {v:Value} {xs:List Value} {w w':World} (h:w.ownsRow B e k v n xs) (hb:Below w.heap.size w w'):w'.ownsRow B e k v n xs:=
 h.kept (row:=none) ⟨hb.os,hb.tape,hb.output,hb.size,fun i hi _=>hb.block i hi⟩ (by cases v.ownBlock<;>simp)
theorem Fq {w w':World} (h:Below w.heap.size w w') {p:Addr} {v:Value} (hv:w.cell? p=some v):w'.cell? p=some v:=by
 rw [h.cell (World.block_lt_of_cell? _ _ hv)]
 exact hv
theorem J7 {w w':World} {row:Option Nat} (g:w.grownBy w' row) {p:Addr} {v:Value} (hc:w.cell? p=some v) (hne:some p.block≠row):w'.cell? p=some v:=by
 have hl:=World.block_lt_of_cell? _ _ hc
 rw [← hc]
 unfold World.cell?
 rw [g.block p.block hl hne]
theorem UR {w:World} {B e s n:Nat} {v:Value} {cs:List Value} (h:w.ownsRow B e s v n cs) (hn:0<n):∃ g c,v=.slice (some ⟨g,0,none⟩) n c:=by
 rcases h.2 with ⟨rfl,h0⟩ | ⟨g,cap,cur,hv,_⟩
 ·omega
 exact ⟨g,cap,hv⟩
theorem Gd {w:World} {B e s n:Nat} {v:Value} {cs:List Value} (h:w.ownsRow B e s v n cs):∃ a c,v=.slice a n c:=by
 rcases h.2 with ⟨rfl,h0⟩ | ⟨g,cap,cur,hv,_⟩
 ·subst h0;exact ⟨none,0,rfl⟩
 exact ⟨some ⟨g,0,none⟩,cap,hv⟩
theorem MC (w:World) (t s B:Nat) (hB:B≤w.heap.size):(w.alloc (.cells #[] t)).ownsRow B t s (.slice (some ⟨w.heap.size,0,none⟩) 0 0) 0 []:=World.ownsRow_lit w #[] 0 hB (by unfold maxLen;omega) (by simp)
theorem Lq {w:World} {B n c:Nat} {a:Option Addr} {xs:List Int} (h:w.ownsRow B 3 1 (.slice a n c) n (xs.map (Value.int .i64))):YV .i64 w a n c xs:=by
 rcases h.2 with ⟨e,h0⟩ | ⟨b,cc,cur,e,h1,h2,h3,h4⟩
 ·cases e
  have hl:=h.1
  exact ⟨by simpa using hl,Nat.le_refl _,by unfold maxLen;omega,.inl rfl⟩
 cases e
 exact YV.of_owns h
theorem Hp {w:World} {b off n c:Nat} {xs:List Int} (h:YV .i64 w (some ⟨b,off,none⟩) n c xs):∀ j u,(xs.map (Value.int .i64))[j]?=some u→w.cell? ((⟨b,off,none⟩:Addr).add j)=some u:=by
 intro j u hj
 obtain ⟨hl,_,_,hcase⟩:=h
 have hjl:j<xs.length:=by simpa using (List.getElem?_eq_some_iff.1 hj).1
 rcases hcase with h0 | ⟨b',off',he,hb,hc⟩
 ·omega
 cases he
 have:=hc j (by omega)
 have e:(⟨b,off,none⟩:Addr).add j=⟨b,off+j,none⟩:=by unfold Addr.add;split<;>simp_all
 rw [e,this]
 simp [List.getElem?_eq_getElem hjl] at hj
 simp [List.getD,List.getElem?_eq_getElem hjl,hj]
theorem K7 (xs:List Int):∀ u ∈ xs.map (Value.int .i64),u.oneCell'=true:=by
 intro u hu
 obtain ⟨x,_,rfl⟩:=List.mem_map.1 hu
 rfl
theorem Xv {P:Program} {ops:Array Oper} {o:Oper} {a:Act} {w:World} {K:Act→World→Prop} {Q:Exit→Act→World→Prop} {E:Prop}
  (hg:o.guard=none) (s x:Operand) (t:TypeId) (hop:o.op=Op.call { callee:=Callee.builtin Builtin.append,args:=#[s,x],argTypes:=#[t,t] })
  (base:Nat) (e:TypeId) (i:TypeInfo) (z:Value) (size bytes:Nat) (h1:P.underlying t=some (.slice e)) (h2:P.info? e=some i) (h3:i.zero=some z) (h4:i.size=size) (h5:i.bytes=bytes) (h6:z.cells.size=size) (h7:0<size)
  (v:Value) (n:Nat) (olds:List Value) (hs:a.eval s=v) (hown:w.ownsRow base e size v n olds)
  (ad:Addr) (m c:Nat) (news:List Value) (hx:a.eval x=.slice (some ad) m c) (hn:news.length=m*size) (hc:∀ j u,news[j]?=some u→w.cell? (ad.add j)=some u) (h1c:∀ u ∈ news,u.oneCell'=true)
  (b1:n+m≤maxLen) (b2:(n+m)*bytes≤140737488355328) (hbw:base≤w.heap.size)
  (hK:∀ v' w',w'.ownsRow base e size v' (n+m) (olds++news)→w.grownBy w' v.ownBlock→(v'.ownBlock=v.ownBlock∨v'.ownBlock=some w.heap.size)→K (a.put o.dst v') w') :
  if Region.wanted o (yielded ops a.tmps)=true then Oper.wp P o a w K Q else E:=by
 have hw:Region.wanted o (yielded ops a.tmps)=true:=by simp [Region.wanted,hg]
 rw [if_pos hw]
 obtain ⟨v',w',hrun,r1,r2,_,r4⟩:=run_append_own_at (P:=P) (w:=w) base t o.type e i z size bytes h1 h2 h3 h4 h5 h6 h7 v n olds hown ad m c news hn hc h1c b1 b2 hbw
 subst hs
 unfold Oper.wp
 simp [execOp,hop,resolve,invoke,builtin,hx,hrun,Result.andThen]
 exact hK v' w' r1 r2 r4


theorem XG {w:World} {B:Nat} {v:Value} {xs:List I3} (h:w.ownsRow B 64 3 v xs.length (Zo xs)) (hf:∀ x ∈ xs,I3.fits x):∃ a cap,v=.slice a xs.length cap∧ZL w a xs.length cap xs∧JE a cap:=by
 rcases h.2 with ⟨rfl,h0⟩ | ⟨g,cap,cur,hv,_⟩
 ·exact ⟨none,0,by rw [h0],⟨rfl,by omega,by unfold maxLen;omega,hf,.inl h0⟩,fun _=>rfl,fun x hx=>by cases hx⟩
 subst hv
 exact ⟨_,_,rfl,ZL.of_owns h rfl hf rfl,(fun h=>by cases h),fun x hx=>by cases hx;rfl⟩


def YN (rows:List (List I3)):V4→List Int→List I4
 | _,[]=>[]
 | m,k::ks=>ZB rows m k.toNat::YN rows (goM rows m k).1 ks
def FZ (e:Ending) (w:World) (B:Nat) (es:List I4) (c:Int):Prop:=∃ v,e=.returned (.tuple #[v,.int .i64 c])∧w.ownsRow B 38 4 v es.length (Yo es)
theorem RM:(Tryz.prog.info? 38).map (fun i=>(i.zero,i.size,i.bytes))=some (some (.agg #[.int .i64 0,.int .i64 0,.int .i64 0,.int .i64 0]),4,32):=by kernel_rfl
theorem Me (rows:List (List I3)) (m:V4) (fs:List I3) (k:Int):ZH rows m fs [k]=if Zx rows m k=0 then ((goM rows m k).1,fs++Yt rows m k,0) else (m,fs,Zx rows m k):=by
 show (if Zx rows m k=0 then _ else _)=_
 rfl
theorem GV {w:World} {G:Nat} {a b c d:Value} (h:Blk w G 38 [a,b,c,d]):∀ j u,[a,b,c,d][j]?=some u→w.cell? ((⟨G,0,none⟩:Addr).add j)=some u:=by
 intro j u hj
 rw [Addr.add_mid,Nat.zero_add,h.cell]
 exact hj
theorem J0 (a b c d:Int):∀ u ∈ [Value.int .i64 a,Value.int .i64 b,Value.int .i64 c,Value.int .i64 d],u.oneCell'=true:=by
 intro u hu
 simp at hu
 rcases hu with rfl | rfl | rfl | rfl<;>rfl
theorem MK {w:World} {a:Option Addr} {n c:Nat} {ks:List Int} (h:YV .i64 w a n c ks) {i:Nat} (hi:i<n):∃ b off,a=some ⟨b,off,none⟩∧w.cell? ⟨b,off+i,none⟩=some (.int .i64 (ks.getD i 0))∧b<w.heap.size:=by
 obtain ⟨h1,h2,h3,h4⟩:=h
 rcases h4 with h4 | ⟨b,off,ha,hl,hc⟩
 ·omega
 exact ⟨b,off,ha,hc i hi,hl⟩
end Go.Proofs.YtifoggpohlegmaaGreatDoor
