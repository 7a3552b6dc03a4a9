/-
  Joined: DskL, RecL, EnoI, Ent9, RecS, DskF.
-/
import Derived.Laws.AppendOwnNone
import Derived.Lib.AppendStr
import Derived.Deep.Cut
import Derived.Test.YtdopgkbegjfhjaaGreatDoorL20
import Derived.Test.YtdopgkbegjfhjaaGreatDoorL22

namespace Go.Proofs.YtdopgkbegjfhjaaGreatDoor
set_option maxRecDepth 100000
set_option maxHeartbeats 16000000
open Go.RowKit Go.ChangeShapes Go.WideShapes
set_option linter.unusedVariables false
set_option linter.unusedSimpArgs false

def D2.fits (d:D2):Prop:=d.1.size≤maxLen∧d.2.size≤maxLen

section
variable {H : Type} {enc : TypeId × Value → H} {w : World} {base : Nat} {spare : Nat → Bool} {held : Bool}
end


def R2.cells (r:R2):List Value:=[.int .i64 r.1,.string r.2]
def flatR:List R2→List Value
 | []=>[]
 | r::rs=>.int .i64 r.1::.string r.2::flatR rs
theorem flatR_app:∀ (rs qs:List R2),flatR (rs++qs)=flatR rs++flatR qs
 | [],qs=>rfl
 | r::rs,qs=>by simp [flatR,flatR_app rs qs]
theorem flatR_snoc (rs:List R2) (r:R2):flatR (rs++[r])=flatR rs++[.int .i64 r.1,.string r.2]:=flatR_app rs [r]
def R2.fits (r:R2):Prop:=(Lit.int .i64 r.1).wf=true∧r.2.size≤maxLen
section
variable {H : Type} {enc : TypeId × Value → H} {w : World} {base : Nat} {spare : Nat → Bool} {held : Bool}
end

def OwnR (w:World) (B:Nat) (v:Value) (rs:List R2):Prop:=w.ownsRow B 24 2 v rs.length (flatR rs)

open Go.RowKit

theorem slice_l9 {b off len cap lo:Nat} (h1:lo≤len) (h2:len≤cap) :
  ∃ a,(∀ W,(Instr.slice 40 (.slice (some ⟨b,off,none⟩) len cap) (some (.int .i64 (lo:Int))) none none).run Tryz.prog W=.ok (.slice a (len - lo) (cap - lo)) W)∧(cap - lo=0∧a=some ⟨b,off,none⟩∨a=some ⟨b,off+lo,none⟩):=by
 have hlh:(lo:Int)≤(len:Int):=by omega
 by_cases hz:cap - lo=0
 ·refine ⟨some ⟨b,off,none⟩,fun W=>?_,.inl ⟨hz,rfl⟩⟩
  go_simp
  omega
 ·refine ⟨some ⟨b,off+lo,none⟩,fun W=>?_,.inr rfl⟩
  go_simp
  omega
def EnG (e:Ending) (w':World) (B:Nat) (key:ByteArray) (a:Option Addr) (n c:Nat) (xs:List Int) (m:Nat):Prop:=
 (¬ (1≤n∧1+3*m≤n)∧e=.returned (.tuple #[.agg #[.string ⟨#[]⟩,.slice none 0 0,.slice none 0 0],.bool false])) ∨
 ((1≤n∧1+3*m≤n)∧∃ (s:Sl2) (b off:Nat),a=some ⟨b,off,none⟩∧e=.returned (.tuple #[entV key s,.bool true])∧w'.ownsRow B 112 3 (.slice s.1.1 s.1.2.1 s.1.2.2) (triples ((xs.drop 1).take (3*m))).length (flat (triples ((xs.drop 1).take (3*m)))) ∧
  s.2.2=(n - (1+3*m),c - (1+3*m))∧(c - (1+3*m)=0∧s.2.1=some ⟨b,off,none⟩∨s.2.1=some ⟨b,off+(1+3*m),none⟩))

theorem entryOf_is (key:ByteArray) (a:Option Addr) (n c:Nat) (xs:List Int) (m:Nat) (w:World) (h:Ints .i64 w a n c xs) (hn:n≤4096) (hx:1≤n→xs.getD 0 0=(m:Int)) (hm:m≤999999999) :
  Calls Tryz.prog 104 #[.string key,.slice a n c] w fun e w'=>EnG e w' w.heap.size key a n c xs m∧Below w.heap.size w w':=by
 have bw:Below w.heap.size w (w.alloc (.cells #[.string ⟨#[]⟩,.slice none 0 0,.slice none 0 0] 74)):=by go_grown
 have pR:Blk (w.alloc (.cells #[.string ⟨#[]⟩,.slice none 0 0,.slice none 0 0] 74)) w.heap.size 74 [.string ⟨#[]⟩,.slice none 0 0,.slice none 0 0]:=blkAt _ _ _ rfl
 by_cases h0:n=0
 ·subst h0
  have hN:Hid (EnG (.returned (.tuple #[.agg #[.string ⟨#[]⟩,.slice none 0 0,.slice none 0 0],.bool false])) w w.heap.size key a 0 c xs m):=.inl ⟨by omega,rfl⟩
  have HN:∀ W,EnG (.returned (.tuple #[.agg #[.string ⟨#[]⟩,.slice none 0 0,.slice none 0 0],.bool false])) W w.heap.size key a 0 c xs m:=fun W=>.inl ⟨by omega,rfl⟩
  clear hN
  replace HN:Hid (∀ W,EnG (.returned (.tuple #[.agg #[.string ⟨#[]⟩,.slice none 0 0,.slice none 0 0],.bool false])) W w.heap.size key a 0 c xs m):=HN
  clear h hx
  go_enter Tryz.func104,Tryz.ntmps104
  have r0:=pR.cell 0
  have r1:=pR.cell 1
  have r2:=pR.cell 2
  have fr0:=pR.frozen 0
  have fr1:=pR.frozen 1
  have fr2:=pR.frozen 2
  have pZ:=((pR.set 0 (.string ⟨#[]⟩)).set 1 (.slice none 0 0)).set 2 (.slice none 0 0)
  simp only [List.set_cons_zero,List.set_cons_succ] at pZ
  have z0:=pZ.cell 0
  have z1:=pZ.cell 1
  have z2:=pZ.cell 2
  simp only [List.getElem?_cons_zero,List.getElem?_cons_succ] at z0 z1 z2 r0 r1 r2
  have bz:=((bw.setCell (p:=⟨w.heap.size,0,none⟩) (Nat.le_refl _) (.string ⟨#[]⟩)).setCell (p:=⟨w.heap.size,1,none⟩) (Nat.le_refl _) (.slice none 0 0)).setCell (p:=⟨w.heap.size,2,none⟩) (Nat.le_refl _) (.slice none 0 0)
  clear pZ pR
  go_wp2
  refine bodyPost_ret (by simp [results,Tryz.results104,go_sem,z0,z1,z2];try rfl) rfl ?_
  first | exact ⟨HN.out _,bz⟩ | exact ⟨HN.out _,by go_grown⟩
 have hx1:=hx (by omega)
 have hI:=h
 obtain ⟨e1,e2,e3,hcase⟩:=h
 rcases hcase with h9 | ⟨b,off,rfl,hbl,hc⟩
 ·exact absurd h9 h0
 have d0:=hc 0 (by omega)
 rw [hx1,Nat.add_zero] at d0
 have d0':=cells_kept bw _ _ d0
 have hq0:0<n:=by omega
 have hp0:(0:Int)<(n:Int):=by omega
 have hnz:((n:Int) == 0)=false:=by simp;omega
 clear hc hx hx1
 by_cases h1:1+3*m≤n
 ·have hgt:¬ (n:Int)<1+3*(m:Int):=by omega
  obtain ⟨a1,hs1,hI1⟩:=slice_lh hI (lo:=1) (hi:=1+3*m) (by omega) (by omega)
  obtain ⟨a2,hs2,hA2⟩:=slice_l9 (b:=b) (off:=off) (len:=n) (cap:=c) (lo:=1+3*m) (by omega) e2
  have hca:((1+3*m:Nat):Int)=1+3*(m:Int):=by omega
  rw [hca] at hs1 hs2
  rw [Nat.add_sub_cancel_left] at hs1 hI1
  have hs1':∀ W,(Instr.slice 40 (.slice (some ⟨b,off,none⟩) n c) (some (.int .i64 1)) (some (.int .i64 (1+3*(m:Int)))) none).run Tryz.prog W=.ok (.slice a1 (3*m) (c - 1)) W:=fun W=>hs1 W
  have kB:=fun W (hb:Below w.heap.size w W)=>bugsOf_is a1 (3*m) (c - 1) ((xs.drop 1).take (3*m)) m W (hI1.below hb) rfl (by omega)
  obtain ⟨fn9,hfn⟩:∃ k,k=n - (1+3*m):=⟨_,rfl⟩
  obtain ⟨fc9,hfc⟩:∃ k,k=c - (1+3*m):=⟨_,rfl⟩
  rw [← hfn,← hfc] at hs2
  rw [← hfc] at hA2
  obtain ⟨bn9,hbn⟩:∃ k,k=3*m:=⟨_,rfl⟩
  rw [← hbn] at hs1' kB
  have HF:Hid ((fn9,fc9)=(n - (1+3*m),c - (1+3*m))∧fc9=c - (1+3*m)∧bn9=3*m):=⟨by rw [hfn,hfc],hfc,hbn⟩
  clear hs1 hI1 hfn hfc hI hca
  generalize hys:(xs.drop 1).take bn9=ys at *
  have HY:Hid ((xs.drop 1).take bn9=ys):=hys
  clear hys hbn
  have bd:Below w.heap.size w (w.alloc (.cells #[.string ⟨#[]⟩,.slice none 0 0,.slice none 0 0] 74)).drew:=bel8 bw (by go_grown)
  go_enter Tryz.func104,Tryz.ntmps104
  go_wp2_with fail
  generalize (w.alloc (.cells #[.string ⟨#[]⟩,.slice none 0 0,.slice none 0 0] 74))=U at *
  refine wp_region_held_drew (S:=(fun _=>True)) (by kernel_rfl) trivial (fun hS0=>?_)
  refine tkv 0 21 (.string key) ?_
  refine tkv 1 22 (.slice (some ⟨b,off,none⟩) n c) ?_
  refine tkv 2 23 (.int .i64 (1+3*(m:Int))) ?_
  refine tkv 3 24 (.slice a1 bn9 (c - 1)) ?_
  refine tkv 5 26 (.slice (some ⟨b,off,none⟩) n c) ?_
  refine tkv 6 27 (.int .i64 (1+3*(m:Int))) ?_
  refine tkv 7 28 (.slice a2 fn9 fc9) ?_
  refine tkr 4 25 (fun K hK=>?_)
  go_simp
  refine (kB _ bd).mono ?_
  rintro e w5 ⟨⟨v,rfl,hO⟩,hb5⟩
  obtain ⟨va,vc,rfl⟩:=slice8 hO
  go_wp2_with fail
  refine hK.out _ _ ?_ (fun hS5=>?_)
  ·exact trivial
  clear hK
  replace hO:=lower8 hO (show w.heap.size+1≤U.drew.heap.size from by have:=pR.lt;exact this)
  generalize hlv:(triples ys).length=lv at *
  have hb6:=bel8 (show Below U.heap.size U U.drew by go_grown) hb5
  replace pR:=pR.below hb6
  replace bw:=bel8 bw hb6
  have r0:=pR.cell 0
  have r1:=pR.cell 1
  have r2:=pR.cell 2
  have fr0:=pR.frozen 0
  have fr1:=pR.frozen 1
  have fr2:=pR.frozen 2
  have pZ:=((pR.set 0 (.string key)).set 1 (.slice va lv vc)).set 2 (.slice a2 fn9 fc9)
  simp only [List.set_cons_zero,List.set_cons_succ] at pZ
  have z0:=pZ.cell 0
  have z1:=pZ.cell 1
  have z2:=pZ.cell 2
  simp only [List.getElem?_cons_zero,List.getElem?_cons_succ] at z0 z1 z2 r0 r1 r2
  have bz:=((bw.setCell (p:=⟨w.heap.size,0,none⟩) (Nat.le_refl _) (.string key)).setCell (p:=⟨w.heap.size,1,none⟩) (Nat.le_refl _) (.slice va lv vc)).setCell (p:=⟨w.heap.size,2,none⟩) (Nat.le_refl _) (.slice a2 fn9 fc9)
  refine tkv 8 29 (.agg #[.string key,.slice va lv vc,.slice a2 fn9 fc9]) ?_
  refine tkz 9 (fun K hK=>?_)
  go_simp
  refine hK.out _ _ ?_ (fun hS9=>?_)
  ·exact trivial
  clear hK
  try simp only [Act.put,tka,tkb,tkc]
  refine tkv 10 5 (.bool true) ?_
  refine wpAnyH_done (by kernel_rfl) ?_ _
  have hO9:=ownsRow_setCell_below (ownsRow_setCell_below (ownsRow_setCell_below hO (a:=⟨w.heap.size,0,none⟩) (Nat.lt_succ_self _) (.string key)) (a:=⟨w.heap.size,1,none⟩) (Nat.lt_succ_self _) (.slice va lv vc)) (a:=⟨w.heap.size,2,none⟩) (Nat.lt_succ_self _) (.slice a2 fn9 fc9)
  replace hO9:=lower8 hO9 (Nat.le_succ w.heap.size)
  have HE:Hid (EnG (.returned (.tuple #[entV key ((va,lv,vc),(a2,fn9,fc9)),.bool true])) _ w.heap.size key (some ⟨b,off,none⟩) n c xs m):=.inr ⟨⟨by omega,h1⟩,((va,lv,vc),(a2,fn9,fc9)),b,off,rfl,rfl,by
   have e9:=HF.out.2.2
   have e8:=HY.out
   rw [e9] at e8
   rw [e8,hlv]
   exact hO9,HF.out.1,by rw [← HF.out.2.1];exact hA2⟩
  clear hO hO9 pZ pR hS5 hS9 kB hb5 hb6
  go_wp2
  refine bodyPost_ret (by simp [results,Tryz.results104,go_sem,z0,z1,z2];try rfl) rfl ?_
  first | exact ⟨HE.out,bz⟩ | exact ⟨HE.out,by go_grown⟩
 ·have hgt:(n:Int)<1+3*(m:Int):=by omega
  have HN:Hid (∀ W,EnG (.returned (.tuple #[.agg #[.string ⟨#[]⟩,.slice none 0 0,.slice none 0 0],.bool false])) W w.heap.size key (some ⟨b,off,none⟩) n c xs m):=fun W=>.inl ⟨by omega,rfl⟩
  clear hI
  go_enter Tryz.func104,Tryz.ntmps104
  have r0:=pR.cell 0
  have r1:=pR.cell 1
  have r2:=pR.cell 2
  have fr0:=pR.frozen 0
  have fr1:=pR.frozen 1
  have fr2:=pR.frozen 2
  have pZ:=((pR.set 0 (.string ⟨#[]⟩)).set 1 (.slice none 0 0)).set 2 (.slice none 0 0)
  simp only [List.set_cons_zero,List.set_cons_succ] at pZ
  have z0:=pZ.cell 0
  have z1:=pZ.cell 1
  have z2:=pZ.cell 2
  simp only [List.getElem?_cons_zero,List.getElem?_cons_succ] at z0 z1 z2 r0 r1 r2
  have bz:=((bw.setCell (p:=⟨w.heap.size,0,none⟩) (Nat.le_refl _) (.string ⟨#[]⟩)).setCell (p:=⟨w.heap.size,1,none⟩) (Nat.le_refl _) (.slice none 0 0)).setCell (p:=⟨w.heap.size,2,none⟩) (Nat.le_refl _) (.slice none 0 0)
  clear pZ pR
  go_wp2
  refine bodyPost_ret (by simp [results,Tryz.results104,go_sem,z0,z1,z2];try rfl) rfl ?_
  first | exact ⟨HN.out _,bz⟩ | exact ⟨HN.out _,by go_grown⟩


theorem newsI9 {w:World} {ad:Addr} {n c:Nat} {xs:List Int} (h:Ints .i64 w (some ad) n c xs):∀ j u,(xs.map (Value.int .i64))[j]?=some u→w.cell? (ad.add j)=some u:=by
 have h':=h
 obtain ⟨hl,_,_,hc⟩:=h
 rcases hc with h0 | ⟨b,off,ha,_⟩
 ·obtain rfl:xs=[]:=List.eq_nil_of_length_eq_zero (hl.trans h0)
  intro j u hj
  simp at hj
 ·cases ha
  exact news8 h'

theorem run_app9 {P:Program} {w:World} (base:Nat) (t ty e:TypeId) (i:TypeInfo) (z:Value) (size bytes:Nat) (ht:P.underlying t=some (.slice e)) (hi:P.info? e=some i) (hz:i.zero=some z)
  (hsize:i.size=size) (hby:i.bytes=bytes) (hzs:z.cells.size=size) (hsz:0<size)
  (v:Value) (n:Nat) (xs:List Value) (hown:w.ownsRow base e size v n xs)
  (a:Option Addr) (m c:Nat) (hno:a=none→m=0∧c=0) (news:List Value) (hl:news.length=m*size) (hnews:∀ ad,a=some ad→∀ j u,news[j]?=some u→w.cell? (ad.add j)=some u) (h1:∀ u ∈ news,u.oneCell'=true)
  (h63:n+m≤maxLen) (hbytes:(n+m)*bytes≤140737488355328) (hbase:base≤w.heap.size) :
  ∃ v' w',(Builtin.append_ #[t,t] ty #[v,.slice a m c]).run P w=.ok v' w'∧w'.ownsRow base e size v' (n+m) (xs++news)∧w.grownBy w' v.ownBlock∧(v'.ownBlock=v.ownBlock∨v'.ownBlock=some w.heap.size):=by
 cases a with
 | none =>
  obtain ⟨rfl,rfl⟩:=hno rfl
  obtain rfl:news=[]:=List.eq_nil_of_length_eq_zero (by rw [hl,Nat.zero_mul])
  exact ⟨v,w,run_append_owned_none (P:=P) (w:=w) base t ty e i size ht hi v n xs hown,by simpa using hown,⟨rfl,rfl,rfl,Nat.le_refl _,fun _ _ _=>rfl⟩,.inl rfl⟩
 | some ad =>
  obtain ⟨v',w',hrun,r1,r2,_,r4⟩:=run_append_own_at (P:=P) (w:=w) base t ty e i z size bytes ht hi hz hsize hby hzs hsz v n xs hown ad m c news hl (hnews ad rfl) h1 h63 hbytes hbase
  exact ⟨v',w',hrun,r1,r2,r4⟩
theorem wpList_app9 {P:Program} {w:World} {ops:Array Oper} {rest:List Oper} {o:Oper} {act:Act} {Q:Exit→Act→World→Prop} (hgd:o.guard=none) (s x:Operand) (t:TypeId)
  (ho:o.op=.call { callee:=.builtin .append,args:=#[s,x],argTypes:=#[t,t] })
  (base:Nat) (e:TypeId) (i:TypeInfo) (z:Value) (size bytes:Nat) (ht:P.underlying t=some (.slice e)) (hi:P.info? e=some i) (hz:i.zero=some z)
  (hsize:i.size=size) (hby:i.bytes=bytes) (hzs:z.cells.size=size) (hsz:0<size)
  (v:Value) (n:Nat) (xs:List Value) (hs:act.eval s=v) (hown:w.ownsRow base e size v n xs)
  (a:Option Addr) (m c:Nat) (hx:act.eval x=.slice a m c) (hno:a=none→m=0∧c=0) (news:List Value) (hl:news.length=m*size) (hnews:∀ ad,a=some ad→∀ j u,news[j]?=some u→w.cell? (ad.add j)=some u) (h1:∀ u ∈ news,u.oneCell'=true)
  (h63:n+m≤maxLen) (hbytes:(n+m)*bytes≤140737488355328) (hbase:base≤w.heap.size)
  (h:∀ v' w',w'.ownsRow base e size v' (n+m) (xs++news)→w.grownBy w' v.ownBlock→(v'.ownBlock=v.ownBlock∨v'.ownBlock=some w.heap.size)→wpList P ops Q rest (act.put o.dst v') w'):wpList P ops Q (o::rest) act w:=by
 refine wpList_plain hgd fun K hK=>?_
 obtain ⟨v',w',hrun,r1,r2,r4⟩:=run_app9 (P:=P) (w:=w) base t o.type e i z size bytes ht hi hz hsize hby hzs hsz v n xs hown a m c hno news hl hnews h1 h63 hbytes hbase
 unfold Oper.wp
 simp [execOp,ho,resolve,invoke,builtin,hs,hx,hrun,Result.andThen]
 exact hK _ _ (h v' w' r1 r2 r4)
theorem step_app9 {P:Program} {ops:Array Oper} {o:Oper} {act:Act} {w:World} {K:Act→World→Prop} {Q:Exit→Act→World→Prop} {E:Prop}
  (hg:o.guard=none) (s x:Operand) (t:TypeId) (hop:o.op=Op.call { callee:=Callee.builtin Builtin.append,args:=#[s,x],argTypes:=#[t,t] })
  (base:Nat) (e:TypeId) (i:TypeInfo) (z:Value) (size bytes:Nat) (ht:P.underlying t=some (.slice e)) (hi:P.info? e=some i) (hz:i.zero=some z)
  (hsize:i.size=size) (hby:i.bytes=bytes) (hzs:z.cells.size=size) (hsz:0<size)
  (v:Value) (n:Nat) (xs:List Value) (hs:act.eval s=v) (hown:w.ownsRow base e size v n xs)
  (a:Option Addr) (m c:Nat) (hx:act.eval x=.slice a m c) (hno:a=none→m=0∧c=0) (news:List Value) (hl:news.length=m*size) (hnews:∀ ad,a=some ad→∀ j u,news[j]?=some u→w.cell? (ad.add j)=some u) (h1:∀ u ∈ news,u.oneCell'=true)
  (h63:n+m≤maxLen) (hbytes:(n+m)*bytes≤140737488355328) (hbase:base≤w.heap.size)
  (hK:∀ v' w',w'.ownsRow base e size v' (n+m) (xs++news)→w.grownBy w' v.ownBlock→(v'.ownBlock=v.ownBlock∨v'.ownBlock=some w.heap.size)→K (act.put o.dst v') w') :
  if Region.wanted o (yielded ops act.tmps)=true then Oper.wp P o act w K Q else E:=by
 have hw:Region.wanted o (yielded ops act.tmps)=true:=by simp [Region.wanted,hg]
 rw [if_pos hw]
 obtain ⟨v',w',hrun,r1,r2,r4⟩:=run_app9 (P:=P) (w:=w) base t o.type e i z size bytes ht hi hz hsize hby hzs hsz v n xs hown a m c hno news hl hnews h1 h63 hbytes hbase
 subst hs
 unfold Oper.wp
 simp [execOp,hop,resolve,invoke,builtin,hx,hrun,Result.andThen]
 exact hK v' w' r1 r2 r4

abbrev EQ:=E3 × Sl2
def entL (L:List EQ):List Value:=L.flatMap fun x=>entC x.1.1 x.2
def EntQ (w:World) (a:Option Addr) (n c:Nat) (L:List EQ):Prop:=
 L.length=n∧n≤c∧c≤maxLen∧(∀ x ∈ L,Emem w x.2 x.1)∧(n=0∨∃ b off,a=some ⟨b,off,none⟩∧b<w.heap.size∧∀ j u,(entL L)[j]?=some u→w.cell? ⟨b,off+j,none⟩=some u)
theorem EntQ.below {w w':World} {a:Option Addr} {n c:Nat} {L:List EQ} (h:EntQ w a n c L) (hb:Below w.heap.size w w'):EntQ w' a n c L:=by
 obtain ⟨h1,h2,h3,h4,h5⟩:=h
 refine ⟨h1,h2,h3,fun x hx=>(h4 x hx).below hb,?_⟩
 rcases h5 with h0 | ⟨b,off,ha,hlt,hc⟩
 ·exact .inl h0
 ·exact .inr ⟨b,off,ha,by have:=hb.size;omega,fun j u hj=>by rw [hb.cell (p:=⟨b,_,none⟩) hlt];exact hc j u hj⟩


theorem recOk_ver {t:ByteArray}:RecOk (1,t)↔VerOk t∧t.size<1000:=by
 unfold RecOk
 simp only
 constructor
 ·rintro ⟨h1,⟨_,h⟩ | ⟨h,_⟩ | ⟨h,_⟩⟩
  ·exact ⟨h,h1⟩
  ·omega
  ·omega
 ·rintro ⟨h,h1⟩
  simp [h,h1]
theorem recOk_ent {t:ByteArray}:RecOk (2,t)↔EntTOk t∧t.size<1000:=by
 unfold RecOk
 simp only
 constructor
 ·rintro ⟨h1,⟨h,_⟩ | ⟨_,h⟩ | ⟨h,_⟩⟩
  ·omega
  ·exact ⟨h,h1⟩
  ·omega
 ·rintro ⟨h,h1⟩
  simp [h,h1]
theorem recOk_com {t:ByteArray}:RecOk (3,t)↔ComOk t∧t.size<1000:=by
 unfold RecOk
 simp only
 constructor
 ·rintro ⟨h1,⟨h,_⟩ | ⟨h,_⟩ | ⟨_,h⟩⟩
  ·omega
  ·omega
  ·exact ⟨h,h1⟩
 ·rintro ⟨h,h1⟩
  simp [h,h1]
theorem recOk_non {k:Int} {t:ByteArray} (h1:k≠1) (h2:k≠2) (h3:k≠3):¬ RecOk (k,t):=by
 rintro ⟨_,⟨h,_⟩ | ⟨h,_⟩ | ⟨h,_⟩⟩
 ·exact h1 h
 ·exact h2 h
 ·exact h3 h


abbrev noT:ByteArray:=⟨#[]⟩
def noD:D2:=(noT,noT)
def appD (d:D2) (t:ByteArray):D2 × Int:=if 65536<t.size then (noD,2) else if ¬ d.1.size+d.2.size≤60000 then (noD,1) else if ¬ d.1.size+d.2.size+t.size≤60000 then (d,7) else ((d.1,d.2++t),0)
def flushD (d:D2):D2 × Int:=if ¬ d.1.size+d.2.size≤60000 then (noD,1) else ((d.1++d.2,noT),0)
def crashD (d:D2) (k:Int):D2 × Int:=if ¬ d.1.size+d.2.size≤60000 then (noD,1) else if ¬ (0≤k∧k≤60000) then (noD,4) else ((d.1++d.2.extract 0 (min k (d.2.size:Int)).toNat,noT),0)
def cutD (d:D2) (n:Int):D2 × Int:=if ¬ d.1.size+d.2.size≤60000 then (noD,1) else if ¬ d.2.size=0 then (noD,1) else if ¬ (0≤n∧n≤d.1.size) then (noD,4) else ((d.1.extract 0 n.toNat,noT),0)
def replD (d:D2) (t:ByteArray):D2 × Int:=if 65536<t.size then (noD,2) else if ¬ d.1.size+d.2.size≤60000 then (noD,1) else if ¬ t.size≤60000 then (d,7) else ((t,noT),0)
def ResD (r:D2 × Int):Ending:=.returned (.tuple #[r.1.val,.int .i64 r.2])

def FrD (w w':World) (d:D2):Prop:=DBox w' w.heap.size d∧Blk w' (w.heap.size+1) 27 [.string ⟨#[]⟩,.string ⟨#[]⟩]∧Below w.heap.size w w'
theorem FrD.new (w:World) (d:D2):FrD w ((w.alloc (.cells #[.string d.1,.string d.2] 27)).alloc (.cells #[.string ⟨#[]⟩,.string ⟨#[]⟩] 27)) d:=by
 have h:=boxD_new w d
 have h2:=Blk.new (w.alloc (.cells #[.string d.1,.string d.2] 27)) 27 [.string ⟨#[]⟩,.string ⟨#[]⟩]
 have hs:(w.alloc (.cells #[.string d.1,.string d.2] 27)).heap.size=w.heap.size+1:=by
  show (w.heap.push _).size=_
  simp
 refine ⟨h.below (bel_new _ _),?_,belD (bel_new w _) (bel_new _ _)⟩
 rw [hs] at h2
 exact h2
theorem FrD.below {w w' w'':World} {d:D2} (h:FrD w w' d) (b:Below w'.heap.size w' w''):FrD w w'' d:=⟨h.1.below b,h.2.1.below b,h.2.2.trans (b.mono (by have:=h.2.1.lt;omega))⟩
theorem FrD.grown {w w' w'':World} {d d':D2} (h:FrD w w' d) (k:w'.grownBy w'' (some w.heap.size)) (hB:DBox w'' w.heap.size d'):FrD w w'' d':=by
 have hl:=h.2.1.lt
 have hn:w.heap.size<w'.heap.size:=by omega
 refine ⟨hB,?_,⟨k.os.trans h.2.2.os,k.tape.trans h.2.2.tape,k.output.trans h.2.2.output,Nat.le_trans h.2.2.size k.size,fun j hj=>?_⟩⟩
 ·exact (k.block _ hl (by intro e;injection e with e;omega)).trans h.2.1
 ·exact (k.block j (by omega) (by intro e;injection e with e;omega)).trans (h.2.2.block j hj)
theorem FrD.cells {w w':World} {d:D2} (h:FrD w w' d):w'.cell? ⟨w.heap.size,0,none⟩=some (.string d.1)∧w'.cell? ⟨w.heap.size,1,none⟩=some (.string d.2)∧w'.cell? ⟨w.heap.size+1,0,none⟩=some (.string ⟨#[]⟩)∧w'.cell? ⟨w.heap.size+1,1,none⟩=some (.string ⟨#[]⟩)∧w'.frozen? ⟨w.heap.size+1,0,none⟩=false∧w'.frozen? ⟨w.heap.size+1,1,none⟩=false:=⟨h.1.c0,h.1.c1,h.2.1.cell 0,h.2.1.cell 1,h.2.1.frozen 0,h.2.1.frozen 1⟩
theorem FrD.fin {w w':World} {d:D2} (h:FrD w w' d) (s q:ByteArray):∃ W,W=(w'.setCell ⟨w.heap.size+1,0,none⟩ (.string s)).setCell ⟨w.heap.size+1,1,none⟩ (.string q)∧W.cell? ⟨w.heap.size+1,0,none⟩=some (.string s)∧W.cell? ⟨w.heap.size+1,1,none⟩=some (.string q)∧Below w.heap.size w W:=
 ⟨_,rfl,((h.2.1.set 0 (.string s)).set 1 (.string q)).cell 0,((h.2.1.set 0 (.string s)).set 1 (.string q)).cell 1,h.2.2.trans ((Below.setCell (Below.refl _ w') (p:=⟨w.heap.size+1,0,none⟩) (Nat.le_succ _) _).trans (Below.setCell (Below.refl _ _) (p:=⟨w.heap.size+1,1,none⟩) (Nat.le_succ _) _))⟩

theorem flush_is (g:Nat) (d:D2) (w:World) (hd:d.few) (hB:DBox w g d) :
  Calls Tryz.prog 37 #[.pointer (some ⟨g,0,none⟩)] w fun e w'=>e=.returned (.tuple #[])∧DBox w' g (d.1++d.2,noT)∧w.grownBy w' (some g):=by
 have r1:=hB.c1
 have hx:d.2.extract 0 d.2.size=d.2:=by simp
 go_enter Tryz.func37,Tryz.ntmps37
 go_wp2_with fail
 refine (settle_is g d (d.2.size:Int) d.2.size w hd hB (by omega) (by omega)).mono ?_
 rw [hx]
 rintro e w1 ⟨rfl,b1,g1⟩
 go_wp2
 go_returns
 exact ⟨rfl,b1,g1⟩

theorem few_app (s q:ByteArray) (h:s.size+q.size≤60000):D2.few (s++q,noT):=by
 show (s++q).size+0≤_
 rw [ByteArray.size_append]
 omega
theorem few_app2 (s q t:ByteArray) (h:s.size+q.size+t.size≤60000):D2.few (s,q++t):=by
 show s.size+(q++t).size≤_
 rw [ByteArray.size_append]
 omega
theorem few_ext (s q:ByteArray) (j:Nat) (h:s.size+q.size≤60000):D2.few (s++q.extract 0 j,noT):=by
 show (s++q.extract 0 j).size+0≤_
 rw [ByteArray.size_append,ByteArray.size_extract]
 omega
theorem few_cut (s:ByteArray) (j:Nat) (h:s.size≤60000):D2.few (s.extract 0 j,noT):=by
 show (s.extract 0 j).size+0≤_
 rw [ByteArray.size_extract]
 omega
theorem noT_of {q:ByteArray} (h:q.size=0):q=⟨#[]⟩:=by
 obtain ⟨d⟩:=q
 congr 1
 exact Array.eq_empty_of_size_eq_zero h
theorem emptyD_no {x:ByteArray} (h:¬ x.size=0):x.toList.isEmpty=false:=by
 rw [← decide_eq_emptyBytes]
 simpa using h
theorem cutD_4 (s:ByteArray) (n:Int) (h:s.size+(⟨#[]⟩:ByteArray).size≤60000) (hin:¬ (0≤n∧n≤s.size)):cutD (s,⟨#[]⟩) n=(noD,4):=by
 unfold cutD
 exact (if_neg (not_not_intro h)).trans ((if_neg (not_not_intro (show (⟨#[]⟩:ByteArray).size=0 from rfl))).trans (if_pos hin))
theorem cutD_0 (s:ByteArray) (n:Int) (h:s.size+(⟨#[]⟩:ByteArray).size≤60000) (hin:0≤n∧n≤s.size):cutD (s,⟨#[]⟩) n=((s.extract 0 n.toNat,noT),0):=by
 unfold cutD
 exact (if_neg (not_not_intro h)).trans ((if_neg (not_not_intro (show (⟨#[]⟩:ByteArray).size=0 from rfl))).trans (if_neg (not_not_intro hin)))
theorem few_one (s:ByteArray) (h:s.size≤60000):D2.few (s,noT):=by
 show s.size+0≤_
 omega
end Go.Proofs.YtdopgkbegjfhjaaGreatDoor
