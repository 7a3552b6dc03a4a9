/-
  Joined: DskL, EnoI, Ent9, EsB.
-/
import Derived.Laws.AppendOwnNone
import Derived.Test.YtdopgkbegjfhjaaGreatDoorR17
import Derived.Test.YtdopgkbegjfhjaaGreatDoorR24
import Derived.Test.YtdopgkbegjfhjaaGreatDoorR26

namespace Go.Proofs.YtdopgkbegjfhjaaGreatDoor
set_option maxRecDepth 100000
set_option maxHeartbeats 16000000
open Go.RowKit Go.ChangeShapes Go.WideShapes
set_option linter.unusedVariables false
set_option linter.unusedSimpArgs false

def D2.fits (d:D2):Prop:=d.1.size≤maxLen∧d.2.size≤maxLen

section
variable {H : Type} {enc : TypeId × Value → H} {w : World} {base : Nat} {spare : Nat → Bool} {held : Bool}
theorem open_laws_Disk {r:Reach} {b0:Nat} {v:Value} {d:DataW H} {p:List MemPlace}
  (hv:Value.okWide Tryz.prog w r b0 46 v) (h:DataW.Trod enc Tryz.prog w base spare held 46 v d p):∃ y:D2,v=y.val∧D2.fits y:=by
 obtain ⟨cs,rfl,hsz⟩:=okWide_struct Tryz.underlying46 hv
 have hsz':cs.size=2:=hsz.trans (by kernel_rfl)
 obtain ⟨fuel,hf⟩:=h
 obtain ⟨y0,y1,n,_,_,h0,h1⟩:=trod_struct2 Tryz.underlying46 hf
 have k0:Tryz.prog.cellsOf 9=1:=by kernel_rfl
 obtain ⟨c0,c1,rfl⟩:∃ c0 c1,cs=#[c0,c1]:=by
  obtain ⟨l⟩:=cs
  match l,hsz' with
  | [c0,c1],_=>exact ⟨c0,c1,rfl⟩
 simp only [k0] at h0 h1
 obtain ⟨s,e0,_,hs⟩:=DataW.trod_string Tryz.underlying9 h0
 obtain ⟨q,e1,_,hq⟩:=DataW.trod_string Tryz.underlying9 h1
 simp [Value.cells] at e0 e1
 refine ⟨(s,q),?_,hs,hq⟩
 rw [e0,e1]
 rfl
end

theorem toDisk_same (d:D2) (w:World):Calls Tryz.prog 26 #[d.val] w fun e w'=>e=.returned d.val∧Below w.heap.size w w':=by
 obtain ⟨s,q⟩:=d
 unfold D2.val
 go_enter Tryz.func26,Tryz.ntmps26
 go_wp2
 go_returns
 exact ⟨rfl,by go_grown⟩

theorem eqDisk_same (d:D2) (w:World):Calls Tryz.prog 27 #[d.val,d.val] w fun e w'=>e=.returned (.bool true)∧Below w.heap.size w w':=by
 obtain ⟨s,q⟩:=d
 unfold D2.val
 go_enter Tryz.func27,Tryz.ntmps27
 go_wp2
 go_returns
 exact ⟨rfl,by go_grown⟩

open Go.RowKit

theorem slice_l9 {b off len cap lo:Nat} (h1:lo≤len) (h2:len≤cap) :
  ∃ a,(∀ W,(Instr.slice 40 (.slice (some ⟨b,off,none⟩) len cap) (some (.int .i64 (lo:Int))) none none).run Tryz.prog W=.ok (.slice a (len - lo) (cap - lo)) W)∧(cap - lo=0∧a=some ⟨b,off,none⟩∨a=some ⟨b,off+lo,none⟩):=by
 have hlh:(lo:Int)≤(len:Int):=by omega
 by_cases hz:cap - lo=0
 ·refine ⟨some ⟨b,off,none⟩,fun W=>?_,.inl ⟨hz,rfl⟩⟩
  go_simp
  omega
 ·refine ⟨some ⟨b,off+lo,none⟩,fun W=>?_,.inr rfl⟩
  go_simp
  omega
def EnG (e:Ending) (w':World) (B:Nat) (key:ByteArray) (a:Option Addr) (n c:Nat) (xs:List Int) (m:Nat):Prop:=
 (¬ (1≤n∧1+3*m≤n)∧e=.returned (.tuple #[.agg #[.string ⟨#[]⟩,.slice none 0 0,.slice none 0 0],.bool false])) ∨
 ((1≤n∧1+3*m≤n)∧∃ (s:Sl2) (b off:Nat),a=some ⟨b,off,none⟩∧e=.returned (.tuple #[entV key s,.bool true])∧w'.ownsRow B 112 3 (.slice s.1.1 s.1.2.1 s.1.2.2) (triples ((xs.drop 1).take (3*m))).length (flat (triples ((xs.drop 1).take (3*m)))) ∧
  s.2.2=(n - (1+3*m),c - (1+3*m))∧(c - (1+3*m)=0∧s.2.1=some ⟨b,off,none⟩∨s.2.1=some ⟨b,off+(1+3*m),none⟩))

theorem entryOf_is (key:ByteArray) (a:Option Addr) (n c:Nat) (xs:List Int) (m:Nat) (w:World) (h:Ints .i64 w a n c xs) (hn:n≤4096) (hx:1≤n→xs.getD 0 0=(m:Int)) (hm:m≤999999999) :
  Calls Tryz.prog 104 #[.string key,.slice a n c] w fun e w'=>EnG e w' w.heap.size key a n c xs m∧Below w.heap.size w w':=by
 have bw:Below w.heap.size w (w.alloc (.cells #[.string ⟨#[]⟩,.slice none 0 0,.slice none 0 0] 74)):=by go_grown
 have pR:Blk (w.alloc (.cells #[.string ⟨#[]⟩,.slice none 0 0,.slice none 0 0] 74)) w.heap.size 74 [.string ⟨#[]⟩,.slice none 0 0,.slice none 0 0]:=blkAt _ _ _ rfl
 by_cases h0:n=0
 ·subst h0
  have hN:Hid (EnG (.returned (.tuple #[.agg #[.string ⟨#[]⟩,.slice none 0 0,.slice none 0 0],.bool false])) w w.heap.size key a 0 c xs m):=.inl ⟨by omega,rfl⟩
  have HN:∀ W,EnG (.returned (.tuple #[.agg #[.string ⟨#[]⟩,.slice none 0 0,.slice none 0 0],.bool false])) W w.heap.size key a 0 c xs m:=fun W=>.inl ⟨by omega,rfl⟩
  clear hN
  replace HN:Hid (∀ W,EnG (.returned (.tuple #[.agg #[.string ⟨#[]⟩,.slice none 0 0,.slice none 0 0],.bool false])) W w.heap.size key a 0 c xs m):=HN
  clear h hx
  go_enter Tryz.func104,Tryz.ntmps104
  have r0:=pR.cell 0
  have r1:=pR.cell 1
  have r2:=pR.cell 2
  have fr0:=pR.frozen 0
  have fr1:=pR.frozen 1
  have fr2:=pR.frozen 2
  have pZ:=((pR.set 0 (.string ⟨#[]⟩)).set 1 (.slice none 0 0)).set 2 (.slice none 0 0)
  simp only [List.set_cons_zero,List.set_cons_succ] at pZ
  have z0:=pZ.cell 0
  have z1:=pZ.cell 1
  have z2:=pZ.cell 2
  simp only [List.getElem?_cons_zero,List.getElem?_cons_succ] at z0 z1 z2 r0 r1 r2
  have bz:=((bw.setCell (p:=⟨w.heap.size,0,none⟩) (Nat.le_refl _) (.string ⟨#[]⟩)).setCell (p:=⟨w.heap.size,1,none⟩) (Nat.le_refl _) (.slice none 0 0)).setCell (p:=⟨w.heap.size,2,none⟩) (Nat.le_refl _) (.slice none 0 0)
  clear pZ pR
  go_wp2
  refine bodyPost_ret (by simp [results,Tryz.results104,go_sem,z0,z1,z2];try rfl) rfl ?_
  first | exact ⟨HN.out _,bz⟩ | exact ⟨HN.out _,by go_grown⟩
 have hx1:=hx (by omega)
 have hI:=h
 obtain ⟨e1,e2,e3,hcase⟩:=h
 rcases hcase with h9 | ⟨b,off,rfl,hbl,hc⟩
 ·exact absurd h9 h0
 have d0:=hc 0 (by omega)
 rw [hx1,Nat.add_zero] at d0
 have d0':=cells_kept bw _ _ d0
 have hq0:0<n:=by omega
 have hp0:(0:Int)<(n:Int):=by omega
 have hnz:((n:Int) == 0)=false:=by simp;omega
 clear hc hx hx1
 by_cases h1:1+3*m≤n
 ·have hgt:¬ (n:Int)<1+3*(m:Int):=by omega
  obtain ⟨a1,hs1,hI1⟩:=slice_lh hI (lo:=1) (hi:=1+3*m) (by omega) (by omega)
  obtain ⟨a2,hs2,hA2⟩:=slice_l9 (b:=b) (off:=off) (len:=n) (cap:=c) (lo:=1+3*m) (by omega) e2
  have hca:((1+3*m:Nat):Int)=1+3*(m:Int):=by omega
  rw [hca] at hs1 hs2
  rw [Nat.add_sub_cancel_left] at hs1 hI1
  have hs1':∀ W,(Instr.slice 40 (.slice (some ⟨b,off,none⟩) n c) (some (.int .i64 1)) (some (.int .i64 (1+3*(m:Int)))) none).run Tryz.prog W=.ok (.slice a1 (3*m) (c - 1)) W:=fun W=>hs1 W
  have kB:=fun W (hb:Below w.heap.size w W)=>bugsOf_is a1 (3*m) (c - 1) ((xs.drop 1).take (3*m)) m W (hI1.below hb) rfl (by omega)
  obtain ⟨fn9,hfn⟩:∃ k,k=n - (1+3*m):=⟨_,rfl⟩
  obtain ⟨fc9,hfc⟩:∃ k,k=c - (1+3*m):=⟨_,rfl⟩
  rw [← hfn,← hfc] at hs2
  rw [← hfc] at hA2
  obtain ⟨bn9,hbn⟩:∃ k,k=3*m:=⟨_,rfl⟩
  rw [← hbn] at hs1' kB
  have HF:Hid ((fn9,fc9)=(n - (1+3*m),c - (1+3*m))∧fc9=c - (1+3*m)∧bn9=3*m):=⟨by rw [hfn,hfc],hfc,hbn⟩
  clear hs1 hI1 hfn hfc hI hca
  generalize hys:(xs.drop 1).take bn9=ys at *
  have HY:Hid ((xs.drop 1).take bn9=ys):=hys
  clear hys hbn
  have bd:Below w.heap.size w (w.alloc (.cells #[.string ⟨#[]⟩,.slice none 0 0,.slice none 0 0] 74)).drew:=bel8 bw (by go_grown)
  go_enter Tryz.func104,Tryz.ntmps104
  go_wp2_with fail
  generalize (w.alloc (.cells #[.string ⟨#[]⟩,.slice none 0 0,.slice none 0 0] 74))=U at *
  refine wp_region_held_drew (S:=(fun _=>True)) (by kernel_rfl) trivial (fun hS0=>?_)
  refine tkv 0 21 (.string key) ?_
  refine tkv 1 22 (.slice (some ⟨b,off,none⟩) n c) ?_
  refine tkv 2 23 (.int .i64 (1+3*(m:Int))) ?_
  refine tkv 3 24 (.slice a1 bn9 (c - 1)) ?_
  refine tkv 5 26 (.slice (some ⟨b,off,none⟩) n c) ?_
  refine tkv 6 27 (.int .i64 (1+3*(m:Int))) ?_
  refine tkv 7 28 (.slice a2 fn9 fc9) ?_
  refine tkr 4 25 (fun K hK=>?_)
  go_simp
  refine (kB _ bd).mono ?_
  rintro e w5 ⟨⟨v,rfl,hO⟩,hb5⟩
  obtain ⟨va,vc,rfl⟩:=slice8 hO
  go_wp2_with fail
  refine hK.out _ _ ?_ (fun hS5=>?_)
  ·exact trivial
  clear hK
  replace hO:=lower8 hO (show w.heap.size+1≤U.drew.heap.size from by have:=pR.lt;exact this)
  generalize hlv:(triples ys).length=lv at *
  have hb6:=bel8 (show Below U.heap.size U U.drew by go_grown) hb5
  replace pR:=pR.below hb6
  replace bw:=bel8 bw hb6
  have r0:=pR.cell 0
  have r1:=pR.cell 1
  have r2:=pR.cell 2
  have fr0:=pR.frozen 0
  have fr1:=pR.frozen 1
  have fr2:=pR.frozen 2
  have pZ:=((pR.set 0 (.string key)).set 1 (.slice va lv vc)).set 2 (.slice a2 fn9 fc9)
  simp only [List.set_cons_zero,List.set_cons_succ] at pZ
  have z0:=pZ.cell 0
  have z1:=pZ.cell 1
  have z2:=pZ.cell 2
  simp only [List.getElem?_cons_zero,List.getElem?_cons_succ] at z0 z1 z2 r0 r1 r2
  have bz:=((bw.setCell (p:=⟨w.heap.size,0,none⟩) (Nat.le_refl _) (.string key)).setCell (p:=⟨w.heap.size,1,none⟩) (Nat.le_refl _) (.slice va lv vc)).setCell (p:=⟨w.heap.size,2,none⟩) (Nat.le_refl _) (.slice a2 fn9 fc9)
  refine tkv 8 29 (.agg #[.string key,.slice va lv vc,.slice a2 fn9 fc9]) ?_
  refine tkz 9 (fun K hK=>?_)
  go_simp
  refine hK.out _ _ ?_ (fun hS9=>?_)
  ·exact trivial
  clear hK
  try simp only [Act.put,tka,tkb,tkc]
  refine tkv 10 5 (.bool true) ?_
  refine wpAnyH_done (by kernel_rfl) ?_ _
  have hO9:=ownsRow_setCell_below (ownsRow_setCell_below (ownsRow_setCell_below hO (a:=⟨w.heap.size,0,none⟩) (Nat.lt_succ_self _) (.string key)) (a:=⟨w.heap.size,1,none⟩) (Nat.lt_succ_self _) (.slice va lv vc)) (a:=⟨w.heap.size,2,none⟩) (Nat.lt_succ_self _) (.slice a2 fn9 fc9)
  replace hO9:=lower8 hO9 (Nat.le_succ w.heap.size)
  have HE:Hid (EnG (.returned (.tuple #[entV key ((va,lv,vc),(a2,fn9,fc9)),.bool true])) _ w.heap.size key (some ⟨b,off,none⟩) n c xs m):=.inr ⟨⟨by omega,h1⟩,((va,lv,vc),(a2,fn9,fc9)),b,off,rfl,rfl,by
   have e9:=HF.out.2.2
   have e8:=HY.out
   rw [e9] at e8
   rw [e8,hlv]
   exact hO9,HF.out.1,by rw [← HF.out.2.1];exact hA2⟩
  clear hO hO9 pZ pR hS5 hS9 kB hb5 hb6
  go_wp2
  refine bodyPost_ret (by simp [results,Tryz.results104,go_sem,z0,z1,z2];try rfl) rfl ?_
  first | exact ⟨HE.out,bz⟩ | exact ⟨HE.out,by go_grown⟩
 ·have hgt:(n:Int)<1+3*(m:Int):=by omega
  have HN:Hid (∀ W,EnG (.returned (.tuple #[.agg #[.string ⟨#[]⟩,.slice none 0 0,.slice none 0 0],.bool false])) W w.heap.size key (some ⟨b,off,none⟩) n c xs m):=fun W=>.inl ⟨by omega,rfl⟩
  clear hI
  go_enter Tryz.func104,Tryz.ntmps104
  have r0:=pR.cell 0
  have r1:=pR.cell 1
  have r2:=pR.cell 2
  have fr0:=pR.frozen 0
  have fr1:=pR.frozen 1
  have fr2:=pR.frozen 2
  have pZ:=((pR.set 0 (.string ⟨#[]⟩)).set 1 (.slice none 0 0)).set 2 (.slice none 0 0)
  simp only [List.set_cons_zero,List.set_cons_succ] at pZ
  have z0:=pZ.cell 0
  have z1:=pZ.cell 1
  have z2:=pZ.cell 2
  simp only [List.getElem?_cons_zero,List.getElem?_cons_succ] at z0 z1 z2 r0 r1 r2
  have bz:=((bw.setCell (p:=⟨w.heap.size,0,none⟩) (Nat.le_refl _) (.string ⟨#[]⟩)).setCell (p:=⟨w.heap.size,1,none⟩) (Nat.le_refl _) (.slice none 0 0)).setCell (p:=⟨w.heap.size,2,none⟩) (Nat.le_refl _) (.slice none 0 0)
  clear pZ pR
  go_wp2
  refine bodyPost_ret (by simp [results,Tryz.results104,go_sem,z0,z1,z2];try rfl) rfl ?_
  first | exact ⟨HN.out _,bz⟩ | exact ⟨HN.out _,by go_grown⟩


theorem newsI9 {w:World} {ad:Addr} {n c:Nat} {xs:List Int} (h:Ints .i64 w (some ad) n c xs):∀ j u,(xs.map (Value.int .i64))[j]?=some u→w.cell? (ad.add j)=some u:=by
 have h':=h
 obtain ⟨hl,_,_,hc⟩:=h
 rcases hc with h0 | ⟨b,off,ha,_⟩
 ·obtain rfl:xs=[]:=List.eq_nil_of_length_eq_zero (hl.trans h0)
  intro j u hj
  simp at hj
 ·cases ha
  exact news8 h'

theorem run_app9 {P:Program} {w:World} (base:Nat) (t ty e:TypeId) (i:TypeInfo) (z:Value) (size bytes:Nat) (ht:P.underlying t=some (.slice e)) (hi:P.info? e=some i) (hz:i.zero=some z)
  (hsize:i.size=size) (hby:i.bytes=bytes) (hzs:z.cells.size=size) (hsz:0<size)
  (v:Value) (n:Nat) (xs:List Value) (hown:w.ownsRow base e size v n xs)
  (a:Option Addr) (m c:Nat) (hno:a=none→m=0∧c=0) (news:List Value) (hl:news.length=m*size) (hnews:∀ ad,a=some ad→∀ j u,news[j]?=some u→w.cell? (ad.add j)=some u) (h1:∀ u ∈ news,u.oneCell'=true)
  (h63:n+m≤maxLen) (hbytes:(n+m)*bytes≤140737488355328) (hbase:base≤w.heap.size) :
  ∃ v' w',(Builtin.append_ #[t,t] ty #[v,.slice a m c]).run P w=.ok v' w'∧w'.ownsRow base e size v' (n+m) (xs++news)∧w.grownBy w' v.ownBlock∧(v'.ownBlock=v.ownBlock∨v'.ownBlock=some w.heap.size):=by
 cases a with
 | none =>
  obtain ⟨rfl,rfl⟩:=hno rfl
  obtain rfl:news=[]:=List.eq_nil_of_length_eq_zero (by rw [hl,Nat.zero_mul])
  exact ⟨v,w,run_append_owned_none (P:=P) (w:=w) base t ty e i size ht hi v n xs hown,by simpa using hown,⟨rfl,rfl,rfl,Nat.le_refl _,fun _ _ _=>rfl⟩,.inl rfl⟩
 | some ad =>
  obtain ⟨v',w',hrun,r1,r2,_,r4⟩:=run_append_own_at (P:=P) (w:=w) base t ty e i z size bytes ht hi hz hsize hby hzs hsz v n xs hown ad m c news hl (hnews ad rfl) h1 h63 hbytes hbase
  exact ⟨v',w',hrun,r1,r2,r4⟩
theorem wpList_app9 {P:Program} {w:World} {ops:Array Oper} {rest:List Oper} {o:Oper} {act:Act} {Q:Exit→Act→World→Prop} (hgd:o.guard=none) (s x:Operand) (t:TypeId)
  (ho:o.op=.call { callee:=.builtin .append,args:=#[s,x],argTypes:=#[t,t] })
  (base:Nat) (e:TypeId) (i:TypeInfo) (z:Value) (size bytes:Nat) (ht:P.underlying t=some (.slice e)) (hi:P.info? e=some i) (hz:i.zero=some z)
  (hsize:i.size=size) (hby:i.bytes=bytes) (hzs:z.cells.size=size) (hsz:0<size)
  (v:Value) (n:Nat) (xs:List Value) (hs:act.eval s=v) (hown:w.ownsRow base e size v n xs)
  (a:Option Addr) (m c:Nat) (hx:act.eval x=.slice a m c) (hno:a=none→m=0∧c=0) (news:List Value) (hl:news.length=m*size) (hnews:∀ ad,a=some ad→∀ j u,news[j]?=some u→w.cell? (ad.add j)=some u) (h1:∀ u ∈ news,u.oneCell'=true)
  (h63:n+m≤maxLen) (hbytes:(n+m)*bytes≤140737488355328) (hbase:base≤w.heap.size)
  (h:∀ v' w',w'.ownsRow base e size v' (n+m) (xs++news)→w.grownBy w' v.ownBlock→(v'.ownBlock=v.ownBlock∨v'.ownBlock=some w.heap.size)→wpList P ops Q rest (act.put o.dst v') w'):wpList P ops Q (o::rest) act w:=by
 refine wpList_plain hgd fun K hK=>?_
 obtain ⟨v',w',hrun,r1,r2,r4⟩:=run_app9 (P:=P) (w:=w) base t o.type e i z size bytes ht hi hz hsize hby hzs hsz v n xs hown a m c hno news hl hnews h1 h63 hbytes hbase
 unfold Oper.wp
 simp [execOp,ho,resolve,invoke,builtin,hs,hx,hrun,Result.andThen]
 exact hK _ _ (h v' w' r1 r2 r4)
theorem step_app9 {P:Program} {ops:Array Oper} {o:Oper} {act:Act} {w:World} {K:Act→World→Prop} {Q:Exit→Act→World→Prop} {E:Prop}
  (hg:o.guard=none) (s x:Operand) (t:TypeId) (hop:o.op=Op.call { callee:=Callee.builtin Builtin.append,args:=#[s,x],argTypes:=#[t,t] })
  (base:Nat) (e:TypeId) (i:TypeInfo) (z:Value) (size bytes:Nat) (ht:P.underlying t=some (.slice e)) (hi:P.info? e=some i) (hz:i.zero=some z)
  (hsize:i.size=size) (hby:i.bytes=bytes) (hzs:z.cells.size=size) (hsz:0<size)
  (v:Value) (n:Nat) (xs:List Value) (hs:act.eval s=v) (hown:w.ownsRow base e size v n xs)
  (a:Option Addr) (m c:Nat) (hx:act.eval x=.slice a m c) (hno:a=none→m=0∧c=0) (news:List Value) (hl:news.length=m*size) (hnews:∀ ad,a=some ad→∀ j u,news[j]?=some u→w.cell? (ad.add j)=some u) (h1:∀ u ∈ news,u.oneCell'=true)
  (h63:n+m≤maxLen) (hbytes:(n+m)*bytes≤140737488355328) (hbase:base≤w.heap.size)
  (hK:∀ v' w',w'.ownsRow base e size v' (n+m) (xs++news)→w.grownBy w' v.ownBlock→(v'.ownBlock=v.ownBlock∨v'.ownBlock=some w.heap.size)→K (act.put o.dst v') w') :
  if Region.wanted o (yielded ops act.tmps)=true then Oper.wp P o act w K Q else E:=by
 have hw:Region.wanted o (yielded ops act.tmps)=true:=by simp [Region.wanted,hg]
 rw [if_pos hw]
 obtain ⟨v',w',hrun,r1,r2,r4⟩:=run_app9 (P:=P) (w:=w) base t o.type e i z size bytes ht hi hz hsize hby hzs hsz v n xs hown a m c hno news hl hnews h1 h63 hbytes hbase
 subst hs
 unfold Oper.wp
 simp [execOp,hop,resolve,invoke,builtin,hx,hrun,Result.andThen]
 exact hK v' w' r1 r2 r4

abbrev EQ:=E3 × Sl2
def entL (L:List EQ):List Value:=L.flatMap fun x=>entC x.1.1 x.2
def EntQ (w:World) (a:Option Addr) (n c:Nat) (L:List EQ):Prop:=
 L.length=n∧n≤c∧c≤maxLen∧(∀ x ∈ L,Emem w x.2 x.1)∧(n=0∨∃ b off,a=some ⟨b,off,none⟩∧b<w.heap.size∧∀ j u,(entL L)[j]?=some u→w.cell? ⟨b,off+j,none⟩=some u)
theorem EntQ.below {w w':World} {a:Option Addr} {n c:Nat} {L:List EQ} (h:EntQ w a n c L) (hb:Below w.heap.size w w'):EntQ w' a n c L:=by
 obtain ⟨h1,h2,h3,h4,h5⟩:=h
 refine ⟨h1,h2,h3,fun x hx=>(h4 x hx).below hb,?_⟩
 rcases h5 with h0 | ⟨b,off,ha,hlt,hc⟩
 ·exact .inl h0
 ·exact .inr ⟨b,off,ha,by have:=hb.size;omega,fun j u hj=>by rw [hb.cell (p:=⟨b,_,none⟩) hlt];exact hc j u hj⟩


theorem l03Of_far (s:ByteArray) (w:World) (hs:s.size≤maxLen) (h15:s.size≠15) :
  Calls Tryz.prog 109 #[.string s] w fun e w'=>VmGotB e w' w.heap.size ([],[],[],[]) false∧Below w.heap.size w w':=by
 unfold maxLen at hs
 have kN:=specNewVm_is
 have bw:Below w.heap.size w (w.alloc (.cells #[.slice none 0 0,.slice none 0 0,.slice none 0 0,.slice none 0 0] 123)):=by go_grown
 have pR:=Blk.new w 123 [.slice none 0 0,.slice none 0 0,.slice none 0 0,.slice none 0 0]
 have hne:((s.size:Int) != 15)=true:=by simp;omega
 go_enter Tryz.func109,Tryz.ntmps109
 go_wp2_with fail
 refine (kN _).mono ?_
 rintro e w1 ⟨⟨t,rfl,hO⟩,hb⟩
 obtain ⟨g0,g1,g2,g3,c0,c1,c2,c3,rfl,_⟩:=newVm_open hO
 have uX:S4.val ((some ⟨g0,0,none⟩,3,c0),(some ⟨g1,0,none⟩,4,c1),(some ⟨g2,0,none⟩,2,c2),(some ⟨g3,0,none⟩,6,c3))=.agg #[.slice (some ⟨g0,0,none⟩) 3 c0,.slice (some ⟨g1,0,none⟩) 4 c1,.slice (some ⟨g2,0,none⟩) 2 c2,.slice (some ⟨g3,0,none⟩) 6 c3]:=rfl
 rw [uX]
 clear uX
 have bA:Below w1.heap.size w1 (w1.alloc (.cells #[.slice (some ⟨g0,0,none⟩) 3 c0,.slice (some ⟨g1,0,none⟩) 4 c1,.slice (some ⟨g2,0,none⟩) 2 c2,.slice (some ⟨g3,0,none⟩) 6 c3] 123)):=by go_grown
 have hgS:w.heap.size<w1.heap.size:=Nat.lt_of_lt_of_le (by simp) hb.size
 replace bw:=bel_trans bw (bel_trans hb bA)
 replace pR:=pR.below (bel_trans hb bA)
 clear hb bA kN hO
 go_wp2_with (refine wpList_store_blk rfl 123 _ _ rfl w.heap.size [.slice none 0 0,.slice none 0 0,.slice none 0 0,.slice none 0 0] rfl rfl pR (by kernel_rfl) rfl rfl ?_)
 intro w4 pR4 g4
 replace bw:=bw.grown g4 bw.size (fun x hx=>by cases hx;omega)
 clear g4
 go_wp2_with fail
 refine bodyPost_ret (results_blk2 Tryz.results109 _ _ _ _ _ _ rfl pR4.out Tryz.underlying123 rfl (by kernel_rfl)) rfl ?_
 exact ⟨VmGotB.mk9 ((none,0,0),(none,0,0),(none,0,0),(none,0,0)) rfl (ownV_nil _ _),bw⟩

theorem l03Of_any (s:ByteArray) (w:World) (hs:s.size≤maxLen) :
  Calls Tryz.prog 109 #[.string s] w fun e w'=>(∃ z,VmGotB e w' w.heap.size z (keyOk9 s))∧Below w.heap.size w w':=by
 by_cases h15:s.size=15
 ·refine (l03Of_15 s w h15).mono ?_
  rintro e w' ⟨⟨z,b,hv,hb⟩,hB⟩
  have e9:keyOk9 s=b:=by unfold keyOk9;rw [decide_eq_true h15,hb.1];rfl
  rw [e9]
  exact ⟨⟨z,hv⟩,hB⟩
 ·refine (l03Of_far s w hs h15).mono ?_
  rintro e w' ⟨hv,hB⟩
  have e9:keyOk9 s=false:=by unfold keyOk9;rw [decide_eq_false h15];rfl
  rw [e9]
  exact ⟨⟨_,hv⟩,hB⟩

theorem specEntryOK_is (e:E3) (s:Sl2) (w:World) (h:Emem w s e) :
  Calls Tryz.prog 79 #[entV e.1 s] w fun x w'=>x=.returned (.bool (entOk e))∧Below w.heap.size w w':=by
 obtain ⟨⟨hk,_⟩,hB,hF,hfw⟩:=h
 have l1:=hB.1
 obtain ⟨ek,eb,ez⟩:=e
 obtain ⟨⟨a1,n1,c1⟩,⟨a2,n2,c2⟩⟩:=s
 unfold entV
 simp only at *
 have kK:=fun W=>l03Of_any ek W hk
 have kR:=fun W (hb:Below w.heap.size w W)=>l10Rising_is a1 n1 c1 eb W (hB.below hb)
 have kI:=fun W (hb:Below w.heap.size w W)=>l10Items_is a2 n2 c2 ez W (hF.below hb) hfw
 have bw:Below w.heap.size w (w.alloc (.cells #[.string ek,.slice a1 n1 c1,.slice a2 n2 c2] 74)):=by go_grown
 have pA:Blk (w.alloc (.cells #[.string ek,.slice a1 n1 c1,.slice a2 n2 c2] 74)) w.heap.size 74 [.string ek,.slice a1 n1 c1,.slice a2 n2 c2]:=blkAt _ _ _ rfl
 obtain ⟨fin,hfin⟩:∃ fin,fin=entOk (ek,eb,ez):=⟨_,rfl⟩
 rw [← hfin]
 have HF:Hid (fin=(keyOk9 ek && (riseB eb && (riseI ez && decide (eb.length≤30))))):=hfin
 clear hfin hB hF hfw
 go_enter Tryz.func79,Tryz.ntmps79
 go_wp2_with fail
 refine (kK _).mono ?_
 rintro x w1 ⟨⟨z,⟨⟨t0a,t0n,t0c⟩,⟨t1a,t1n,t1c⟩,⟨t2a,t2n,t2c⟩,⟨t3a,t3n,t3c⟩⟩,rfl,_⟩,hb⟩
 have ut:S4.val ((t0a,t0n,t0c),(t1a,t1n,t1c),(t2a,t2n,t2c),(t3a,t3n,t3c))=.agg #[.slice t0a t0n t0c,.slice t1a t1n t1c,.slice t2a t2n t2c,.slice t3a t3n t3c]:=rfl
 rw [ut]
 clear ut kK
 have bA:Below w1.heap.size w1 (w1.alloc (.cells #[.slice t0a t0n t0c,.slice t1a t1n t1c,.slice t2a t2n t2c,.slice t3a t3n t3c] 123)):=by go_grown
 replace bw:=bel8 bw (bel8 hb bA)
 replace pA:=pA.below (bel8 hb bA)
 clear hb bA
 have y1:=pA.cell 1
 simp only [List.getElem?_cons_zero,List.getElem?_cons_succ] at y1
 cases hK:keyOk9 ek
 ·have HR:Hid (fin=false):=by rw [Hid,HF.out,hK];rfl
  clear HF hK kR kI
  go_wp2
  go_ret
  exact ⟨by rw [HR.out];rfl,bw⟩
 ·go_wp2_with fail
  generalize (w1.alloc (.cells #[.slice t0a t0n t0c,.slice t1a t1n t1c,.slice t2a t2n t2c,.slice t3a t3n t3c] 123))=U at *
  refine (kR _ bw).mono ?_
  rintro x w2 ⟨rfl,hb⟩
  replace bw:=bel8 bw hb
  replace pA:=pA.below hb
  clear hb kR y1
  have y1:=pA.cell 1
  have y2:=pA.cell 2
  simp only [List.getElem?_cons_zero,List.getElem?_cons_succ] at y1 y2
  cases hR:riseB eb
  ·have HR:Hid (fin=false):=by rw [Hid,HF.out,hK,hR];rfl
   clear HF hK hR kI
   go_wp2
   go_ret
   exact ⟨by rw [HR.out];rfl,bw⟩
  ·go_wp2_with fail
   refine (kI _ bw).mono ?_
   rintro x w3 ⟨rfl,hb⟩
   replace bw:=bel8 bw hb
   replace pA:=pA.below hb
   clear hb kI y1 y2
   have y1:=pA.cell 1
   simp only [List.getElem?_cons_zero,List.getElem?_cons_succ] at y1
   cases hI:riseI ez
   ·have HR:Hid (fin=false):=by rw [Hid,HF.out,hK,hR,hI];rfl
    clear HF hK hR hI
    go_wp2
    go_ret
    exact ⟨by rw [HR.out];rfl,bw⟩
   ·by_cases h30:eb.length≤30
    ·have HR:Hid (fin=true):=by rw [Hid,HF.out,hK,hR,hI,decide_eq_true h30];rfl
     have hle:decide ((n1:Int)≤30)=true:=by simp;omega
     clear HF hK hR hI h30
     go_wp2
     go_ret
     exact ⟨by rw [HR.out];rfl,bw⟩
    ·have HR:Hid (fin=false):=by rw [Hid,HF.out,hK,hR,hI,decide_eq_false h30];rfl
     have hle:decide ((n1:Int)≤30)=false:=by simp;omega
     clear HF hK hR hI h30
     go_wp2
     go_ret
     exact ⟨by rw [HR.out];rfl,bw⟩

end Go.Proofs.YtdopgkbegjfhjaaGreatDoor
