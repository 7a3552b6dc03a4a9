/-
  Joined: MrgB, SrtB, Kit8, RpG.
-/
import Derived.Shelf.SlSortCmp.Insertion
import Derived.Shelf.SlSortCmp.NoneTotal
import Derived.Shelf.Spec.SlicesGrow
import Derived.Laws.AppendOwnNone
import Derived.Lib.SliceRun
import Derived.Lib.Hide
import Derived.Stop.Asserts
import Derived.Recover
import Derived.Test.YtjgffnlmjmibgaaDoorN25
import Derived.Test.YtjgffnlmjmibgaaDoorN29

namespace Go.Proofs.YtjgffnlmjmibgaaDoor
set_option maxRecDepth 100000
set_option maxHeartbeats 16000000
open Go.RowKit
set_option linter.unusedVariables false
set_option linter.unusedSimpArgs false

def BugsOne (e:Ending) (w:World) (B:Nat) (zs:List I3):Prop:=∃ v,e=.returned v∧w.ownsRow B 40 3 v zs.length (flat zs)
theorem fits_put {zs:List I3} {x:I3} (h:∀ z ∈ zs,I3.fits z) (hx:I3.fits x):∀ z ∈ putB zs x,I3.fits z:=fun z hz=>by
 rcases mem_putB.1 hz with e | e
 ·exact h z e
 ·rw [e];exact hx
theorem fits_putAll {xs ys:List I3} (h:∀ z ∈ xs,I3.fits z) (k:∀ z ∈ ys,I3.fits z):∀ z ∈ putAll xs ys,I3.fits z:=fun z hz=>by
 rcases mem_putAll.1 hz with e | e
 ·exact h z e
 ·exact k z e
theorem putAll_snoc (out xs:List I3) {k:Nat} (hk:k<xs.length):putAll out (xs.take (k+1))=putB (putAll out (xs.take k)) (xs.getD k (0,0,0)):=by
 unfold putAll
 rw [List.take_add_one,List.foldl_append,List.getElem?_eq_getElem hk]
 simp [List.getD,List.getElem?_eq_getElem hk]
theorem getD_memB {xs:List I3} {k:Nat} (hk:k<xs.length):xs.getD k (0,0,0) ∈ xs:=by
 rw [List.getD,List.getElem?_eq_getElem hk,Option.getD_some]
 exact List.getElem_mem hk
def Under (w wr:World) (v:Value) (zs:List I3):Prop:=(∃ g c,v=.slice (some ⟨g,0,none⟩) zs.length c)∧wr.ownsRow w.heap.size 40 3 v zs.length (flat zs)∧(∀ z ∈ zs,I3.fits z)∧zs.length≤1000000

theorem l04Merge_is (a0:Option Addr) (n0 c0:Nat) (xs:List I3) (a1:Option Addr) (n1 c1:Nat) (ys:List I3) (w:World) (h0:Instrs w a0 n0 c0 xs) (h1:Instrs w a1 n1 c1 ys) (m0:n0≤400000) (m1:n1≤400000) :
  Calls Tryd.prog 72 #[.slice a0 n0 c0,.slice a1 n1 c1] w fun e w'=>BugsOne e w' w.heap.size (mergeB xs ys)∧Below w.heap.size w w':=by
 have l0:=h0.1
 have l1:=h1.1
 have f0:=h0.2.2.2.1
 have f1:=h1.2.2.2.1
 have q0:Under w (w.alloc (.cells #[] 40)) (.slice (some ⟨w.heap.size,0,none⟩) 0 0) []:=⟨⟨_,_,rfl⟩,own_emptyB w 40 3 w.heap.size (Nat.le_refl _),by simp,by simp⟩
 have bw0:Below w.heap.size w (w.alloc (.cells #[] 40)):=by go_grown
 go_enter Tryd.func72,Tryd.ntmps72
 go_wp2_with fail
 generalize w.alloc (.cells #[] 40)=W0 at *
 go_loopw [5,6] (fun so si wr=>∃ (k:Nat) (v:Value),v=so∧k≤n0∧si=.int .i64 k∧Under w wr v (putAll [] (xs.take k))∧Below w.heap.size w wr) (fun _ si _=>n0 - (intOf si).toNat)
 case atStart=>exact ⟨0,_,rfl,by omega,rfl,q0,bw0⟩
 case round =>
  clear q0 bw0
  obtain ⟨k,so,rfl,hk,rfl,⟨⟨g,c,rfl⟩,hq,hf,hz⟩,bw⟩:=hrel
  by_cases hlt:k<n0
  ·obtain ⟨zs,hzs⟩:∃ zs,zs=putAll [] (xs.take k):=⟨_,rfl⟩
   rw [← hzs] at hq hf hz
   try rw [← hzs]
   have hZ:=Instrs.of_owns hq rfl hf rfl
   obtain ⟨_,_,_,_,hcase⟩:=h0.below bw
   rcases hcase with e0 | ⟨b,off,rfl,hb,hc⟩
   ·omega
   obtain ⟨d0,d1,d2⟩:=hc k hlt
   clear hc hb
   obtain ⟨x,hx⟩:∃ x,x=xs.getD k (0,0,0):=⟨_,rfl⟩
   have hfx:I3.fits x:=by rw [hx];exact f0 _ (getD_memB (by omega))
   have hnew:putB zs x=putAll [] (xs.take (k+1)):=by rw [hzs,hx];exact (putAll_snoc [] xs (by omega)).symm
   rw [← hx] at d0 d1 d2
   have HN:Hid (putB zs x=putAll [] (xs.take (k+1))):=hnew
   have hzl:zs.length≤k:=by rw [hzs];have:=putAll_len (xs.take k) [];simp at this;omega
   clear hx hnew hzs
   have kP:=l04Put_is g 0 zs.length c zs x wr hZ (by omega)
   have hpl:=putB_len zs x
   have hpf:=fits_put hf hfx
   have hp0:0<(putB zs x).length:=List.length_pos_of_mem (mem_putB.2 (.inr rfl))
   generalize zs.length=m at *
   obtain ⟨x0,x1,x2⟩:=x
   unfold I3.val at kP
   simp only at d0 d1 d2 kP
   clear hZ hq
   have hlt':(k:Int)<(n0:Int):=by omega
   have hk0:(0:Int)≤(k:Int):=by omega
   go_wp2_with fail
   refine kP.mono ?_
   rintro e w1 ⟨⟨v1,rfl,hq1⟩,hb1⟩
   clear kP d0 d1 d2
   have bw1:=bel_trans bw hb1
   obtain ⟨g1,e1,rfl⟩:=own_someB hq1 hp0
   have hU:Under w w1 (.slice (some ⟨g1,0,none⟩) (putB zs (x0,x1,x2)).length e1) (putAll [] (xs.take (k+1))):=by
    rw [← HN.out]
    exact ⟨⟨_,_,rfl⟩,own_lowerB hq1 bw.size,hpf,by omega⟩
   generalize (putB zs (x0,x1,x2)).length=m1 at *
   clear hq1 hpf
   go_wp2
   go_roundw
   case rel=>exact ⟨k+1,_,rfl,by omega,by go_num,hU,bw1⟩
   case measure=>simp [intOf];omega
  ·obtain rfl:k=n0:=by omega
   have hU:Under w wr (.slice (some ⟨g,0,none⟩) (putAll [] (xs.take k)).length c) (putAll (putAll [] xs) (ys.take 0)):=by
    have e:xs.take k=xs:=List.take_of_length_le (by omega)
    rw [e] at hq hf hz ⊢
    exact ⟨⟨_,_,rfl⟩,hq,hf,hz⟩
   have hal:(putAll [] xs).length≤k:=by have:=putAll_len xs [];simp at this;omega
   have haf:∀ z ∈ putAll [] xs,I3.fits z:=fits_putAll (by simp) f0
   generalize (putAll [] (xs.take k)).length=m at *
   clear hq hf hz h0
   go_wp2_with fail
   go_loopw [5,7] (fun so si wr=>∃ (j:Nat) (v:Value),v=so∧j≤n1∧si=.int .i64 j∧Under w wr v (putAll (putAll [] xs) (ys.take j))∧Below w.heap.size w wr) (fun _ si _=>n1 - (intOf si).toNat)
   case atStart=>exact ⟨0,_,rfl,by omega,rfl,hU,bw⟩
   case round =>
    clear hU bw
    obtain ⟨j,so,rfl,hj,rfl,⟨⟨g,c,rfl⟩,hq,hf,hz⟩,bw⟩:=hrel
    by_cases hltj:j<n1
    ·obtain ⟨zs,hzs⟩:∃ zs,zs=putAll (putAll [] xs) (ys.take j):=⟨_,rfl⟩
     rw [← hzs] at hq hf hz
     try rw [← hzs]
     have hZ:=Instrs.of_owns hq rfl hf rfl
     obtain ⟨_,_,_,_,hcase⟩:=h1.below bw
     rcases hcase with e0 | ⟨b,off,rfl,hb,hc⟩
     ·omega
     obtain ⟨d0,d1,d2⟩:=hc j hltj
     clear hc hb
     obtain ⟨x,hx⟩:∃ x,x=ys.getD j (0,0,0):=⟨_,rfl⟩
     have hfx:I3.fits x:=by rw [hx];exact f1 _ (getD_memB (by omega))
     have hnew:putB zs x=putAll (putAll [] xs) (ys.take (j+1)):=by rw [hzs,hx];exact (putAll_snoc _ ys (by omega)).symm
     rw [← hx] at d0 d1 d2
     have HN:Hid (putB zs x=putAll (putAll [] xs) (ys.take (j+1))):=hnew
     have hzl:zs.length≤k+j:=by rw [hzs];have:=putAll_len (ys.take j) (putAll [] xs);simp at this;omega
     clear hx hnew hzs
     have kP:=l04Put_is g 0 zs.length c zs x _ hZ (by omega)
     have hpl:=putB_len zs x
     have hpf:=fits_put hf hfx
     have hp0:0<(putB zs x).length:=List.length_pos_of_mem (mem_putB.2 (.inr rfl))
     generalize zs.length=mm at *
     obtain ⟨x0,x1,x2⟩:=x
     unfold I3.val at kP
     simp only at d0 d1 d2 kP
     clear hZ hq
     have hlt':(j:Int)<(n1:Int):=by omega
     have hk0:(0:Int)≤(j:Int):=by omega
     go_wp2_with fail
     refine kP.mono ?_
     rintro e w1 ⟨⟨v1,rfl,hq1⟩,hb1⟩
     clear kP d0 d1 d2
     have bw1:=bel_trans bw hb1
     obtain ⟨g1,e1,rfl⟩:=own_someB hq1 hp0
     have hU:Under w w1 (.slice (some ⟨g1,0,none⟩) (putB zs (x0,x1,x2)).length e1) (putAll (putAll [] xs) (ys.take (j+1))):=by
      rw [← HN.out]
      exact ⟨⟨_,_,rfl⟩,own_lowerB hq1 bw.size,hpf,by omega⟩
     generalize (putB zs (x0,x1,x2)).length=m1 at *
     clear hq1 hpf
     go_wp2
     go_roundw
     case rel=>exact ⟨j+1,_,rfl,by omega,by go_num,hU,bw1⟩
     case measure=>simp [intOf];omega
    ·obtain rfl:j=n1:=by omega
     have e:ys.take j=ys:=List.take_of_length_le (by omega)
     rw [e] at hq hf hz
     try rw [e]
     obtain ⟨mm,hmm⟩:∃ mm,mm=(putAll (putAll [] xs) ys).length:=⟨_,rfl⟩
     rw [← hmm]
     have HQ:Hid (∀ e,e=.returned (.slice (some ⟨g,0,none⟩) mm c)→BugsOne e wr w.heap.size (mergeB xs ys)):=fun e he=>⟨_,he,by rw [hmm];exact hq⟩
     clear hq hmm hz
     go_wp2
     go_ret
     exact ⟨HQ.out _ rfl,bw⟩

open Go.RowKit Go.Sort Go.Shelf

def GoodS (a:Option Addr) (c:Nat):Prop:=(a=none→c=0)∧∀ x,a=some x→x.spot=none


theorem bel8 {a b c:World} (h:Below a.heap.size a b) (k:Below b.heap.size b c):Below a.heap.size a c:=h.trans (k.mono h.size)
theorem owns8 {B e k n:Nat} {v:Value} {xs:List Value} {w w':World} (h:w.ownsRow B e k v n xs) (hb:Below w.heap.size w w'):w'.ownsRow B e k v n xs:=
 h.kept (row:=none) ⟨hb.os,hb.tape,hb.output,hb.size,fun i hi _=>hb.block i hi⟩ (by cases v.ownBlock<;>simp)
theorem cell8 {w w':World} (h:Below w.heap.size w w') {p:Addr} {v:Value} (hv:w.cell? p=some v):w'.cell? p=some v:=by
 rw [h.cell (World.block_lt_of_cell? _ _ hv)]
 exact hv
theorem grown8 {w w':World} {row:Option Nat} (g:w.grownBy w' row) {p:Addr} {v:Value} (hc:w.cell? p=some v) (hne:some p.block≠row):w'.cell? p=some v:=by
 have hl:=World.block_lt_of_cell? _ _ hc
 rw [← hc]
 unfold World.cell?
 rw [g.block p.block hl hne]
theorem some8 {w:World} {B e s n:Nat} {v:Value} {cs:List Value} (h:w.ownsRow B e s v n cs) (hn:0<n):∃ g c,v=.slice (some ⟨g,0,none⟩) n c:=by
 rcases h.2 with ⟨rfl,h0⟩ | ⟨g,cap,cur,hv,_⟩
 ·omega
 ·exact ⟨g,cap,hv⟩
theorem slice8 {w:World} {B e s n:Nat} {v:Value} {cs:List Value} (h:w.ownsRow B e s v n cs):∃ a c,v=.slice a n c:=by
 rcases h.2 with ⟨rfl,h0⟩ | ⟨g,cap,cur,hv,_⟩
 ·subst h0;exact ⟨none,0,rfl⟩
 ·exact ⟨some ⟨g,0,none⟩,cap,hv⟩
theorem empty8 (w:World) (t s B:Nat) (hB:B≤w.heap.size):(w.alloc (.cells #[] t)).ownsRow B t s (.slice (some ⟨w.heap.size,0,none⟩) 0 0) 0 []:=World.ownsRow_lit w #[] 0 hB (by unfold maxLen;omega) (by simp)
theorem ints8 {w:World} {B n c:Nat} {a:Option Addr} {xs:List Int} (h:w.ownsRow B 3 1 (.slice a n c) n (xs.map (Value.int .i64))):Ints .i64 w a n c xs:=by
 rcases h.2 with ⟨e,h0⟩ | ⟨b,cc,cur,e,h1,h2,h3,h4⟩
 ·cases e
  have hl:=h.1
  exact ⟨by simpa using hl,Nat.le_refl _,by unfold maxLen;omega,.inl rfl⟩
 ·cases e
  exact Ints.of_owns h
theorem news8 {w:World} {b off n c:Nat} {xs:List Int} (h:Ints .i64 w (some ⟨b,off,none⟩) n c xs):∀ j u,(xs.map (Value.int .i64))[j]?=some u→w.cell? ((⟨b,off,none⟩:Addr).add j)=some u:=by
 intro j u hj
 obtain ⟨hl,_,_,hcase⟩:=h
 have hjl:j<xs.length:=by simpa using (List.getElem?_eq_some_iff.1 hj).1
 rcases hcase with h0 | ⟨b',off',he,hb,hc⟩
 ·omega
 ·cases he
  have:=hc j (by omega)
  have e:(⟨b,off,none⟩:Addr).add j=⟨b,off+j,none⟩:=by unfold Addr.add;split<;>simp_all
  rw [e,this]
  simp [List.getElem?_eq_getElem hjl] at hj
  simp [List.getD,List.getElem?_eq_getElem hjl,hj]
theorem one8 (xs:List Int):∀ u ∈ xs.map (Value.int .i64),u.oneCell'=true:=by
 intro u hu
 obtain ⟨x,_,rfl⟩:=List.mem_map.1 hu
 rfl
theorem step_app8 {P:Program} {ops:Array Oper} {o:Oper} {a:Act} {w:World} {K:Act→World→Prop} {Q:Exit→Act→World→Prop} {E:Prop}
  (hg:o.guard=none) (s x:Operand) (t:TypeId) (hop:o.op=Op.call { callee:=Callee.builtin Builtin.append,args:=#[s,x],argTypes:=#[t,t] })
  (base:Nat) (e:TypeId) (i:TypeInfo) (z:Value) (size bytes:Nat) (h1:P.underlying t=some (.slice e)) (h2:P.info? e=some i) (h3:i.zero=some z) (h4:i.size=size) (h5:i.bytes=bytes) (h6:z.cells.size=size) (h7:0<size)
  (v:Value) (n:Nat) (olds:List Value) (hs:a.eval s=v) (hown:w.ownsRow base e size v n olds)
  (ad:Addr) (m c:Nat) (news:List Value) (hx:a.eval x=.slice (some ad) m c) (hn:news.length=m*size) (hc:∀ j u,news[j]?=some u→w.cell? (ad.add j)=some u) (h1c:∀ u ∈ news,u.oneCell'=true)
  (b1:n+m≤maxLen) (b2:(n+m)*bytes≤140737488355328) (hbw:base≤w.heap.size)
  (hK:∀ v' w',w'.ownsRow base e size v' (n+m) (olds++news)→w.grownBy w' v.ownBlock→(v'.ownBlock=v.ownBlock∨v'.ownBlock=some w.heap.size)→K (a.put o.dst v') w') :
  if Region.wanted o (yielded ops a.tmps)=true then Oper.wp P o a w K Q else E:=by
 have hw:Region.wanted o (yielded ops a.tmps)=true:=by simp [Region.wanted,hg]
 rw [if_pos hw]
 obtain ⟨v',w',hrun,r1,r2,_,r4⟩:=run_append_own_at (P:=P) (w:=w) base t o.type e i z size bytes h1 h2 h3 h4 h5 h6 h7 v n olds hown ad m c news hn hc h1c b1 b2 hbw
 subst hs
 unfold Oper.wp
 simp [execOp,hop,resolve,invoke,builtin,hx,hrun,Result.andThen]
 exact hK v' w' r1 r2 r4


theorem bugs_sliceR {w:World} {B:Nat} {v:Value} {xs:List I3} (h:w.ownsRow B 40 3 v xs.length (flat xs)) (hf:∀ x ∈ xs,I3.fits x):∃ a cap,v=.slice a xs.length cap∧Instrs w a xs.length cap xs∧GoodS a cap:=by
 rcases h.2 with ⟨rfl,h0⟩ | ⟨g,cap,cur,hv,_⟩
 ·exact ⟨none,0,by rw [h0],⟨rfl,by omega,by unfold maxLen;omega,hf,.inl h0⟩,fun _=>rfl,fun x hx=>by cases hx⟩
 ·subst hv
  exact ⟨_,_,rfl,Instrs.of_owns h rfl hf rfl,(fun h=>by cases h),fun x hx=>by cases hx;rfl⟩

end Go.Proofs.YtjgffnlmjmibgaaDoor
