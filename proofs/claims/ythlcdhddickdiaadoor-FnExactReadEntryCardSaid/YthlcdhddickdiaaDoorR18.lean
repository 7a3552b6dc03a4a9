/-
  Joined: MarkV, RdF.
-/
import Derived.Test.YthlcdhddickdiaaDoorR14

namespace Go.Proofs.YthlcdhddickdiaaDoor
set_option maxRecDepth 100000
set_option maxHeartbeats 16000000
open Go.RowKit

theorem Sl.some_or {w:World} {B:Nat} {s:Sl} {zs:List Int} (h:OwnI w B s zs):(s=(none,0,0)∧zs=[])∨∃ g n c,s=(some ⟨g,0,none⟩,n,c):=by
 obtain ⟨a,n,c⟩:=s
 unfold OwnI at h
 simp only at h
 rcases h.2 with ⟨h0,h1⟩ | ⟨g,cap,cur,hv,_⟩
 ·cases h0
  exact .inl ⟨rfl,by simpa using h.1⟩
 ·cases hv
  exact .inr ⟨g,n,c,rfl⟩

theorem OwnI.len {w:World} {B:Nat} {s:Sl} {zs:List Int} (h:OwnI w B s zs):zs.length=s.2.1:=by
 have:=h.1
 simpa using this
theorem OwnI.kept {w w':World} {B:Nat} {s s':Sl} {zs:List Int} (h:OwnI w B s zs) (hg:w.grownBy w' (Value.slice s'.1 s'.2.1 s'.2.2).ownBlock) (ha:Apart s s'):OwnI w' B s zs:=by
 refine World.ownsRow.kept h hg ?_
 cases hb:(Value.slice s.1 s.2.1 s.2.2).ownBlock with
 | none=>exact .inl rfl
 | some g=>exact .inr fun e=>ha g hb e.symm
theorem Apart.symm {s s':Sl} (h:Apart s s'):Apart s' s:=fun g h1 h2=>h g h2 h1

set_option linter.unusedVariables false
set_option linter.unusedSimpArgs false

def OwnO (w:World) (B T:Nat) (s:Sl) (zs:List Int):Prop:=zs.length=s.2.1∧s.2.1≤s.2.2∧s.2.2≤maxLen∧(s.1=none→s.2.2=0)∧(s.2.1=0∨∃ g off cs,s.1=some ⟨g,off,none⟩∧B≤g∧g<T∧Blk w g 3 cs∧∀ t,t<s.2.1→cs[off+t]?=some (.int .i64 (zs.getD t 0)))
theorem OwnO.below {w w':World} {B T:Nat} {s:Sl} {zs:List Int} (h:OwnO w B T s zs) (hb:Below w.heap.size w w'):OwnO w' B T s zs:=by
 obtain ⟨h1,h2,h3,h4,h5⟩:=h
 refine ⟨h1,h2,h3,h4,?_⟩
 rcases h5 with h5 | ⟨g,off,cs,e,hg,ht,hB,hc⟩
 ·exact .inl h5
 ·exact .inr ⟨g,off,cs,e,hg,ht,hB.below hb,hc⟩
theorem OwnO.ints {w:World} {B T:Nat} {s:Sl} {zs:List Int} (h:OwnO w B T s zs):Ints .i64 w s.1 s.2.1 s.2.2 zs:=by
 obtain ⟨h1,h2,h3,h4,h5⟩:=h
 refine ⟨h1,h2,h3,?_⟩
 rcases h5 with h5 | ⟨g,off,cs,e,hg,ht,hB,hc⟩
 ·exact .inl h5
 ·exact .inr ⟨g,off,e,hB.lt,fun t ht=>by rw [hB.cell];exact hc t ht⟩
theorem OwnO.nil9 (w:World) (B T:Nat):OwnO w B T (none,0,0) []:=⟨rfl,Nat.le_refl _,by show (0:Nat)≤maxLen;unfold maxLen;omega,fun _=>rfl,.inl rfl⟩
def OwnF (w:World) (B T:Nat) (s:Sl2) (e:E3):Prop:=w.ownsRow B 93 3 (.slice s.1.1 s.1.2.1 s.1.2.2) e.2.1.length (flat e.2.1)∧(∀ x,(Value.slice s.1.1 s.1.2.1 s.1.2.2).ownBlock=some x→x<T)∧OwnO w B T s.2 e.2.2
theorem OwnF.below {w w':World} {B T:Nat} {s:Sl2} {e:E3} (h:OwnF w B T s e) (hb:Below w.heap.size w w'):OwnF w' B T s e:=⟨owns8 h.1 hb,h.2.1,h.2.2.below hb⟩
theorem OwnF.mem {w:World} {B T:Nat} {s:Sl2} {e:E3} (h:OwnF w B T s e) (hf:e.fits):Emem w s e:=by
 obtain ⟨q1,_,q2⟩:=h
 obtain ⟨a,cap,e1,hI⟩:=Instrs.of_ownB9 q1 hf.2.1
 injection e1 with e1 e2 e3
 have hn:=own_nil0 q1
 refine ⟨⟨hf.1,?_⟩,?_,⟨q2.ints,hf.2.2⟩⟩
 ·exact ⟨hn,q2.2.2.2.1⟩
 ·rw [e1,e2,e3];exact hI

theorem markIntS_off (g off n cap:Nat) (k:Int) (cs:List Value) (w:World) (hk0:0≤k) (hk:k≤1000000000) (hn:n≤1048576) (ho:Blk w g 3 cs) (hc:∀ t,t<n→∃ u,cs[off+t]?=some u) :
  Calls Tryd.prog 45 #[.slice (some ⟨g,off,none⟩) n cap,.int .i64 k] w fun e w'=>e=.returned (.int .i64 (k+n)) ∧
   (∃ cs',Blk w' g 3 cs'∧∀ t,t<n→cs'[off+t]?=some (.int .i64 (k+t)))∧w.grownBy w' (some g):=by
 have HC:Hid (∀ t,t<n→off+t<cs.length):=fun t ht=>by
  obtain ⟨u,hu⟩:=hc t ht
  exact (List.getElem?_eq_some_iff.1 hu).1
 clear hc
 go_enter Tryd.func45,Tryd.ntmps45
 go_wp2
 go_loopw [1,5] (fun sk si wr=>∃ j:Nat,j≤n∧si=.int .i64 j∧sk=.int .i64 (k+j)∧Hid (∃ cs',Blk wr g 3 cs'∧cs'.length=cs.length∧∀ t,t<j→cs'[off+t]?=some (.int .i64 (k+t)))∧w.grownBy wr (some g)) (fun _ si _=>n - (intOf si).toNat)
 case atStart=>exact ⟨0,by omega,rfl,by go_num,⟨cs,ho,rfl,fun t ht=>by omega⟩,World.grownBy.refl _ _⟩
 case round =>
  obtain ⟨j,hj,rfl,rfl,hr,hbel⟩:=hrel
  by_cases hlt:j<n
  ·obtain ⟨cs',hB,hl,hm⟩:=hr.out
   have hf:=hB.frozen (off+j)
   have hold:∃ u,wr.cell? ⟨g,off+j,none⟩=some u:=by
    rw [hB.cell]
    exact ⟨_,List.getElem?_eq_getElem (by rw [hl];exact HC.out j hlt)⟩
   obtain ⟨u,hu⟩:=hold
   have hst:Hid (∃ cs',Blk (wr.setCell ⟨g,off+j,none⟩ (.int .i64 (k+j))) g 3 cs'∧cs'.length=cs.length∧∀ t,t<j+1→cs'[off+t]?=some (.int .i64 (k+t))):=by
    refine ⟨cs'.set (off+j) (.int .i64 (k+j)),hB.set _ _,by rw [List.length_set];exact hl,fun t ht=>?_⟩
    by_cases e:t=j
    ·subst e
     rw [List.getElem?_set_self (by rw [hl];exact HC.out t hlt)]
    ·rw [List.getElem?_set_ne (by omega)]
     exact hm t (by omega)
   have hb1:=grownBy_tr hbel (grownBy_set wr g (off+j) (.int .i64 (k+j)))
   clear hr ho hB hl hm
   go_wp2
   go_roundw
   case rel=>exact ⟨j+1,by omega,by go_num,by go_num,hst,hb1⟩
   case measure=>simp [intOf];omega
  ·obtain rfl:j=n:=by omega
   obtain ⟨cs',hB,hl,hm⟩:=hr.out
   have hfin:Hid (∃ cs',Blk wr g 3 cs'∧∀ t,t<j→cs'[off+t]?=some (.int .i64 (k+t))):=⟨cs',hB,hm⟩
   clear hr hB hl hm
   go_wp2
   go_ret
   exact ⟨rfl,hfin.out,hbel⟩
theorem mkTo_getD:∀ (k:Int) (xs:List Int) (n t:Nat),t<n→t<xs.length→(mkTo k xs n).getD t 0=k+t
 | k,[],n,t,h,h2=>by simp at h2
 | k,x::xs,0,t,h,h2=>by omega
 | k,x::xs,n+1,0,h,h2=>by simp [mkTo]
 | k,x::xs,n+1,t+1,h,h2=>by
  have:=mkTo_getD (k+1) xs n t (by omega) (by simpa using h2)
  simp only [mkTo,List.getD_cons_succ,this]
  push_cast
  omega

theorem markFoot_any (B T:Nat) (s:Sl) (k:Int) (zs:List Int) (w:World) (hk0:0≤k) (hk:k≤1000000000) (hn:zs.length≤1048576) (h:OwnO w B T s zs) (hB:B≤w.heap.size) :
  Calls Tryd.prog 45 #[.slice s.1 s.2.1 s.2.2,.int .i64 k] w fun e w'=>e=.returned (.int .i64 (k+zs.length))∧OwnO w' B T s (mkTo k zs zs.length)∧Mid9 B T w w'∧(w=w'∨∃ g off,s.1=some ⟨g,off,none⟩∧(∃ cs,Blk w g 3 cs)∧w.grownBy w' (some g)):=by
 obtain ⟨a,n,c⟩:=s
 obtain ⟨h1,h2,h3,h4,h5⟩:=h
 simp only at *
 rcases h5 with h5 | ⟨g,off,cs,rfl,hg,ht,hB',hc⟩
 ·subst h5
  refine (markIntS_none a c k w).mono ?_
  rintro e w' ⟨rfl,rfl⟩
  have:zs=[]:=List.length_eq_zero_iff.1 h1
  subst this
  exact ⟨by simp,⟨rfl,h2,h3,h4,.inl rfl⟩,Mid9.refl _ _ _,.inl rfl⟩
 ·refine (markIntS_off g off n c k cs w hk0 hk (by omega) hB' (fun t ht=>⟨_,hc t ht⟩)).mono ?_
  rintro e w' ⟨rfl,⟨cs',hB2,hm⟩,hgr⟩
  refine ⟨by rw [h1],⟨by rw [mkTo_len];exact h1,h2,h3,h4,.inr ⟨g,off,cs',rfl,hg,ht,hB2,fun t ht=>?_⟩⟩,(Mid9.refl B T w).step (u:=.slice (some ⟨g,0,none⟩) 0 0) hgr hB (fun x hx=>by cases hx;exact hg) (fun x hx=>by cases hx;exact ht),.inr ⟨g,off,rfl,⟨cs,hB'⟩,hgr⟩⟩
  have ht':t<n:=ht
  rw [hm t ht',mkTo_getD k zs zs.length t (by omega) (by omega)]

theorem markEntry_off (B T:Nat) (s:Sl2) (k:Nat) (e:E3) (w:World) (hk:k≤100000000) (h1:e.2.1.length≤1048576) (h2:e.2.2.length≤1048576) (hB:B≤w.heap.size) (h:OwnF w B T s e) :
  Calls Tryd.prog 15 #[entV e.1 s,.int .i64 k] w fun x w'=>x=.returned (.int .i64 ((k:Int)+e.2.1.length*3+e.2.2.length))∧OwnF w' B T s (mkF k e)∧Mid9 B T w w':=by
 obtain ⟨⟨a1,n1,c1⟩,⟨a2,n2,c2⟩⟩:=s
 obtain ⟨ek,eb,ez⟩:=e
 unfold entV mkF
 simp only at *
 have bw:Below w.heap.size w (w.alloc (.cells #[.string ek,.slice a1 n1 c1,.slice a2 n2 c2] 39)):=by go_grown
 have pA:Blk (w.alloc (.cells #[.string ek,.slice a1 n1 c1,.slice a2 n2 c2] 39)) w.heap.size 39 [.string ek,.slice a1 n1 c1,.slice a2 n2 c2]:=blkAt _ _ _ rfl
 have hm:Mid9 B T w (w.alloc (.cells #[.string ek,.slice a1 n1 c1,.slice a2 n2 c2] 39)):=(Mid9.refl B T w).bel bw hB
 replace h:=h.below bw
 have hs:B≤(w.alloc (.cells #[.string ek,.slice a1 n1 c1,.slice a2 n2 c2] 39)).heap.size:=Nat.le_trans hB bw.size
 go_enter Tryd.func15,Tryd.ntmps15
 go_wp2_with fail
 generalize (w.alloc (.cells #[.string ek,.slice a1 n1 c1,.slice a2 n2 c2] 39))=U at *
 obtain ⟨q1,t1,q2⟩:=h
 simp only at q1 q2
 refine (markBugS_any B (.slice a1 n1 c1) k eb U (by omega) (by omega) h1 q1).mono ?_
 rintro x W2 ⟨rfl,hrow,hg⟩
 have hm2:=hm.step hg hs (fun y hy=>(q1.lt y hy).1) t1
 have pA2:=pA.kept hg (own_ne_blk9' q1 pA (by decide))
 have q2':OwnO W2 B T (a2,n2,c2) ez:=by
  obtain ⟨y1,y2,y3,y4,y5⟩:=q2
  refine ⟨y1,y2,y3,y4,?_⟩
  rcases y5 with y5 | ⟨g,off,cs,e,hg',ht,hB',hc⟩
  ·exact .inl y5
  ·exact .inr ⟨g,off,cs,e,hg',ht,hB'.kept hg (own_ne_blk9' q1 hB' (by decide)),hc⟩
 have hs2:B≤W2.heap.size:=Nat.le_trans hB hm2.1.size
 clear hg hm pA q1 q2 hs
 have y2:=pA2.cell 2
 simp only [List.getElem?_cons_zero,List.getElem?_cons_succ] at y2
 go_wp2_with fail
 refine (markFoot_any B T (a2,n2,c2) ((k:Int)+eb.length*3) ez W2 (by omega) (by omega) h2 q2' hs2).mono ?_
 rintro x W3 ⟨rfl,hrow2,hm4,hor⟩
 have hm3:Mid9 B T w W3:=⟨⟨hm4.1.os.trans hm2.1.os,hm4.1.tape.trans hm2.1.tape,hm4.1.output.trans hm2.1.output,Nat.le_trans hm2.1.size hm4.1.size,fun j hj=>(hm4.1.block j hj).trans (hm2.1.block j hj)⟩,fun j hj hl=>(hm4.2 j hj (Nat.lt_of_lt_of_le hl hm2.1.size)).trans (hm2.2 j hj hl)⟩
 have hrow':W3.ownsRow B 93 3 (.slice a1 n1 c1) eb.length (flat (mkI (k:Int) eb eb.length)):=by
  rcases hor with rfl | ⟨g,off,_,⟨cs,hB'⟩,hgr⟩
  ·exact hrow
  ·exact hrow.kept hgr (.inr (own_ne_blk9' hrow hB' (by decide)))
 have hfin:OwnF W3 B T ((a1,n1,c1),(a2,n2,c2)) (ek,mkI (k:Int) eb eb.length,mkTo ((k:Int)+eb.length*3) ez ez.length):=by
  refine ⟨?_,t1,hrow2⟩
  simp only
  rw [mkI_len]
  exact hrow'
 clear hrow' hrow2 hrow hor q2' pA2 y2 hm4 hm2
 go_wp2
 go_ret
 exact ⟨rfl,hfin,hm3⟩

theorem heldEntry_off (B T:Nat) (s:Sl2) (k:Nat) (e:E3) (w:World) (hk:k≤100000000) (h1:e.2.1.length≤1048576) (h2:e.2.2.length≤1048576) (h:OwnF w B T s (mkF k e)) (key:ByteArray) :
  Calls Tryd.prog 19 #[entV key s,.int .i64 k] w fun x w'=>x=.returned (.int .i64 ((k:Int)+e.2.1.length*3+e.2.2.length))∧Below w.heap.size w w':=by
 obtain ⟨⟨a1,n1,c1⟩,⟨a2,n2,c2⟩⟩:=s
 obtain ⟨ek,eb,ez⟩:=e
 unfold mkF at h
 have bw:Below w.heap.size w (w.alloc (.cells #[.string key,.slice a1 n1 c1,.slice a2 n2 c2] 39)):=by go_grown
 replace h:=h.below bw
 obtain ⟨q1,_,q2⟩:=h
 have hI:=q2.ints
 have hn2:ez.length=n2:=by have:=q2.1;simp only at this;rw [mkTo_len] at this;exact this
 simp only at *
 rw [mkI_len] at q1
 unfold entV
 simp only
 have kB:=heldBugS_any B (.slice a1 n1 c1) k eb _ (by omega) (by omega) h1 q1
 have kF:=heldIntS_yes a2 n2 c2 ((k:Int)+eb.length*3) _ _ (by omega) (by omega) (by omega) hI (fun i hi=>mkTo_getD _ _ _ i (by omega) (by omega))
 rw [← hn2] at kF
 have n1':decide ((k:Int)+eb.length*3<0)=false:=by simp;omega
 have n2':decide ((k:Int)+eb.length*3+ez.length<0)=false:=by simp;omega
 clear q1 q2 hI
 subst hn2
 go_enter Tryd.func19,Tryd.ntmps19
 go_wp2_with fail
 refine kB.mono ?_
 rintro x W2 ⟨rfl,rfl⟩
 go_wp2_with fail
 refine kF.mono ?_
 rintro x W2 ⟨rfl,rfl⟩
 go_wp2
 go_ret
 exact ⟨rfl,bw⟩
end Go.Proofs.YthlcdhddickdiaaDoor
