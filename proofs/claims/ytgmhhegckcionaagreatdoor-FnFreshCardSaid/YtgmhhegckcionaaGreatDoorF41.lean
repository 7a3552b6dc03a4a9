/-
  Joined: VisD, ChkX, CksS.
-/
import Derived.Test.YtgmhhegckcionaaGreatDoorF12
import Derived.Test.YtgmhhegckcionaaGreatDoorF40

namespace Go.Proofs.YtgmhhegckcionaaGreatDoor
set_option maxRecDepth 100000
set_option maxHeartbeats 16000000
open Go.RowKit
set_option linter.unusedVariables false
set_option linter.unusedSimpArgs false

def PC (cs:List Value):Prop:=∀ j u v,cs[j]?=some u→cs[j+1]?=some v→¬ ((∃ k z,u=Value.int k z)∧∃ k z,v=Value.int k z)
theorem Mg (v:Value) (z:Int) (h:∀ k z,v≠.int k z):PC [v,.int .i64 z]:=by
 intro j u x hu hx
 match j with
 | 0 =>
  simp only [List.getElem?_cons_zero,Option.some.injEq] at hu
  subst hu
  rintro ⟨⟨k,y,e⟩,_⟩
  exact h k y e
 | 1=>simp at hx
 | j+2=>simp at hx
theorem PG {w:World} {X T b o:Nat} {cs:List Value} (hB:Blk w X T cs) (hn:PC cs) {k:IntKind} {v v':Int} (h:w.cell? ⟨b,o,none⟩=some (.int k v)) (h':w.cell? ⟨b,o+1,none⟩=some (.int k v')):b≠X:=by
 rintro rfl
 rw [hB.cell] at h h'
 exact hn o _ _ h h' ⟨⟨_,_,rfl⟩,_,_,rfl⟩
theorem Yn.box2 {k:IntKind} {w w':World} {a:Option Addr} {n c X T:Nat} {zs:List Int} {cs:List Value} (h:Yn k w a n c zs) (h2:2≤n) (hB:Blk w X T cs) (hn:PC cs) (hg:w.grownBy w' (some X)):Yn k w' a n c zs:=by
 obtain ⟨h1,h3,h4,h5⟩:=h
 refine ⟨h1,h3,h4,?_⟩
 rcases h5 with h5 | ⟨b,off,ha,hlt,hc⟩
 ·exact .inl h5
 have hne:b≠X:=PG hB hn (o:=off) (by have h8:=hc 0 (by omega);rw [Nat.add_zero] at h8;exact h8) (hc 1 (by omega))
 exact .inr ⟨b,off,ha,by have:=hg.size;omega,fun t ht=>Zp hg (hc t ht) (fun e=>hne (by cases e;rfl))⟩
theorem Zr.box2 {w w':World} {a:Option Addr} {n c X T:Nat} {xs:List I3} {cs:List Value} (h:Zr w a n c xs) (hB:Blk w X T cs) (hn:PC cs) (hg:w.grownBy w' (some X)):Zr w' a n c xs:=by
 obtain ⟨h1,h2,h3,h0,h4⟩:=h
 refine ⟨h1,h2,h3,h0,?_⟩
 rcases h4 with h4 | ⟨b,off,ha,hlt,hc⟩
 ·exact .inl h4
 by_cases h9:n=0
 ·exact .inl h9
 have hc0:=hc 0 (by omega)
 have hne:b≠X:=PG hB hn (o:=off) (by have h8:=hc0.1;rw [Nat.zero_mul,Nat.add_zero] at h8;exact h8) (by have h8:=hc0.2.1;rw [Nat.zero_mul,Nat.add_zero] at h8;exact h8)
 exact .inr ⟨b,off,ha,by have:=hg.size;omega,fun t ht=>⟨Zp hg (hc t ht).1 (fun e=>hne (by cases e;rfl)),Zp hg (hc t ht).2.1 (fun e=>hne (by cases e;rfl)),Zp hg (hc t ht).2.2 (fun e=>hne (by cases e;rfl))⟩⟩
theorem YK.box2 {w w':World} {s:Sl2} {e:E3} {X T:Nat} {cs:List Value} (h:YK w s e) (h2:2≤e.2.2.length) (hB:Blk w X T cs) (hn:PC cs) (hg:w.grownBy w' (some X)):YK w' s e:=⟨h.1,h.2.1.box2 hB hn hg,h.2.2.1.box2 (by have:=h.2.2.1.1;omega) hB hn hg,h.2.2.2⟩
theorem Y6.box2 {w w':World} {a:Option Addr} {n c X T:Nat} {es:List E3} {cs:List Value} (h:Y6 w a n c es) (hX:ZH a n X) (h2:∀ e ∈ es,2≤e.2.2.length) (hB:Blk w X T cs) (hn:PC cs) (hg:w.grownBy w' (some X)):Y6 w' a n c es:=by
 obtain ⟨h1,h3,h4,h5⟩:=h
 refine ⟨h1,h3,h4,?_⟩
 rcases h5 with h5 | ⟨b,off,ha,hlt,hc⟩
 ·exact .inl h5
 refine .inr ⟨b,off,ha,by have:=hg.size;omega,fun t ht=>?_⟩
 have hne:b≠X:=by
  rcases hX with h9 | h9
  ·omega
  exact h9 b off ha
 obtain ⟨s,c0,c1,c2,hm⟩:=hc t ht
 exact ⟨s,Zp hg c0 (fun e=>hne (by cases e;rfl)),Zp hg c1 (fun e=>hne (by cases e;rfl)),Zp hg c2 (fun e=>hne (by cases e;rfl)),hm.box2 (by rw [Y5 (show t<es.length by omega)];exact h2 _ (List.getElem_mem _)) hB hn hg⟩


theorem RM:∀ {xs ys:List Int},xs.Nodup→(∀ x ∈ xs,x ∈ ys)→xs.length≤ys.length
 | [],ys,_,_=>Nat.zero_le _
 | x::xs,ys,hn,hs=>by
  obtain ⟨h1,h2⟩:=List.nodup_cons.1 hn
  have hx:=hs x (List.mem_cons_self ..)
  obtain ⟨ps,qs,rfl⟩:=List.append_of_mem hx
  have h3:∀ y ∈ xs,y ∈ ps++qs:=fun y hy=>by
   have h4:=hs y (List.mem_cons_of_mem _ hy)
   rcases List.mem_append.1 h4 with h5 | h5
   ·exact List.mem_append.2 (.inl h5)
   rcases List.mem_cons.1 h5 with h6 | h6
   ·subst h6;exact absurd hy h1
   exact List.mem_append.2 (.inr h6)
  have:=RM h2 h3
  simp only [List.length_append,List.length_cons] at this ⊢
  omega
def UL (e:E3):Prop:=e.2.2.Pairwise (· < ·)∧3≤e.2.2.length
theorem MK {m:V4} (hs:Zc m=true) (k:ByteArray) (b:List I3):UL (k,b,Zx m):=⟨VO hs,by show 3≤(Zx m).length;simp [Zx]⟩
theorem UL.merge {e:E3} (h:UL e) (zs:List Int) (k:ByteArray) (b:List I3):UL (k,b,Yx (e.2.2++zs)):=
 ⟨YQ _,Nat.le_trans h.2 (RM (VR h.1) (fun x hx=>(XV _ x).2 (List.mem_append.2 (.inl hx))))⟩
theorem NC {rec:V4→Zy→E3 × Zy × Bool}:∀ (ts:List (Int × V4)) (e:E3) (st:Zy),(∀ t ∈ ts,∀ st:Zy,(∀ x ∈ st.1,UL x)→∀ x ∈ (rec t.2 st).2.1.1,UL x)→(∀ x ∈ st.1,UL x)→UL e→((Yo rec ts e st).2.2=true→UL (Yo rec ts e st).1)∧∀ x ∈ (Yo rec ts e st).2.1.1,UL x
 | [],e,st,hr,ht,he=>⟨fun _=>he,ht⟩
 | t::ts,e,st,hr,ht,he=>by
  have h2:=hr t (List.mem_cons_self ..) st ht
  unfold Yo
  by_cases h9:(rec t.2 st).2.2=true
  ·rw [if_pos h9]
   exact NC ts _ _ (fun t' ht'=>hr t' (List.mem_cons_of_mem _ ht')) h2 (he.merge _ _ _)
  rw [if_neg h9]
  exact ⟨(fun h=>by cases h),h2⟩
theorem LQ {rows:List (List I3)} (hp:Zf rows=true):∀ (f:Nat) (m:V4) (st:Zy),Zc m=true→(∀ x ∈ st.1,UL x)→∀ x ∈ (ZG rows f m st).2.1.1,UL x
 | 0,m,st,hs,ht=>by unfold ZG;exact ht
 | f+1,m,st,hs,ht=>by
  obtain ⟨k1,k2⟩:=NC (rec:=ZG rows f) (nxM rows m) (Zt m,ZB rows m,Zx m) (st.1,st.2+1) (fun t htm st' ht'=>LQ hp f t.2 st' (XK hp hs t htm).1 ht') ht (MK hs _ _)
  unfold ZG
  by_cases h1:isE st.1 (Zt m)=true
  ·rw [if_pos h1];exact ht
  rw [if_neg h1]
  by_cases h2:st.1.length=2000
  ·rw [if_pos h2];exact ht
  rw [if_neg h2]
  generalize Yo (ZG rows f) (nxM rows m) (Zt m,ZB rows m,Zx m) (st.1,st.2+1)=R at *
  by_cases h3:R.2.2=true
  ·rw [if_pos h3]
   by_cases h4:R.2.1.1.length=2000
   ·rw [if_pos h4];exact k2
   rw [if_neg h4]
   intro x hx
   rcases WI hx with h9 | h9
   ·rw [h9];exact k1 h3
   exact k2 x h9
  rw [if_neg h3];exact k2


def NL (x:Ending) (w':World) (B:Nat) (r:E3 × Zy × Bool):Prop:=∃ (v:Value) (a':Option Addr) (n' c':Nat),x=.returned (.tuple #[.agg #[v,.int .i64 (r.2.1.2:Int)],.agg #[.slice a' n' c'],.bool r.2.2])∧w'.ownsRow B 103 3 v r.1.2.1.length (Zn r.1.2.1)∧Y6 w' a' n' c' r.2.1.1
theorem NL.mk9 {w':World} {B n' c':Nat} {v:Value} {a':Option Addr} {r:E3 × Zy × Bool} (hv:w'.ownsRow B 103 3 v r.1.2.1.length (Zn r.1.2.1)) (hA:Y6 w' a' n' c' r.2.1.1):NL (.returned (.tuple #[.agg #[v,.int .i64 (r.2.1.2:Int)],.agg #[.slice a' n' c'],.bool r.2.2])) w' B r:=⟨v,a',n',c',rfl,hv,hA⟩
def Bm (w:World) (a:Option Addr) (n c:Nat) (r:E3 × Zy × Bool) (W:World) (s7 s8 s9 s10:Value):Prop:=∃ (s:Sl2) (a':Option Addr) (n' c':Nat) (Y7 Y8:Nat),s7=.pointer (some ⟨Y7,0,none⟩)∧s8=.pointer (some ⟨Y8,0,none⟩)∧s9=.int .i64 (r.2.1.2:Int)∧s10=.bool r.2.2∧Below w.heap.size w W∧YK W s r.1∧Y6 W a' n' c' r.2.1.1∧Blk W Y7 45 [.string r.1.1,.slice s.1.1 s.1.2.1 s.1.2.2,.slice s.2.1 s.2.2.1 s.2.2.2]∧Blk W Y8 33 [.slice a' n' c']∧Blk W (w.heap.size+1+1) 30 [.slice none 0 0,.int .i64 0]∧Blk W (w.heap.size+1+1+1) 33 [.slice none 0 0]∧ZH a' n' (w.heap.size+1+1)∧ZH a' n' (w.heap.size+1+1+1)∧w.heap.size+4≤Y7∧w.heap.size+4≤Y8∧Y7≠Y8
theorem WU:V4.fits Zu:=⟨by decide,by decide,by decide,by decide⟩
theorem M6 {rows:List (List I3)} {cap:Nat} (hp:Zf rows=true) (es:List E3) (hU:UpR es) (hE9:∀ e ∈ es,YL e) (w:World) (a9:Option Addr) (cs:Sl × Sl × Sl) (a:Option Addr) (n c:Nat) (hR:Yi w a9 cs rows) (hA:Y6 w a n c es) (hnil:a=none→c=0) (h2:∀ e ∈ (ZG rows 19 Zu (es,0)).2.1.1,2≤e.2.2.length) :
  Calls Tryz.prog 41 #[.agg #[.slice a9 3 cap],.agg #[.slice a n c]] w fun x w'=>NL x w' w.heap.size (ZG rows 19 Zu (es,0))∧Below w.heap.size w w':=by
 have kN:=fun (W:World) (b:Below w.heap.size w W)=>Mp W
 have hvr:=Qe hp 19 Zu (es,0) ZJ hE9
 have hvi:=fun (W:World) (b:Below w.heap.size w W) (s:S4) (hs:Xd W s Zu)=>NG (cap:=cap) hp 19 Zu (es,0) ZJ (Nat.lt_succ_of_le (Wt hp Zu)) hU hE9 (by show 0+19≤es.length+100;omega) W a9 cs s a n c (hR.below b) hs (hA.below b) hnil
 generalize ZG rows 19 Zu (es,0)=r at *
 have bw:Below w.heap.size w ((((w.alloc (.cells #[.slice a9 3 cap] 25)).alloc (.cells #[.slice a n c] 33)).alloc (.cells #[.slice none 0 0,.int .i64 0] 30)).alloc (.cells #[.slice none 0 0] 33)):=by go_grown
 have pP:Blk ((((w.alloc (.cells #[.slice a9 3 cap] 25)).alloc (.cells #[.slice a n c] 33)).alloc (.cells #[.slice none 0 0,.int .i64 0] 30)).alloc (.cells #[.slice none 0 0] 33)) (w.heap.size) 25 [.slice a9 3 cap]:=Zl _ (Zl _ (Zl _ (Zj _ _ _ rfl)))
 have pM:Blk ((((w.alloc (.cells #[.slice a9 3 cap] 25)).alloc (.cells #[.slice a n c] 33)).alloc (.cells #[.slice none 0 0,.int .i64 0] 30)).alloc (.cells #[.slice none 0 0] 33)) (w.heap.size+1) 33 [.slice a n c]:=Zl _ (Zl _ (Zj _ _ _ (by simp)))
 have pR:Blk ((((w.alloc (.cells #[.slice a9 3 cap] 25)).alloc (.cells #[.slice a n c] 33)).alloc (.cells #[.slice none 0 0,.int .i64 0] 30)).alloc (.cells #[.slice none 0 0] 33)) (w.heap.size+1+1) 30 [.slice none 0 0,.int .i64 0]:=Zl _ (Zj _ _ _ (by simp))
 have pT:Blk ((((w.alloc (.cells #[.slice a9 3 cap] 25)).alloc (.cells #[.slice a n c] 33)).alloc (.cells #[.slice none 0 0,.int .i64 0] 30)).alloc (.cells #[.slice none 0 0] 33)) (w.heap.size+1+1+1) 33 [.slice none 0 0]:=Zj _ _ _ (by simp)
 have hszU:w.heap.size+4≤((((w.alloc (.cells #[.slice a9 3 cap] 25)).alloc (.cells #[.slice a n c] 33)).alloc (.cells #[.slice none 0 0,.int .i64 0] 30)).alloc (.cells #[.slice none 0 0] 33)).heap.size:=by simp
 go_enter Tryz.func41,Tryz.ntmps41
 go_wp2_with fail
 generalize ((((w.alloc (.cells #[.slice a9 3 cap] 25)).alloc (.cells #[.slice a n c] 33)).alloc (.cells #[.slice none 0 0,.int .i64 0] 30)).alloc (.cells #[.slice none 0 0] 33))=U0 at *
 go_cut [7,8,9,10] from 11 to 19 (fun s7 s8 s9 s10 W=>Bm w a n c r W s7 s8 s9 s10)
 ·refine wp_region_held_drew (S:=(fun w'=>w'.cell? ⟨w.heap.size,0,none⟩=some (.slice a9 3 cap)∧w'.cell? ⟨w.heap.size+1,0,none⟩=some (.slice a n c))) (by kernel_rfl) ⟨by simpa using pP.cell 0,by simpa using pM.cell 0⟩ (fun hS0=>?_)
  refine tkv 0 12 (.agg #[.slice a9 3 cap]) ?_
  refine tkv 2 14 (.agg #[.slice a n c]) ?_
  have bd:Below U0.heap.size U0 U0.drew:=by go_grown
  replace bw:=Zo bw bd
  replace pR:=pR.below bd
  replace pT:=pT.below bd
  replace hszU:w.heap.size+4≤U0.drew.heap.size:=hszU
  generalize U0.drew=V0 at *
  clear bd
  refine wpAnyH_ready (rs:=[1,9,10]) (by kernel_rfl) (by simp) ?_
  refine AllReadyH.cons (o:=⟨some 13,_,_,_,_,_⟩) rfl (fun K hK=>?_) (AllReadyH.cons (o:=⟨some 7,_,_,_,_,_⟩) rfl (fun K hK=>?_) (AllReadyH.cons (o:=⟨some 8,_,_,_,_,_⟩) rfl (fun K hK=>?_) AllReadyH.nil))
  focus
   have kx:=kN V0 bw
   go_simp
   refine kx.mono ?_
   rintro e V1_ ⟨⟨z,rfl,hO⟩,hb⟩
   go_wp2_with fail
   have hz:=hO.mem WU
   refine hK.out _ _ ⟨Za hb _ _ hS0.1,Za hb _ _ hS0.2⟩ (fun hS0=>?_)
   clear hK kx hO
   replace pR:=pR.below hb
   replace pT:=pT.below hb
   replace bw:=Zo bw hb
   replace hszU:=Nat.le_trans hszU hb.size
   clear hb
   try simp only [Act.put,tka,tkb,tkc]
   refine wpAnyH_ready (rs:=[3,9,10]) (by kernel_rfl) (by simp) ?_
   refine AllReadyH.cons (o:=⟨some 15,_,_,_,_,_⟩) rfl (fun K hK=>?_) (AllReadyH.cons (o:=⟨some 7,_,_,_,_,_⟩) rfl (fun K hK=>?_) (AllReadyH.cons (o:=⟨some 8,_,_,_,_,_⟩) rfl (fun K hK=>?_) AllReadyH.nil))
   focus
    have kx:=hvi V1_ bw z hz
    go_simp
    refine kx.mono ?_
    rintro e V2_ ⟨⟨s9,a3,n3,c3,rfl,hM,hA3,hn3,ho3⟩,hb⟩
    go_wp2_with fail
    refine hK.out _ _ ⟨Za hb _ _ hS0.1,Za hb _ _ hS0.2⟩ (fun hS0=>?_)
    clear hK kx hz
    have oo2:ZH a3 n3 (w.heap.size+1+1):=by
     rcases ho3 with ⟨rfl,rfl,rfl⟩ | h9
     ·exact Zv hA (by omega)
     exact ZH.new h9 (by omega)
    have oo3:ZH a3 n3 (w.heap.size+1+1+1):=by
     rcases ho3 with ⟨rfl,rfl,rfl⟩ | h9
     ·exact Zv hA (by omega)
     exact ZH.new h9 (by omega)
    replace pR:=pR.below hb
    replace pT:=pT.below hb
    replace bw:=Zo bw hb
    replace hszU:=Nat.le_trans hszU hb.size
    clear hb
    try simp only [Act.put,tka,tkb,tkc]
    refine tkv 4 11 (.tuple #[ZW r.1.1 s9,.agg #[.slice a3 n3 c3],.int .i64 (r.2.1.2:Int),.bool r.2.2]) ?_
    refine tkv 5 16 (ZW r.1.1 s9) ?_
    refine tkv 6 17 (.agg #[.slice a3 n3 c3]) ?_
    refine tkv 7 18 (.int .i64 (r.2.1.2:Int)) ?_
    refine tkv 8 19 (.bool r.2.2) ?_
    refine wpAnyH_ready (rs:=[9,10]) (by kernel_rfl) (by simp) ?_
    refine AllReadyH.cons (o:=⟨some 7,_,_,_,_,_⟩) rfl (fun K hK=>?_) (AllReadyH.cons (o:=⟨some 8,_,_,_,_,_⟩) rfl (fun K hK=>?_) AllReadyH.nil)
    focus
     have hb:Below V2_.heap.size V2_ (V2_.alloc (.cells #[.string ⟨#[]⟩,.slice none 0 0,.slice none 0 0] 45)):=by go_grown
     have p7:Blk (V2_.alloc (.cells #[.string ⟨#[]⟩,.slice none 0 0,.slice none 0 0] 45)) V2_.heap.size 45 [.string ⟨#[]⟩,.slice none 0 0,.slice none 0 0]:=Zj _ _ _ rfl
     have hY7:w.heap.size+4≤V2_.heap.size:=hszU
     have o7:ZH a3 n3 V2_.heap.size:=Zv hA3 (Nat.le_refl _)
     replace pR:=pR.below hb
     replace pT:=pT.below hb
     replace hM:=hM.below hb
     replace hA3:=hA3.below hb
     replace bw:=Zo bw hb
     replace hszU:=Nat.le_trans hszU hb.size
     go_simp
     refine hK.out _ _ ⟨Za hb _ _ hS0.1,Za hb _ _ hS0.2⟩ (fun hS0=>?_)
     clear hK hb
     generalize (V2_.alloc (.cells #[.string ⟨#[]⟩,.slice none 0 0,.slice none 0 0] 45))=V3_ at *
     generalize V2_.heap.size=Y7 at *
     try simp only [Act.put,tka,tkb,tkc]
     refine tkr 10 8 (fun K hK=>?_)
     have hb:Below V3_.heap.size V3_ (V3_.alloc (.cells #[.slice none 0 0] 33)):=by go_grown
     have p8:Blk (V3_.alloc (.cells #[.slice none 0 0] 33)) V3_.heap.size 33 [.slice none 0 0]:=Zj _ _ _ rfl
     have hY8:w.heap.size+4≤V3_.heap.size:=hszU
     have o8:ZH a3 n3 V3_.heap.size:=Zv hA3 (Nat.le_refl _)
     have b7:=p7.lt
     replace pR:=pR.below hb
     replace pT:=pT.below hb
     replace p7:=p7.below hb
     replace hM:=hM.below hb
     replace hA3:=hA3.below hb
     replace bw:=Zo bw hb
     replace hszU:=Nat.le_trans hszU hb.size
     have n78:Y7≠V3_.heap.size:=by omega
     go_simp
     refine hK.out _ _ ⟨Za hb _ _ hS0.1,Za hb _ _ hS0.2⟩ (fun hS0=>?_)
     clear hK hb
     generalize (V3_.alloc (.cells #[.slice none 0 0] 33))=V4_ at *
     generalize V3_.heap.size=Y8 at *
    rotate_left
    focus
     have hb:Below V2_.heap.size V2_ (V2_.alloc (.cells #[.slice none 0 0] 33)):=by go_grown
     have p8:Blk (V2_.alloc (.cells #[.slice none 0 0] 33)) V2_.heap.size 33 [.slice none 0 0]:=Zj _ _ _ rfl
     have hY8:w.heap.size+4≤V2_.heap.size:=hszU
     have o8:ZH a3 n3 V2_.heap.size:=Zv hA3 (Nat.le_refl _)
     replace pR:=pR.below hb
     replace pT:=pT.below hb
     replace hM:=hM.below hb
     replace hA3:=hA3.below hb
     replace bw:=Zo bw hb
     replace hszU:=Nat.le_trans hszU hb.size
     go_simp
     refine hK.out _ _ ⟨Za hb _ _ hS0.1,Za hb _ _ hS0.2⟩ (fun hS0=>?_)
     clear hK hb
     generalize (V2_.alloc (.cells #[.slice none 0 0] 33))=V5_ at *
     generalize V2_.heap.size=Y8 at *
     try simp only [Act.put,tka,tkb,tkc]
     refine tkr 9 7 (fun K hK=>?_)
     have hb:Below V5_.heap.size V5_ (V5_.alloc (.cells #[.string ⟨#[]⟩,.slice none 0 0,.slice none 0 0] 45)):=by go_grown
     have p7:Blk (V5_.alloc (.cells #[.string ⟨#[]⟩,.slice none 0 0,.slice none 0 0] 45)) V5_.heap.size 45 [.string ⟨#[]⟩,.slice none 0 0,.slice none 0 0]:=Zj _ _ _ rfl
     have hY7:w.heap.size+4≤V5_.heap.size:=hszU
     have o7:ZH a3 n3 V5_.heap.size:=Zv hA3 (Nat.le_refl _)
     have b7:=p8.lt
     replace pR:=pR.below hb
     replace pT:=pT.below hb
     replace p8:=p8.below hb
     replace hM:=hM.below hb
     replace hA3:=hA3.below hb
     replace bw:=Zo bw hb
     replace hszU:=Nat.le_trans hszU hb.size
     have n78:Y8≠V5_.heap.size:=by omega
     go_simp
     refine hK.out _ _ ⟨Za hb _ _ hS0.1,Za hb _ _ hS0.2⟩ (fun hS0=>?_)
     clear hK hb
     generalize (V5_.alloc (.cells #[.string ⟨#[]⟩,.slice none 0 0,.slice none 0 0] 45))=V6_ at *
     generalize V5_.heap.size=Y7 at *
    all_goals
     try simp only [Act.put,tka,tkb,tkc]
   rotate_left 2
   focus
    have hb:Below V1_.heap.size V1_ (V1_.alloc (.cells #[.string ⟨#[]⟩,.slice none 0 0,.slice none 0 0] 45)):=by go_grown
    have p7:Blk (V1_.alloc (.cells #[.string ⟨#[]⟩,.slice none 0 0,.slice none 0 0] 45)) V1_.heap.size 45 [.string ⟨#[]⟩,.slice none 0 0,.slice none 0 0]:=Zj _ _ _ rfl
    have hY7:w.heap.size+4≤V1_.heap.size:=hszU
    have l7:V1_.heap.size<(V1_.alloc (.cells #[.string ⟨#[]⟩,.slice none 0 0,.slice none 0 0] 45)).heap.size:=by simp
    replace pR:=pR.below hb
    replace pT:=pT.below hb
    replace hz:=hz.below hb
    replace bw:=Zo bw hb
    replace hszU:=Nat.le_trans hszU hb.size
    go_simp
    refine hK.out _ _ ⟨Za hb _ _ hS0.1,Za hb _ _ hS0.2⟩ (fun hS0=>?_)
    clear hK hb
    generalize (V1_.alloc (.cells #[.string ⟨#[]⟩,.slice none 0 0,.slice none 0 0] 45))=V7_ at *
    generalize V1_.heap.size=Y7 at *
    try simp only [Act.put,tka,tkb,tkc]
    refine wpAnyH_ready (rs:=[3,10]) (by kernel_rfl) (by simp) ?_
    refine AllReadyH.cons (o:=⟨some 15,_,_,_,_,_⟩) rfl (fun K hK=>?_) (AllReadyH.cons (o:=⟨some 8,_,_,_,_,_⟩) rfl (fun K hK=>?_) AllReadyH.nil)
    focus
     have kx:=hvi V7_ bw z hz
     go_simp
     refine kx.mono ?_
     rintro e V8_ ⟨⟨s9,a3,n3,c3,rfl,hM,hA3,hn3,ho3⟩,hb⟩
     go_wp2_with fail
     refine hK.out _ _ ⟨Za hb _ _ hS0.1,Za hb _ _ hS0.2⟩ (fun hS0=>?_)
     clear hK kx hz
     have o7:ZH a3 n3 Y7:=by
      rcases ho3 with ⟨rfl,rfl,rfl⟩ | h9
      ·exact Zv hA (by omega)
      exact ZH.new h9 l7
     have oo2:ZH a3 n3 (w.heap.size+1+1):=by
      rcases ho3 with ⟨rfl,rfl,rfl⟩ | h9
      ·exact Zv hA (by omega)
      exact ZH.new h9 (by omega)
     have oo3:ZH a3 n3 (w.heap.size+1+1+1):=by
      rcases ho3 with ⟨rfl,rfl,rfl⟩ | h9
      ·exact Zv hA (by omega)
      exact ZH.new h9 (by omega)
     replace pR:=pR.below hb
     replace pT:=pT.below hb
     replace p7:=p7.below hb
     replace bw:=Zo bw hb
     replace hszU:=Nat.le_trans hszU hb.size
     clear hb
     try simp only [Act.put,tka,tkb,tkc]
     refine tkv 4 11 (.tuple #[ZW r.1.1 s9,.agg #[.slice a3 n3 c3],.int .i64 (r.2.1.2:Int),.bool r.2.2]) ?_
     refine tkv 5 16 (ZW r.1.1 s9) ?_
     refine tkv 6 17 (.agg #[.slice a3 n3 c3]) ?_
     refine tkv 7 18 (.int .i64 (r.2.1.2:Int)) ?_
     refine tkv 8 19 (.bool r.2.2) ?_
     refine tkr 10 8 (fun K hK=>?_)
     have hb:Below V8_.heap.size V8_ (V8_.alloc (.cells #[.slice none 0 0] 33)):=by go_grown
     have p8:Blk (V8_.alloc (.cells #[.slice none 0 0] 33)) V8_.heap.size 33 [.slice none 0 0]:=Zj _ _ _ rfl
     have hY8:w.heap.size+4≤V8_.heap.size:=hszU
     have o8:ZH a3 n3 V8_.heap.size:=Zv hA3 (Nat.le_refl _)
     have b7:=p7.lt
     replace pR:=pR.below hb
     replace pT:=pT.below hb
     replace p7:=p7.below hb
     replace hM:=hM.below hb
     replace hA3:=hA3.below hb
     replace bw:=Zo bw hb
     replace hszU:=Nat.le_trans hszU hb.size
     have n78:Y7≠V8_.heap.size:=by omega
     go_simp
     refine hK.out _ _ ⟨Za hb _ _ hS0.1,Za hb _ _ hS0.2⟩ (fun hS0=>?_)
     clear hK hb
     generalize (V8_.alloc (.cells #[.slice none 0 0] 33))=V9_ at *
     generalize V8_.heap.size=Y8 at *
     try simp only [Act.put,tka,tkb,tkc]
    rotate_left
    focus
     have hb:Below V7_.heap.size V7_ (V7_.alloc (.cells #[.slice none 0 0] 33)):=by go_grown
     have p8:Blk (V7_.alloc (.cells #[.slice none 0 0] 33)) V7_.heap.size 33 [.slice none 0 0]:=Zj _ _ _ rfl
     have hY8:w.heap.size+4≤V7_.heap.size:=hszU
     have l8:V7_.heap.size<(V7_.alloc (.cells #[.slice none 0 0] 33)).heap.size:=by simp
     have b7:=p7.lt
     replace pR:=pR.below hb
     replace pT:=pT.below hb
     replace p7:=p7.below hb
     replace hz:=hz.below hb
     replace bw:=Zo bw hb
     replace hszU:=Nat.le_trans hszU hb.size
     have n78:Y7≠V7_.heap.size:=by omega
     replace l7:=Nat.lt_of_lt_of_le l7 hb.size
     go_simp
     refine hK.out _ _ ⟨Za hb _ _ hS0.1,Za hb _ _ hS0.2⟩ (fun hS0=>?_)
     clear hK hb
     generalize (V7_.alloc (.cells #[.slice none 0 0] 33))=V10_ at *
     generalize V7_.heap.size=Y8 at *
     try simp only [Act.put,tka,tkb,tkc]
     refine tkr 3 15 (fun K hK=>?_)
     have kx:=hvi V10_ bw z hz
     go_simp
     refine kx.mono ?_
     rintro e V11_ ⟨⟨s9,a3,n3,c3,rfl,hM,hA3,hn3,ho3⟩,hb⟩
     go_wp2_with fail
     refine hK.out _ _ ⟨Za hb _ _ hS0.1,Za hb _ _ hS0.2⟩ (fun hS0=>?_)
     clear hK kx hz
     have o7:ZH a3 n3 Y7:=by
      rcases ho3 with ⟨rfl,rfl,rfl⟩ | h9
      ·exact Zv hA (by omega)
      exact ZH.new h9 l7
     have o8:ZH a3 n3 Y8:=by
      rcases ho3 with ⟨rfl,rfl,rfl⟩ | h9
      ·exact Zv hA (by omega)
      exact ZH.new h9 l8
     have oo2:ZH a3 n3 (w.heap.size+1+1):=by
      rcases ho3 with ⟨rfl,rfl,rfl⟩ | h9
      ·exact Zv hA (by omega)
      exact ZH.new h9 (by omega)
     have oo3:ZH a3 n3 (w.heap.size+1+1+1):=by
      rcases ho3 with ⟨rfl,rfl,rfl⟩ | h9
      ·exact Zv hA (by omega)
      exact ZH.new h9 (by omega)
     replace pR:=pR.below hb
     replace pT:=pT.below hb
     replace p7:=p7.below hb
     replace p8:=p8.below hb
     replace bw:=Zo bw hb
     replace hszU:=Nat.le_trans hszU hb.size
     clear hb
     try simp only [Act.put,tka,tkb,tkc]
     refine tkv 4 11 (.tuple #[ZW r.1.1 s9,.agg #[.slice a3 n3 c3],.int .i64 (r.2.1.2:Int),.bool r.2.2]) ?_
     refine tkv 5 16 (ZW r.1.1 s9) ?_
     refine tkv 6 17 (.agg #[.slice a3 n3 c3]) ?_
     refine tkv 7 18 (.int .i64 (r.2.1.2:Int)) ?_
     refine tkv 8 19 (.bool r.2.2) ?_
   rotate_left 2
   focus
    have hb:Below V1_.heap.size V1_ (V1_.alloc (.cells #[.slice none 0 0] 33)):=by go_grown
    have p8:Blk (V1_.alloc (.cells #[.slice none 0 0] 33)) V1_.heap.size 33 [.slice none 0 0]:=Zj _ _ _ rfl
    have hY8:w.heap.size+4≤V1_.heap.size:=hszU
    have l8:V1_.heap.size<(V1_.alloc (.cells #[.slice none 0 0] 33)).heap.size:=by simp
    replace pR:=pR.below hb
    replace pT:=pT.below hb
    replace hz:=hz.below hb
    replace bw:=Zo bw hb
    replace hszU:=Nat.le_trans hszU hb.size
    go_simp
    refine hK.out _ _ ⟨Za hb _ _ hS0.1,Za hb _ _ hS0.2⟩ (fun hS0=>?_)
    clear hK hb
    generalize (V1_.alloc (.cells #[.slice none 0 0] 33))=V12_ at *
    generalize V1_.heap.size=Y8 at *
    try simp only [Act.put,tka,tkb,tkc]
    refine wpAnyH_ready (rs:=[3,9]) (by kernel_rfl) (by simp) ?_
    refine AllReadyH.cons (o:=⟨some 15,_,_,_,_,_⟩) rfl (fun K hK=>?_) (AllReadyH.cons (o:=⟨some 7,_,_,_,_,_⟩) rfl (fun K hK=>?_) AllReadyH.nil)
    focus
     have kx:=hvi V12_ bw z hz
     go_simp
     refine kx.mono ?_
     rintro e V13_ ⟨⟨s9,a3,n3,c3,rfl,hM,hA3,hn3,ho3⟩,hb⟩
     go_wp2_with fail
     refine hK.out _ _ ⟨Za hb _ _ hS0.1,Za hb _ _ hS0.2⟩ (fun hS0=>?_)
     clear hK kx hz
     have o8:ZH a3 n3 Y8:=by
      rcases ho3 with ⟨rfl,rfl,rfl⟩ | h9
      ·exact Zv hA (by omega)
      exact ZH.new h9 l8
     have oo2:ZH a3 n3 (w.heap.size+1+1):=by
      rcases ho3 with ⟨rfl,rfl,rfl⟩ | h9
      ·exact Zv hA (by omega)
      exact ZH.new h9 (by omega)
     have oo3:ZH a3 n3 (w.heap.size+1+1+1):=by
      rcases ho3 with ⟨rfl,rfl,rfl⟩ | h9
      ·exact Zv hA (by omega)
      exact ZH.new h9 (by omega)
     replace pR:=pR.below hb
     replace pT:=pT.below hb
     replace p8:=p8.below hb
     replace bw:=Zo bw hb
     replace hszU:=Nat.le_trans hszU hb.size
     clear hb
     try simp only [Act.put,tka,tkb,tkc]
     refine tkv 4 11 (.tuple #[ZW r.1.1 s9,.agg #[.slice a3 n3 c3],.int .i64 (r.2.1.2:Int),.bool r.2.2]) ?_
     refine tkv 5 16 (ZW r.1.1 s9) ?_
     refine tkv 6 17 (.agg #[.slice a3 n3 c3]) ?_
     refine tkv 7 18 (.int .i64 (r.2.1.2:Int)) ?_
     refine tkv 8 19 (.bool r.2.2) ?_
     refine tkr 9 7 (fun K hK=>?_)
     have hb:Below V13_.heap.size V13_ (V13_.alloc (.cells #[.string ⟨#[]⟩,.slice none 0 0,.slice none 0 0] 45)):=by go_grown
     have p7:Blk (V13_.alloc (.cells #[.string ⟨#[]⟩,.slice none 0 0,.slice none 0 0] 45)) V13_.heap.size 45 [.string ⟨#[]⟩,.slice none 0 0,.slice none 0 0]:=Zj _ _ _ rfl
     have hY7:w.heap.size+4≤V13_.heap.size:=hszU
     have o7:ZH a3 n3 V13_.heap.size:=Zv hA3 (Nat.le_refl _)
     have b7:=p8.lt
     replace pR:=pR.below hb
     replace pT:=pT.below hb
     replace p8:=p8.below hb
     replace hM:=hM.below hb
     replace hA3:=hA3.below hb
     replace bw:=Zo bw hb
     replace hszU:=Nat.le_trans hszU hb.size
     have n78:Y8≠V13_.heap.size:=by omega
     go_simp
     refine hK.out _ _ ⟨Za hb _ _ hS0.1,Za hb _ _ hS0.2⟩ (fun hS0=>?_)
     clear hK hb
     generalize (V13_.alloc (.cells #[.string ⟨#[]⟩,.slice none 0 0,.slice none 0 0] 45))=V14_ at *
     generalize V13_.heap.size=Y7 at *
     try simp only [Act.put,tka,tkb,tkc]
    rotate_left
    focus
     have hb:Below V12_.heap.size V12_ (V12_.alloc (.cells #[.string ⟨#[]⟩,.slice none 0 0,.slice none 0 0] 45)):=by go_grown
     have p7:Blk (V12_.alloc (.cells #[.string ⟨#[]⟩,.slice none 0 0,.slice none 0 0] 45)) V12_.heap.size 45 [.string ⟨#[]⟩,.slice none 0 0,.slice none 0 0]:=Zj _ _ _ rfl
     have hY7:w.heap.size+4≤V12_.heap.size:=hszU
     have l7:V12_.heap.size<(V12_.alloc (.cells #[.string ⟨#[]⟩,.slice none 0 0,.slice none 0 0] 45)).heap.size:=by simp
     have b7:=p8.lt
     replace pR:=pR.below hb
     replace pT:=pT.below hb
     replace p8:=p8.below hb
     replace hz:=hz.below hb
     replace bw:=Zo bw hb
     replace hszU:=Nat.le_trans hszU hb.size
     have n78:Y8≠V12_.heap.size:=by omega
     replace l8:=Nat.lt_of_lt_of_le l8 hb.size
     go_simp
     refine hK.out _ _ ⟨Za hb _ _ hS0.1,Za hb _ _ hS0.2⟩ (fun hS0=>?_)
     clear hK hb
     generalize (V12_.alloc (.cells #[.string ⟨#[]⟩,.slice none 0 0,.slice none 0 0] 45))=V15_ at *
     generalize V12_.heap.size=Y7 at *
     try simp only [Act.put,tka,tkb,tkc]
     refine tkr 3 15 (fun K hK=>?_)
     have kx:=hvi V15_ bw z hz
     go_simp
     refine kx.mono ?_
     rintro e V16_ ⟨⟨s9,a3,n3,c3,rfl,hM,hA3,hn3,ho3⟩,hb⟩
     go_wp2_with fail
     refine hK.out _ _ ⟨Za hb _ _ hS0.1,Za hb _ _ hS0.2⟩ (fun hS0=>?_)
     clear hK kx hz
     have o7:ZH a3 n3 Y7:=by
      rcases ho3 with ⟨rfl,rfl,rfl⟩ | h9
      ·exact Zv hA (by omega)
      exact ZH.new h9 l7
     have o8:ZH a3 n3 Y8:=by
      rcases ho3 with ⟨rfl,rfl,rfl⟩ | h9
      ·exact Zv hA (by omega)
      exact ZH.new h9 l8
     have oo2:ZH a3 n3 (w.heap.size+1+1):=by
      rcases ho3 with ⟨rfl,rfl,rfl⟩ | h9
      ·exact Zv hA (by omega)
      exact ZH.new h9 (by omega)
     have oo3:ZH a3 n3 (w.heap.size+1+1+1):=by
      rcases ho3 with ⟨rfl,rfl,rfl⟩ | h9
      ·exact Zv hA (by omega)
      exact ZH.new h9 (by omega)
     replace pR:=pR.below hb
     replace pT:=pT.below hb
     replace p7:=p7.below hb
     replace p8:=p8.below hb
     replace bw:=Zo bw hb
     replace hszU:=Nat.le_trans hszU hb.size
     clear hb
     try simp only [Act.put,tka,tkb,tkc]
     refine tkv 4 11 (.tuple #[ZW r.1.1 s9,.agg #[.slice a3 n3 c3],.int .i64 (r.2.1.2:Int),.bool r.2.2]) ?_
     refine tkv 5 16 (ZW r.1.1 s9) ?_
     refine tkv 6 17 (.agg #[.slice a3 n3 c3]) ?_
     refine tkv 7 18 (.int .i64 (r.2.1.2:Int)) ?_
     refine tkv 8 19 (.bool r.2.2) ?_
  rotate_left 6
  focus
   have hb:Below V0.heap.size V0 (V0.alloc (.cells #[.string ⟨#[]⟩,.slice none 0 0,.slice none 0 0] 45)):=by go_grown
   have p7:Blk (V0.alloc (.cells #[.string ⟨#[]⟩,.slice none 0 0,.slice none 0 0] 45)) V0.heap.size 45 [.string ⟨#[]⟩,.slice none 0 0,.slice none 0 0]:=Zj _ _ _ rfl
   have hY7:w.heap.size+4≤V0.heap.size:=hszU
   have l7:V0.heap.size<(V0.alloc (.cells #[.string ⟨#[]⟩,.slice none 0 0,.slice none 0 0] 45)).heap.size:=by simp
   replace pR:=pR.below hb
   replace pT:=pT.below hb
   replace bw:=Zo bw hb
   replace hszU:=Nat.le_trans hszU hb.size
   go_simp
   refine hK.out _ _ ⟨Za hb _ _ hS0.1,Za hb _ _ hS0.2⟩ (fun hS0=>?_)
   clear hK hb
   generalize (V0.alloc (.cells #[.string ⟨#[]⟩,.slice none 0 0,.slice none 0 0] 45))=V17_ at *
   generalize V0.heap.size=Y7 at *
   try simp only [Act.put,tka,tkb,tkc]
   refine wpAnyH_ready (rs:=[1,10]) (by kernel_rfl) (by simp) ?_
   refine AllReadyH.cons (o:=⟨some 13,_,_,_,_,_⟩) rfl (fun K hK=>?_) (AllReadyH.cons (o:=⟨some 8,_,_,_,_,_⟩) rfl (fun K hK=>?_) AllReadyH.nil)
   focus
    have kx:=kN V17_ bw
    go_simp
    refine kx.mono ?_
    rintro e V18_ ⟨⟨z,rfl,hO⟩,hb⟩
    go_wp2_with fail
    have hz:=hO.mem WU
    refine hK.out _ _ ⟨Za hb _ _ hS0.1,Za hb _ _ hS0.2⟩ (fun hS0=>?_)
    clear hK kx hO
    replace pR:=pR.below hb
    replace pT:=pT.below hb
    replace p7:=p7.below hb
    replace bw:=Zo bw hb
    replace hszU:=Nat.le_trans hszU hb.size
    replace l7:=Nat.lt_of_lt_of_le l7 hb.size
    clear hb
    try simp only [Act.put,tka,tkb,tkc]
    refine wpAnyH_ready (rs:=[3,10]) (by kernel_rfl) (by simp) ?_
    refine AllReadyH.cons (o:=⟨some 15,_,_,_,_,_⟩) rfl (fun K hK=>?_) (AllReadyH.cons (o:=⟨some 8,_,_,_,_,_⟩) rfl (fun K hK=>?_) AllReadyH.nil)
    focus
     have kx:=hvi V18_ bw z hz
     go_simp
     refine kx.mono ?_
     rintro e V19_ ⟨⟨s9,a3,n3,c3,rfl,hM,hA3,hn3,ho3⟩,hb⟩
     go_wp2_with fail
     refine hK.out _ _ ⟨Za hb _ _ hS0.1,Za hb _ _ hS0.2⟩ (fun hS0=>?_)
     clear hK kx hz
     have o7:ZH a3 n3 Y7:=by
      rcases ho3 with ⟨rfl,rfl,rfl⟩ | h9
      ·exact Zv hA (by omega)
      exact ZH.new h9 l7
     have oo2:ZH a3 n3 (w.heap.size+1+1):=by
      rcases ho3 with ⟨rfl,rfl,rfl⟩ | h9
      ·exact Zv hA (by omega)
      exact ZH.new h9 (by omega)
     have oo3:ZH a3 n3 (w.heap.size+1+1+1):=by
      rcases ho3 with ⟨rfl,rfl,rfl⟩ | h9
      ·exact Zv hA (by omega)
      exact ZH.new h9 (by omega)
     replace pR:=pR.below hb
     replace pT:=pT.below hb
     replace p7:=p7.below hb
     replace bw:=Zo bw hb
     replace hszU:=Nat.le_trans hszU hb.size
     clear hb
     try simp only [Act.put,tka,tkb,tkc]
     refine tkv 4 11 (.tuple #[ZW r.1.1 s9,.agg #[.slice a3 n3 c3],.int .i64 (r.2.1.2:Int),.bool r.2.2]) ?_
     refine tkv 5 16 (ZW r.1.1 s9) ?_
     refine tkv 6 17 (.agg #[.slice a3 n3 c3]) ?_
     refine tkv 7 18 (.int .i64 (r.2.1.2:Int)) ?_
     refine tkv 8 19 (.bool r.2.2) ?_
     refine tkr 10 8 (fun K hK=>?_)
     have hb:Below V19_.heap.size V19_ (V19_.alloc (.cells #[.slice none 0 0] 33)):=by go_grown
     have p8:Blk (V19_.alloc (.cells #[.slice none 0 0] 33)) V19_.heap.size 33 [.slice none 0 0]:=Zj _ _ _ rfl
     have hY8:w.heap.size+4≤V19_.heap.size:=hszU
     have o8:ZH a3 n3 V19_.heap.size:=Zv hA3 (Nat.le_refl _)
     have b7:=p7.lt
     replace pR:=pR.below hb
     replace pT:=pT.below hb
     replace p7:=p7.below hb
     replace hM:=hM.below hb
     replace hA3:=hA3.below hb
     replace bw:=Zo bw hb
     replace hszU:=Nat.le_trans hszU hb.size
     have n78:Y7≠V19_.heap.size:=by omega
     go_simp
     refine hK.out _ _ ⟨Za hb _ _ hS0.1,Za hb _ _ hS0.2⟩ (fun hS0=>?_)
     clear hK hb
     generalize (V19_.alloc (.cells #[.slice none 0 0] 33))=V20_ at *
     generalize V19_.heap.size=Y8 at *
     try simp only [Act.put,tka,tkb,tkc]
    rotate_left
    focus
     have hb:Below V18_.heap.size V18_ (V18_.alloc (.cells #[.slice none 0 0] 33)):=by go_grown
     have p8:Blk (V18_.alloc (.cells #[.slice none 0 0] 33)) V18_.heap.size 33 [.slice none 0 0]:=Zj _ _ _ rfl
     have hY8:w.heap.size+4≤V18_.heap.size:=hszU
     have l8:V18_.heap.size<(V18_.alloc (.cells #[.slice none 0 0] 33)).heap.size:=by simp
     have b7:=p7.lt
     replace pR:=pR.below hb
     replace pT:=pT.below hb
     replace p7:=p7.below hb
     replace hz:=hz.below hb
     replace bw:=Zo bw hb
     replace hszU:=Nat.le_trans hszU hb.size
     have n78:Y7≠V18_.heap.size:=by omega
     replace l7:=Nat.lt_of_lt_of_le l7 hb.size
     go_simp
     refine hK.out _ _ ⟨Za hb _ _ hS0.1,Za hb _ _ hS0.2⟩ (fun hS0=>?_)
     clear hK hb
     generalize (V18_.alloc (.cells #[.slice none 0 0] 33))=V21_ at *
     generalize V18_.heap.size=Y8 at *
     try simp only [Act.put,tka,tkb,tkc]
     refine tkr 3 15 (fun K hK=>?_)
     have kx:=hvi V21_ bw z hz
     go_simp
     refine kx.mono ?_
     rintro e V22_ ⟨⟨s9,a3,n3,c3,rfl,hM,hA3,hn3,ho3⟩,hb⟩
     go_wp2_with fail
     refine hK.out _ _ ⟨Za hb _ _ hS0.1,Za hb _ _ hS0.2⟩ (fun hS0=>?_)
     clear hK kx hz
     have o7:ZH a3 n3 Y7:=by
      rcases ho3 with ⟨rfl,rfl,rfl⟩ | h9
      ·exact Zv hA (by omega)
      exact ZH.new h9 l7
     have o8:ZH a3 n3 Y8:=by
      rcases ho3 with ⟨rfl,rfl,rfl⟩ | h9
      ·exact Zv hA (by omega)
      exact ZH.new h9 l8
     have oo2:ZH a3 n3 (w.heap.size+1+1):=by
      rcases ho3 with ⟨rfl,rfl,rfl⟩ | h9
      ·exact Zv hA (by omega)
      exact ZH.new h9 (by omega)
     have oo3:ZH a3 n3 (w.heap.size+1+1+1):=by
      rcases ho3 with ⟨rfl,rfl,rfl⟩ | h9
      ·exact Zv hA (by omega)
      exact ZH.new h9 (by omega)
     replace pR:=pR.below hb
     replace pT:=pT.below hb
     replace p7:=p7.below hb
     replace p8:=p8.below hb
     replace bw:=Zo bw hb
     replace hszU:=Nat.le_trans hszU hb.size
     clear hb
     try simp only [Act.put,tka,tkb,tkc]
     refine tkv 4 11 (.tuple #[ZW r.1.1 s9,.agg #[.slice a3 n3 c3],.int .i64 (r.2.1.2:Int),.bool r.2.2]) ?_
     refine tkv 5 16 (ZW r.1.1 s9) ?_
     refine tkv 6 17 (.agg #[.slice a3 n3 c3]) ?_
     refine tkv 7 18 (.int .i64 (r.2.1.2:Int)) ?_
     refine tkv 8 19 (.bool r.2.2) ?_
   rotate_left 2
   focus
    have hb:Below V17_.heap.size V17_ (V17_.alloc (.cells #[.slice none 0 0] 33)):=by go_grown
    have p8:Blk (V17_.alloc (.cells #[.slice none 0 0] 33)) V17_.heap.size 33 [.slice none 0 0]:=Zj _ _ _ rfl
    have hY8:w.heap.size+4≤V17_.heap.size:=hszU
    have l8:V17_.heap.size<(V17_.alloc (.cells #[.slice none 0 0] 33)).heap.size:=by simp
    have b7:=p7.lt
    replace pR:=pR.below hb
    replace pT:=pT.below hb
    replace p7:=p7.below hb
    replace bw:=Zo bw hb
    replace hszU:=Nat.le_trans hszU hb.size
    have n78:Y7≠V17_.heap.size:=by omega
    replace l7:=Nat.lt_of_lt_of_le l7 hb.size
    go_simp
    refine hK.out _ _ ⟨Za hb _ _ hS0.1,Za hb _ _ hS0.2⟩ (fun hS0=>?_)
    clear hK hb
    generalize (V17_.alloc (.cells #[.slice none 0 0] 33))=V23_ at *
    generalize V17_.heap.size=Y8 at *
    try simp only [Act.put,tka,tkb,tkc]
    refine tkr 1 13 (fun K hK=>?_)
    have kx:=kN V23_ bw
    go_simp
    refine kx.mono ?_
    rintro e V24_ ⟨⟨z,rfl,hO⟩,hb⟩
    go_wp2_with fail
    have hz:=hO.mem WU
    refine hK.out _ _ ⟨Za hb _ _ hS0.1,Za hb _ _ hS0.2⟩ (fun hS0=>?_)
    clear hK kx hO
    replace pR:=pR.below hb
    replace pT:=pT.below hb
    replace p7:=p7.below hb
    replace p8:=p8.below hb
    replace bw:=Zo bw hb
    replace hszU:=Nat.le_trans hszU hb.size
    replace l7:=Nat.lt_of_lt_of_le l7 hb.size
    replace l8:=Nat.lt_of_lt_of_le l8 hb.size
    clear hb
    try simp only [Act.put,tka,tkb,tkc]
    refine tkr 3 15 (fun K hK=>?_)
    have kx:=hvi V24_ bw z hz
    go_simp
    refine kx.mono ?_
    rintro e V25_ ⟨⟨s9,a3,n3,c3,rfl,hM,hA3,hn3,ho3⟩,hb⟩
    go_wp2_with fail
    refine hK.out _ _ ⟨Za hb _ _ hS0.1,Za hb _ _ hS0.2⟩ (fun hS0=>?_)
    clear hK kx hz
    have o7:ZH a3 n3 Y7:=by
     rcases ho3 with ⟨rfl,rfl,rfl⟩ | h9
     ·exact Zv hA (by omega)
     exact ZH.new h9 l7
    have o8:ZH a3 n3 Y8:=by
     rcases ho3 with ⟨rfl,rfl,rfl⟩ | h9
     ·exact Zv hA (by omega)
     exact ZH.new h9 l8
    have oo2:ZH a3 n3 (w.heap.size+1+1):=by
     rcases ho3 with ⟨rfl,rfl,rfl⟩ | h9
     ·exact Zv hA (by omega)
     exact ZH.new h9 (by omega)
    have oo3:ZH a3 n3 (w.heap.size+1+1+1):=by
     rcases ho3 with ⟨rfl,rfl,rfl⟩ | h9
     ·exact Zv hA (by omega)
     exact ZH.new h9 (by omega)
    replace pR:=pR.below hb
    replace pT:=pT.below hb
    replace p7:=p7.below hb
    replace p8:=p8.below hb
    replace bw:=Zo bw hb
    replace hszU:=Nat.le_trans hszU hb.size
    clear hb
    try simp only [Act.put,tka,tkb,tkc]
    refine tkv 4 11 (.tuple #[ZW r.1.1 s9,.agg #[.slice a3 n3 c3],.int .i64 (r.2.1.2:Int),.bool r.2.2]) ?_
    refine tkv 5 16 (ZW r.1.1 s9) ?_
    refine tkv 6 17 (.agg #[.slice a3 n3 c3]) ?_
    refine tkv 7 18 (.int .i64 (r.2.1.2:Int)) ?_
    refine tkv 8 19 (.bool r.2.2) ?_
  rotate_left 3
  focus
   have hb:Below V0.heap.size V0 (V0.alloc (.cells #[.slice none 0 0] 33)):=by go_grown
   have p8:Blk (V0.alloc (.cells #[.slice none 0 0] 33)) V0.heap.size 33 [.slice none 0 0]:=Zj _ _ _ rfl
   have hY8:w.heap.size+4≤V0.heap.size:=hszU
   have l8:V0.heap.size<(V0.alloc (.cells #[.slice none 0 0] 33)).heap.size:=by simp
   replace pR:=pR.below hb
   replace pT:=pT.below hb
   replace bw:=Zo bw hb
   replace hszU:=Nat.le_trans hszU hb.size
   go_simp
   refine hK.out _ _ ⟨Za hb _ _ hS0.1,Za hb _ _ hS0.2⟩ (fun hS0=>?_)
   clear hK hb
   generalize (V0.alloc (.cells #[.slice none 0 0] 33))=V26_ at *
   generalize V0.heap.size=Y8 at *
   try simp only [Act.put,tka,tkb,tkc]
   refine wpAnyH_ready (rs:=[1,9]) (by kernel_rfl) (by simp) ?_
   refine AllReadyH.cons (o:=⟨some 13,_,_,_,_,_⟩) rfl (fun K hK=>?_) (AllReadyH.cons (o:=⟨some 7,_,_,_,_,_⟩) rfl (fun K hK=>?_) AllReadyH.nil)
   focus
    have kx:=kN V26_ bw
    go_simp
    refine kx.mono ?_
    rintro e V27_ ⟨⟨z,rfl,hO⟩,hb⟩
    go_wp2_with fail
    have hz:=hO.mem WU
    refine hK.out _ _ ⟨Za hb _ _ hS0.1,Za hb _ _ hS0.2⟩ (fun hS0=>?_)
    clear hK kx hO
    replace pR:=pR.below hb
    replace pT:=pT.below hb
    replace p8:=p8.below hb
    replace bw:=Zo bw hb
    replace hszU:=Nat.le_trans hszU hb.size
    replace l8:=Nat.lt_of_lt_of_le l8 hb.size
    clear hb
    try simp only [Act.put,tka,tkb,tkc]
    refine wpAnyH_ready (rs:=[3,9]) (by kernel_rfl) (by simp) ?_
    refine AllReadyH.cons (o:=⟨some 15,_,_,_,_,_⟩) rfl (fun K hK=>?_) (AllReadyH.cons (o:=⟨some 7,_,_,_,_,_⟩) rfl (fun K hK=>?_) AllReadyH.nil)
    focus
     have kx:=hvi V27_ bw z hz
     go_simp
     refine kx.mono ?_
     rintro e V28_ ⟨⟨s9,a3,n3,c3,rfl,hM,hA3,hn3,ho3⟩,hb⟩
     go_wp2_with fail
     refine hK.out _ _ ⟨Za hb _ _ hS0.1,Za hb _ _ hS0.2⟩ (fun hS0=>?_)
     clear hK kx hz
     have o8:ZH a3 n3 Y8:=by
      rcases ho3 with ⟨rfl,rfl,rfl⟩ | h9
      ·exact Zv hA (by omega)
      exact ZH.new h9 l8
     have oo2:ZH a3 n3 (w.heap.size+1+1):=by
      rcases ho3 with ⟨rfl,rfl,rfl⟩ | h9
      ·exact Zv hA (by omega)
      exact ZH.new h9 (by omega)
     have oo3:ZH a3 n3 (w.heap.size+1+1+1):=by
      rcases ho3 with ⟨rfl,rfl,rfl⟩ | h9
      ·exact Zv hA (by omega)
      exact ZH.new h9 (by omega)
     replace pR:=pR.below hb
     replace pT:=pT.below hb
     replace p8:=p8.below hb
     replace bw:=Zo bw hb
     replace hszU:=Nat.le_trans hszU hb.size
     clear hb
     try simp only [Act.put,tka,tkb,tkc]
     refine tkv 4 11 (.tuple #[ZW r.1.1 s9,.agg #[.slice a3 n3 c3],.int .i64 (r.2.1.2:Int),.bool r.2.2]) ?_
     refine tkv 5 16 (ZW r.1.1 s9) ?_
     refine tkv 6 17 (.agg #[.slice a3 n3 c3]) ?_
     refine tkv 7 18 (.int .i64 (r.2.1.2:Int)) ?_
     refine tkv 8 19 (.bool r.2.2) ?_
     refine tkr 9 7 (fun K hK=>?_)
     have hb:Below V28_.heap.size V28_ (V28_.alloc (.cells #[.string ⟨#[]⟩,.slice none 0 0,.slice none 0 0] 45)):=by go_grown
     have p7:Blk (V28_.alloc (.cells #[.string ⟨#[]⟩,.slice none 0 0,.slice none 0 0] 45)) V28_.heap.size 45 [.string ⟨#[]⟩,.slice none 0 0,.slice none 0 0]:=Zj _ _ _ rfl
     have hY7:w.heap.size+4≤V28_.heap.size:=hszU
     have o7:ZH a3 n3 V28_.heap.size:=Zv hA3 (Nat.le_refl _)
     have b7:=p8.lt
     replace pR:=pR.below hb
     replace pT:=pT.below hb
     replace p8:=p8.below hb
     replace hM:=hM.below hb
     replace hA3:=hA3.below hb
     replace bw:=Zo bw hb
     replace hszU:=Nat.le_trans hszU hb.size
     have n78:Y8≠V28_.heap.size:=by omega
     go_simp
     refine hK.out _ _ ⟨Za hb _ _ hS0.1,Za hb _ _ hS0.2⟩ (fun hS0=>?_)
     clear hK hb
     generalize (V28_.alloc (.cells #[.string ⟨#[]⟩,.slice none 0 0,.slice none 0 0] 45))=V29_ at *
     generalize V28_.heap.size=Y7 at *
     try simp only [Act.put,tka,tkb,tkc]
    rotate_left
    focus
     have hb:Below V27_.heap.size V27_ (V27_.alloc (.cells #[.string ⟨#[]⟩,.slice none 0 0,.slice none 0 0] 45)):=by go_grown
     have p7:Blk (V27_.alloc (.cells #[.string ⟨#[]⟩,.slice none 0 0,.slice none 0 0] 45)) V27_.heap.size 45 [.string ⟨#[]⟩,.slice none 0 0,.slice none 0 0]:=Zj _ _ _ rfl
     have hY7:w.heap.size+4≤V27_.heap.size:=hszU
     have l7:V27_.heap.size<(V27_.alloc (.cells #[.string ⟨#[]⟩,.slice none 0 0,.slice none 0 0] 45)).heap.size:=by simp
     have b7:=p8.lt
     replace pR:=pR.below hb
     replace pT:=pT.below hb
     replace p8:=p8.below hb
     replace hz:=hz.below hb
     replace bw:=Zo bw hb
     replace hszU:=Nat.le_trans hszU hb.size
     have n78:Y8≠V27_.heap.size:=by omega
     replace l8:=Nat.lt_of_lt_of_le l8 hb.size
     go_simp
     refine hK.out _ _ ⟨Za hb _ _ hS0.1,Za hb _ _ hS0.2⟩ (fun hS0=>?_)
     clear hK hb
     generalize (V27_.alloc (.cells #[.string ⟨#[]⟩,.slice none 0 0,.slice none 0 0] 45))=V30_ at *
     generalize V27_.heap.size=Y7 at *
     try simp only [Act.put,tka,tkb,tkc]
     refine tkr 3 15 (fun K hK=>?_)
     have kx:=hvi V30_ bw z hz
     go_simp
     refine kx.mono ?_
     rintro e V31_ ⟨⟨s9,a3,n3,c3,rfl,hM,hA3,hn3,ho3⟩,hb⟩
     go_wp2_with fail
     refine hK.out _ _ ⟨Za hb _ _ hS0.1,Za hb _ _ hS0.2⟩ (fun hS0=>?_)
     clear hK kx hz
     have o7:ZH a3 n3 Y7:=by
      rcases ho3 with ⟨rfl,rfl,rfl⟩ | h9
      ·exact Zv hA (by omega)
      exact ZH.new h9 l7
     have o8:ZH a3 n3 Y8:=by
      rcases ho3 with ⟨rfl,rfl,rfl⟩ | h9
      ·exact Zv hA (by omega)
      exact ZH.new h9 l8
     have oo2:ZH a3 n3 (w.heap.size+1+1):=by
      rcases ho3 with ⟨rfl,rfl,rfl⟩ | h9
      ·exact Zv hA (by omega)
      exact ZH.new h9 (by omega)
     have oo3:ZH a3 n3 (w.heap.size+1+1+1):=by
      rcases ho3 with ⟨rfl,rfl,rfl⟩ | h9
      ·exact Zv hA (by omega)
      exact ZH.new h9 (by omega)
     replace pR:=pR.below hb
     replace pT:=pT.below hb
     replace p7:=p7.below hb
     replace p8:=p8.below hb
     replace bw:=Zo bw hb
     replace hszU:=Nat.le_trans hszU hb.size
     clear hb
     try simp only [Act.put,tka,tkb,tkc]
     refine tkv 4 11 (.tuple #[ZW r.1.1 s9,.agg #[.slice a3 n3 c3],.int .i64 (r.2.1.2:Int),.bool r.2.2]) ?_
     refine tkv 5 16 (ZW r.1.1 s9) ?_
     refine tkv 6 17 (.agg #[.slice a3 n3 c3]) ?_
     refine tkv 7 18 (.int .i64 (r.2.1.2:Int)) ?_
     refine tkv 8 19 (.bool r.2.2) ?_
   rotate_left 2
   focus
    have hb:Below V26_.heap.size V26_ (V26_.alloc (.cells #[.string ⟨#[]⟩,.slice none 0 0,.slice none 0 0] 45)):=by go_grown
    have p7:Blk (V26_.alloc (.cells #[.string ⟨#[]⟩,.slice none 0 0,.slice none 0 0] 45)) V26_.heap.size 45 [.string ⟨#[]⟩,.slice none 0 0,.slice none 0 0]:=Zj _ _ _ rfl
    have hY7:w.heap.size+4≤V26_.heap.size:=hszU
    have l7:V26_.heap.size<(V26_.alloc (.cells #[.string ⟨#[]⟩,.slice none 0 0,.slice none 0 0] 45)).heap.size:=by simp
    have b7:=p8.lt
    replace pR:=pR.below hb
    replace pT:=pT.below hb
    replace p8:=p8.below hb
    replace bw:=Zo bw hb
    replace hszU:=Nat.le_trans hszU hb.size
    have n78:Y8≠V26_.heap.size:=by omega
    replace l8:=Nat.lt_of_lt_of_le l8 hb.size
    go_simp
    refine hK.out _ _ ⟨Za hb _ _ hS0.1,Za hb _ _ hS0.2⟩ (fun hS0=>?_)
    clear hK hb
    generalize (V26_.alloc (.cells #[.string ⟨#[]⟩,.slice none 0 0,.slice none 0 0] 45))=V32_ at *
    generalize V26_.heap.size=Y7 at *
    try simp only [Act.put,tka,tkb,tkc]
    refine tkr 1 13 (fun K hK=>?_)
    have kx:=kN V32_ bw
    go_simp
    refine kx.mono ?_
    rintro e V33_ ⟨⟨z,rfl,hO⟩,hb⟩
    go_wp2_with fail
    have hz:=hO.mem WU
    refine hK.out _ _ ⟨Za hb _ _ hS0.1,Za hb _ _ hS0.2⟩ (fun hS0=>?_)
    clear hK kx hO
    replace pR:=pR.below hb
    replace pT:=pT.below hb
    replace p7:=p7.below hb
    replace p8:=p8.below hb
    replace bw:=Zo bw hb
    replace hszU:=Nat.le_trans hszU hb.size
    replace l7:=Nat.lt_of_lt_of_le l7 hb.size
    replace l8:=Nat.lt_of_lt_of_le l8 hb.size
    clear hb
    try simp only [Act.put,tka,tkb,tkc]
    refine tkr 3 15 (fun K hK=>?_)
    have kx:=hvi V33_ bw z hz
    go_simp
    refine kx.mono ?_
    rintro e V34_ ⟨⟨s9,a3,n3,c3,rfl,hM,hA3,hn3,ho3⟩,hb⟩
    go_wp2_with fail
    refine hK.out _ _ ⟨Za hb _ _ hS0.1,Za hb _ _ hS0.2⟩ (fun hS0=>?_)
    clear hK kx hz
    have o7:ZH a3 n3 Y7:=by
     rcases ho3 with ⟨rfl,rfl,rfl⟩ | h9
     ·exact Zv hA (by omega)
     exact ZH.new h9 l7
    have o8:ZH a3 n3 Y8:=by
     rcases ho3 with ⟨rfl,rfl,rfl⟩ | h9
     ·exact Zv hA (by omega)
     exact ZH.new h9 l8
    have oo2:ZH a3 n3 (w.heap.size+1+1):=by
     rcases ho3 with ⟨rfl,rfl,rfl⟩ | h9
     ·exact Zv hA (by omega)
     exact ZH.new h9 (by omega)
    have oo3:ZH a3 n3 (w.heap.size+1+1+1):=by
     rcases ho3 with ⟨rfl,rfl,rfl⟩ | h9
     ·exact Zv hA (by omega)
     exact ZH.new h9 (by omega)
    replace pR:=pR.below hb
    replace pT:=pT.below hb
    replace p7:=p7.below hb
    replace p8:=p8.below hb
    replace bw:=Zo bw hb
    replace hszU:=Nat.le_trans hszU hb.size
    clear hb
    try simp only [Act.put,tka,tkb,tkc]
    refine tkv 4 11 (.tuple #[ZW r.1.1 s9,.agg #[.slice a3 n3 c3],.int .i64 (r.2.1.2:Int),.bool r.2.2]) ?_
    refine tkv 5 16 (ZW r.1.1 s9) ?_
    refine tkv 6 17 (.agg #[.slice a3 n3 c3]) ?_
    refine tkv 7 18 (.int .i64 (r.2.1.2:Int)) ?_
    refine tkv 8 19 (.bool r.2.2) ?_
  all_goals
   obtain ⟨⟨s1a,s1n,s1c⟩,⟨s2a,s2n,s2c⟩⟩:=s9
   unfold ZW
   simp only
   refine tkz 11 (fun K hK=>?_)
   refine Zq rfl 45 _ _ rfl Y7 [.string r.1.1,.slice s1a s1n s1c,.slice s2a s2n s2c] rfl rfl p7 (by kernel_rfl) rfl rfl ?_
   intro V8 q8 g8
   refine hK.out _ _ ⟨Zp g8 hS0.1 (fun e=>by injection e with e9;dsimp only at e9;omega),Zp g8 hS0.2 (fun e=>by injection e with e9;dsimp only at e9;omega)⟩ (fun hS0=>?_)
   clear hK
   try simp only [Act.put,tka,tkb,tkc]
   replace hM:=hM.box p7 (Yd ⟨#[]⟩ ((none,0,0),(none,0,0))) g8
   replace hA3:=hA3.box o7 p7 (Yd ⟨#[]⟩ ((none,0,0),(none,0,0))) g8
   replace p8:=p8.kept g8 (by simp;omega)
   replace pR:=pR.kept g8 (by simp;omega)
   replace pT:=pT.kept g8 (by simp;omega)
   replace p7:=q8.out
   replace bw:=bw.grown g8 bw.size (fun k hk=>by cases hk;omega)
   clear q8 g8
   refine tkz 12 (fun K hK=>?_)
   refine Zq rfl 33 _ _ rfl Y8 [.slice a3 n3 c3] rfl rfl p8 (by kernel_rfl) rfl rfl ?_
   intro V9 q9 g9
   refine hK.out _ _ ⟨Zp g9 hS0.1 (fun e=>by injection e with e9;dsimp only at e9;omega),Zp g9 hS0.2 (fun e=>by injection e with e9;dsimp only at e9;omega)⟩ (fun hS0=>?_)
   clear hK
   try simp only [Act.put,tka,tkb,tkc]
   replace hM:=hM.box p8 (YR _ (by intro k z e;cases e)) g9
   replace hA3:=hA3.box o8 p8 (YR _ (by intro k z e;cases e)) g9
   replace p7:=p7.kept g9 (by simp;omega)
   replace pR:=pR.kept g9 (by simp;omega)
   replace pT:=pT.kept g9 (by simp;omega)
   replace p8:=q9.out
   replace bw:=bw.grown g9 bw.size (fun k hk=>by cases hk;omega)
   clear q9 g9
   refine tkv 13 9 (.int .i64 (r.2.1.2:Int)) ?_
   refine tkv 14 10 (.bool r.2.2) ?_
   refine wpAnyH_done (by kernel_rfl) ?_ _
   go_wp2_with fail
   go_meet
   case rel=>exact ⟨((s1a,s1n,s1c),(s2a,s2n,s2c)),a3,n3,c3,Y7,Y8,rfl,rfl,rfl,rfl,bw,hM,hA3,p7,p8,pR,pT,oo2,oo3,by omega,by omega,by omega⟩
 obtain ⟨⟨⟨s1a,s1n,s1c⟩,⟨s2a,s2n,s2c⟩⟩,a3,n3,c3,Y7,Y8,rfl,rfl,rfl,rfl,bw,hM,hA3,p7,p8,pR,pT,oo2,oo3,hY7,hY8,hY⟩:=hcut
 have hbl:=hvr.1.bugs
 have hbf:∀ x ∈ r.1.2.1,I3.fits x:=fun x hx=>Wg (hvr.1.2.1 x hx)
 obtain ⟨i0,hi0,hz0,hz1,hz2⟩:=info_parts Xp
 have hno:s1a=none→s1n=0∧s1c=0:=fun h9=>by
  have h8:=hM.1.2.1 h9
  have h7:=hM.2.1.2.1
  simp only at h7 h8
  omega
 have hIB:=hM.2.1
 have hn1:=hM.2.1.1
 simp only at hIB hn1
 have o2:ZH a3 n3 (w.heap.size+1+1):=oo2
 have o3:ZH a3 n3 (w.heap.size+1+1+1):=oo3
 have hsz:w.heap.size+4≤wc.heap.size:=by have:=p7.lt;omega
 have l7:=p7.lt
 have l8:=p8.lt
 have x1:=p7.cell 1
 have y0:=p8.cell 0
 simp only [List.getElem?_cons_zero,List.getElem?_cons_succ] at x1 y0
 clear hM p7 p8 hvi kN pP pM oo2 oo3
 generalize hwc:wc=U1 at *
 clear hwc
 go_wp2_with fail
 refine wp_region_held_drew (S:=(fun w'=>w'.cell? ⟨Y7,1,none⟩=some (.slice s1a s1n s1c)∧w'.cell? ⟨Y8,0,none⟩=some (.slice a3 n3 c3))) (by kernel_rfl) ⟨x1,y0⟩ (fun hS0=>?_)
 refine tkv 1 21 (.pointer (some ⟨Y7,1,none⟩)) ?_
 refine tkv 2 22 (.slice s1a s1n s1c) ?_
 refine tkv 4 24 (.int .i64 (r.2.1.2:Int)) ?_
 refine tkv 6 26 (.agg #[.slice a3 n3 c3]) ?_
 refine tkv 7 27 (.bool r.2.2) ?_
 have bd:Below U1.heap.size U1 U1.drew:=by go_grown
 replace bw:=Zo bw bd
 replace hIB:=hIB.below bd
 replace hA3:=hA3.below bd
 replace pR:=pR.below bd
 replace pT:=pT.below bd
 replace hsz:w.heap.size+4≤U1.drew.heap.size:=hsz
 replace l7:Y7<U1.drew.heap.size:=l7
 replace l8:Y8<U1.drew.heap.size:=l8
 clear bd
 generalize U1.drew=V at *
 refine tkr 0 20 (fun K hK=>?_)
 have hb:Below V.heap.size V (V.alloc (.cells #[] 103)):=by go_grown
 have q:=XZ V 103 3 V.heap.size (Nat.le_refl _)
 replace hIB:=hIB.below hb
 have hsz2:V.heap.size≤(V.alloc (.cells #[] 103)).heap.size:=by simp
 go_simp
 refine hK.out _ _ ⟨Za hb _ _ hS0.1,Za hb _ _ hS0.2⟩ (fun hS0=>?_)
 clear hK
 generalize (V.alloc (.cells #[] 103))=V2 at *
 obtain ⟨G,hG⟩:∃ G,G=V.heap.size:=⟨_,rfl⟩
 rw [← hG] at q hsz2 l7 l8 ⊢
 have hGs:w.heap.size+4≤G:=by omega
 try simp only [Act.put,tka,tkb,tkc]
 refine tkr 3 23 (fun K hK=>?_)
 refine YN rfl _ _ 28 rfl G 103 i0 (.agg #[.int .i64 0,.int .i64 0,.int .i64 0]) 3 24 Tryz.underlying28 hi0 hz0 hz1 hz2 rfl (by decide) _ _ _ rfl q s1a s1n s1c rfl hno (Zn r.1.2.1) (by rw [Zw];omega) (fun ad ha=>by subst ha;exact Rm hIB) (Yk r.1.2.1) (by unfold maxLen;omega) (by omega) hsz2 ?_
 intro v' V3 q2 gr hob
 have hGlt:∀ g,Value.ownBlock (.slice (some ⟨G,0,none⟩) 0 0)=some g→w.heap.size+4≤g:=fun g hg=>by simp [Value.ownBlock] at hg;omega
 refine hK.out _ _ ⟨Zp gr hS0.1 (fun e=>by have e8:some Y7=some G:=e;injection e8 with e9;omega),Zp gr hS0.2 (fun e=>by have e8:some Y8=some G:=e;injection e8 with e9;omega)⟩ (fun hS0=>?_)
 clear hK
 have bV3:=hb.grown gr hb.size (fun k hk=>by have e8:some G=some k:=hk;injection e8 with e9;omega)
 replace hA3:=hA3.below bV3
 replace pR:=pR.below bV3
 replace pT:=pT.below bV3
 replace bw:=Zo bw bV3
 have q3:V3.ownsRow w.heap.size 103 3 v' r.1.2.1.length (Zn r.1.2.1):=by
  have h9:=Yz q2 (show w.heap.size≤G by omega)
  rw [show 0+s1n=r.1.2.1.length by omega,List.nil_append] at h9
  exact h9
 clear q q2 gr hob hb hIB hG hGlt bV3
 obtain ⟨va,vc,rfl⟩:=ZY q3
 try simp only [Act.put,tka,tkb,tkc]
 refine tkv 5 25 (.agg #[.slice va r.1.2.1.length vc,.int .i64 (r.2.1.2:Int)]) ?_
 refine tkz 8 (fun K hK=>?_)
 refine Zq rfl 30 _ _ rfl (w.heap.size+1+1) [.slice va r.1.2.1.length vc,.int .i64 (r.2.1.2:Int)] rfl rfl pR (by kernel_rfl) rfl rfl ?_
 intro V4 q8 g8
 refine hK.out _ _ ⟨Zp g8 hS0.1 (fun e=>by injection e with e9;dsimp only at e9;omega),Zp g8 hS0.2 (fun e=>by injection e with e9;dsimp only at e9;omega)⟩ (fun hS0=>?_)
 clear hK
 try simp only [Act.put,tka,tkb,tkc]
 replace hA3:=hA3.box2 o2 h2 pR (Mg _ _ (by intro k z e;cases e)) g8
 replace q3:=q3.kept g8 (.inr (Zk q3 pR (by decide)))
 replace pT:=pT.kept g8 (by simp)
 replace bw:=bw.grown g8 bw.size (fun k hk=>by cases hk;omega)
 replace pR:=q8.out
 clear q8 g8
 refine tkz 9 (fun K hK=>?_)
 refine Zq rfl 33 _ _ rfl (w.heap.size+1+1+1) [.slice a3 n3 c3] rfl rfl pT (by kernel_rfl) rfl rfl ?_
 intro V5 q9 g9
 refine hK.out _ _ ⟨Zp g9 hS0.1 (fun e=>by injection e with e9;dsimp only at e9;omega),Zp g9 hS0.2 (fun e=>by injection e with e9;dsimp only at e9;omega)⟩ (fun hS0=>?_)
 clear hK
 try simp only [Act.put,tka,tkb,tkc]
 replace hA3:=hA3.box o3 pT (YR _ (by intro k z e;cases e)) g9
 replace q3:=q3.kept g9 (.inr (Zk q3 pT (by decide)))
 replace pR:=pR.kept g9 (by simp)
 replace bw:=bw.grown g9 bw.size (fun k hk=>by cases hk;omega)
 replace pT:=q9.out
 clear q9 g9
 refine tkv 10 6 (.bool r.2.2) ?_
 refine wpAnyH_done (by kernel_rfl) ?_ _
 clear hS0
 have z0:=pR.cell 0
 have z1:=pR.cell 1
 have z2:=pT.cell 0
 simp only [List.getElem?_cons_zero,List.getElem?_cons_succ] at z0 z1 z2
 go_wp2
 refine bodyPost_ret (by simp [results,Tryz.results41,go_sem,z0,z1,z2];try rfl) rfl ?_
 exact ⟨NL.mk9 q3 hA3,bw⟩
end Go.Proofs.YtgmhhegckcionaaGreatDoor
