/-
  Joined: Ent3, Ent4.
-/
import Derived.Test.YthlcdhddickdiaaDoorE12

namespace Go.Proofs.YthlcdhddickdiaaDoor
set_option maxRecDepth 100000
set_option maxHeartbeats 16000000
open Go.RowKit
set_option linter.unusedVariables false
set_option linter.unusedSimpArgs false

theorem info_entry:(Tryd.prog.info? 39).map (fun i=>(i.zero,i.size,i.bytes))=some (some (.agg #[.string ⟨#[]⟩,.slice none 0 0,.slice none 0 0]),3,64):=by kernel_rfl

def Aprt (u v:Value):Prop:=u.ownBlock=none∨u.ownBlock≠v.ownBlock
def EntsTo (w:World) (B k:Nat) (cs:List Value) (es:List E3):Prop:=
 (∀ t,t<k→cs[t*3]?=some (.string (es.getD t e3d).1)∧OwnE w B (cs.getD (t*3+1) undef) (cs.getD (t*3+2) undef) (es.getD t e3d)) ∧
 ∀ t t',t<k→t'<k→t≠t'→Aprt (cs.getD (t*3+1) undef) (cs.getD (t'*3+1) undef)∧Aprt (cs.getD (t*3+2) undef) (cs.getD (t'*3+2) undef)
theorem EntsTo.below {w w':World} {B k:Nat} {cs:List Value} {es:List E3} (h:EntsTo w B k cs es) (hb:Below w.heap.size w w'):EntsTo w' B k cs es:=⟨fun t ht=>⟨(h.1 t ht).1,(h.1 t ht).2.below hb⟩,h.2⟩
theorem OwnE.setP {w:World} {B P j:Nat} {vb vf:Value} {e:E3} (h:OwnE w B vb vf e) (h1:vb.ownBlock≠some P) (h2:vf.ownBlock≠some P) (u:Value):OwnE (w.setCell ⟨P,j,none⟩ u) B vb vf e:=
 ⟨ownsRow_setCell_other h.1 h1 u,ownsRow_setCell_other h.2 h2 u⟩
theorem aprt_new {w:World} {B B' e s n:Nat} {u v:Value} {xs:List Value} (hu:w.ownsRow B e s u n xs) (hv:∀ x,v.ownBlock=some x→w.heap.size≤x):Aprt u v∧Aprt v u:=by
 constructor
 ·rcases hb:u.ownBlock with _ | x
  ·exact .inl hb
  ·refine .inr ?_
   rw [hb]
   intro h
   have:=(hu.lt x hb).2
   have:=hv x h.symm
   omega
 ·rcases hb:v.ownBlock with _ | x
  ·exact .inl hb
  ·refine .inr ?_
   rw [hb]
   intro h
   have:=(hu.lt x h.symm).2
   have:=hv x hb
   omega
theorem getD_set3 {cs:List Value} {i:Nat} {a b c:Value} (h:i+2<cs.length) :
  (∀ j,j<i∨i+2<j→(((cs.set i a).set (i+1) b).set (i+2) c)[j]?=cs[j]?)∧(((cs.set i a).set (i+1) b).set (i+2) c)[i]?=some a∧(((cs.set i a).set (i+1) b).set (i+2) c)[i+1]?=some b∧(((cs.set i a).set (i+1) b).set (i+2) c)[i+2]?=some c:=by
 refine ⟨fun j hj=>?_,?_,?_,?_⟩
 ·rw [List.getElem?_set_ne (by omega),List.getElem?_set_ne (by omega),List.getElem?_set_ne (by omega)]
 ·rw [List.getElem?_set_ne (by omega),List.getElem?_set_ne (by omega),List.getElem?_set_self (by omega)]
 ·rw [List.getElem?_set_ne (by omega),List.getElem?_set_self (by simp;omega)]
 ·rw [List.getElem?_set_self (by simp;omega)]
theorem EntsTo.put {w w':World} {B P k:Nat} {cs:List Value} {es:List E3} {vb vf:Value} (h:EntsTo w B k cs es) (hb:Below w.heap.size w w') (hk:k*3+2<cs.length)
  (hn:OwnE w' w.heap.size vb vf (es.getD k e3d)) (hB:B≤w.heap.size) (hP:P<w.heap.size) (hPn:∀ t,t<k→(cs.getD (t*3+1) undef).ownBlock≠some P∧(cs.getD (t*3+2) undef).ownBlock≠some P) :
  EntsTo (((w'.setCell ⟨P,k*3,none⟩ (.string (es.getD k e3d).1)).setCell ⟨P,k*3+1,none⟩ vb).setCell ⟨P,k*3+2,none⟩ vf) B (k+1) (((cs.set (k*3) (.string (es.getD k e3d).1)).set (k*3+1) vb).set (k*3+2) vf) es:=by
 obtain ⟨g1,g2,g3,g4⟩:=getD_set3 (a:=.string (es.getD k e3d).1) (b:=vb) (c:=vf) hk
 generalize ((cs.set (k*3) (.string (es.getD k e3d).1)).set (k*3+1) vb).set (k*3+2) vf=ds at *
 have old:∀ t,t<k→ds[t*3]?=cs[t*3]?∧ds.getD (t*3+1) undef=cs.getD (t*3+1) undef∧ds.getD (t*3+2) undef=cs.getD (t*3+2) undef:=fun t ht =>
  ⟨g1 _ (by omega),by rw [List.getD,List.getD,g1 _ (by omega)],by rw [List.getD,List.getD,g1 _ (by omega)]⟩
 have nb:ds.getD (k*3+1) undef=vb:=by rw [List.getD,g3];rfl
 have nf:ds.getD (k*3+2) undef=vf:=by rw [List.getD,g4];rfl
 have lb:∀ x,vb.ownBlock=some x→w.heap.size≤x:=fun x hx=>(hn.1.lt x hx).1
 have lf:∀ x,vf.ownBlock=some x→w.heap.size≤x:=fun x hx=>(hn.2.lt x hx).1
 have pb:vb.ownBlock≠some P:=fun e=>by have:=lb P e;omega
 have pf:vf.ownBlock≠some P:=fun e=>by have:=lf P e;omega
 refine ⟨fun t ht=>?_,fun t t' ht ht' hne=>?_⟩
 ·by_cases e:t=k
  ·subst e
   rw [nb,nf]
   exact ⟨g2,(((hn.lower hB).setP pb pf _).setP pb pf _).setP pb pf _⟩
  ·obtain ⟨o1,o2,o3⟩:=old t (by omega)
   obtain ⟨h1,h2⟩:=h.1 t (by omega)
   obtain ⟨q1,q2⟩:=hPn t (by omega)
   rw [o1,o2,o3]
   exact ⟨h1,(((h2.below hb).setP q1 q2 _).setP q1 q2 _).setP q1 q2 _⟩
 ·by_cases e:t=k
  ·subst e
   obtain ⟨_,o2,o3⟩:=old t' (by omega)
   obtain ⟨_,h2⟩:=h.1 t' (by omega)
   rw [nb,nf,o2,o3]
   exact ⟨(aprt_new (B':=0) h2.1 lb).2,(aprt_new (B':=0) h2.2 lf).2⟩
  ·obtain ⟨_,o2,o3⟩:=old t (by omega)
   by_cases e':t'=k
   ·subst e'
    obtain ⟨_,h2⟩:=h.1 t (by omega)
    rw [nb,nf,o2,o3]
    exact ⟨(aprt_new (B':=0) h2.1 lb).1,(aprt_new (B':=0) h2.2 lf).1⟩
   ·obtain ⟨_,o2',o3'⟩:=old t' (by omega)
    rw [o2,o3,o2',o3']
    exact h.2 t t' (by omega) (by omega) hne

def OwnM (w:World) (B:Nat) (v:Value) (es:List E3):Prop:=∃ cs,w.ownsRow B 39 3 v es.length cs∧EntsTo w B es.length cs es
theorem OwnM.below {w w':World} {B:Nat} {v:Value} {es:List E3} (h:OwnM w B v es) (hb:Below w.heap.size w w'):OwnM w' B v es:=by
 obtain ⟨cs,h1,h2⟩:=h
 exact ⟨cs,owns8 h1 hb,h2.below hb⟩
theorem OwnM.ents {w:World} {B:Nat} {a:Option Addr} {len cap:Nat} {es:List E3} (h:OwnM w B (.slice a len cap) es) (hf:∀ e ∈ es,e.fits):Ents w a len cap es:=by
 obtain ⟨cs,h1,h2⟩:=h
 rcases h1.2 with ⟨hv,h0⟩ | ⟨g,cap',cur,hv,_,hh,hn,hcm,_⟩
 ·injection hv with e1 e2 e3
  subst e1 e2 e3
  obtain rfl:es=[]:=List.eq_nil_of_length_eq_zero h0
  exact ⟨rfl,Nat.le_refl _,by unfold maxLen;omega,.inl rfl⟩
 ·injection hv with e1 e2 e3
  subst e1 e2 e3
  have hl:=h1.1
  refine ⟨rfl,hn,hcm,.inr ⟨g,0,rfl,(h1.lt g rfl).2,fun t ht=>?_⟩⟩
  have hc:=fun j (hj:j<es.length*3)=>h1.cellAt j hj
  obtain ⟨k1,k2⟩:=h2.1 t ht
  obtain ⟨s,e1,e2⟩:=k2.slices
  have hg:∀ j,j<cs.length→cs[j]?=some (cs.getD j undef):=fun j hj=>by simp [List.getD,List.getElem?_eq_getElem hj]
  refine ⟨s,?_,?_,?_,?_⟩
  ·rw [Nat.zero_add,hc _ (by omega)];exact k1
  ·rw [Nat.zero_add,hc _ (by omega),hg _ (by omega),e1]
  ·rw [Nat.zero_add,hc _ (by omega),hg _ (by omega),e2]
  ·rw [e1,e2] at k2
   exact k2.mem (hf _ (by simp [List.getD,List.getElem?_eq_getElem ht]))
theorem Ents.fits {w:World} {a:Option Addr} {len cap:Nat} {es:List E3} (h:Ents w a len cap es):∀ e ∈ es,e.fits:=by
 intro e he
 obtain ⟨t,ht,rfl⟩:=List.getElem_of_mem he
 obtain ⟨h1,_,_,hc⟩:=h
 rcases hc with h0 | ⟨b,off,_,_,hc⟩
 ·omega
 ·obtain ⟨s,_,_,_,hm⟩:=hc t (by omega)
  have e2:es.getD t e3d=es[t]:=by simp [List.getD,List.getElem?_eq_getElem ht]
  rw [e2] at hm
  exact hm.fits

theorem toEntryS_own (a:Option Addr) (len cap:Nat) (es:List E3) (w:World) (h:Ents w a len cap es) (hn:len≤1048576) (hr:∀ t,t<len→(es.getD t e3d).2.1.length≤1048576∧(es.getD t e3d).2.2.length≤1048576) :
  Calls Tryd.prog 33 #[.slice a len cap] w fun e w'=>e=.returned (.slice (some ⟨w.heap.size,0,none⟩) len len) ∧
   OwnM w' w.heap.size (.slice (some ⟨w.heap.size,0,none⟩) len len) es∧Below w.heap.size w w':=by
 obtain ⟨i0,hi,hz0,hz1,hz2⟩:=info_parts info_entry
 obtain ⟨hl,hlc,hcm,hcase⟩:=h
 unfold maxLen at hcm
 go_enter Tryd.func33,Tryd.ntmps33
 go_wp2_with (at_make;refine wpList_make_full _ rfl _ _ 31 rfl w.heap.size 39 i0 (.agg #[.string ⟨#[]⟩,.slice none 0 0,.slice none 0 0]) 3 Tryd.underlying31 hi hz0 hz1 _ _ _ _ len rfl rfl (by omega) (by omega) ?b2 ?b3 (Nat.le_refl _) ?_)
 case b2=>rw [hz2];omega
 case b3=>unfold maxLen;omega
 intro w0 hown0 hgrow0
 have hb0:Below w.heap.size w w0:=(Below.refl _ _).grown hgrow0 (Nat.le_refl _) (fun k h=>by cases h)
 obtain ⟨cs0,hcs0⟩:∃ cs0,cs0=(madeCells #[Value.string ⟨#[]⟩,.slice none 0 0,.slice none 0 0] (len*3)).toList:=⟨_,rfl⟩
 rw [← hcs0] at hown0
 clear hgrow0 hcs0
 go_wp2
 go_loopw [4] (fun si wr=>∃ (k:Nat) (cs:List Value),k≤len∧si=.int .i64 k∧EntsTo wr w.heap.size k cs es∧wr.ownsRow w.heap.size 39 3 (.slice (some ⟨w.heap.size,0,none⟩) len len) len cs∧Below w.heap.size w wr) (fun si _=>len - (intOf si).toNat)
 case atStart=>exact ⟨0,cs0,by omega,rfl,⟨fun t ht=>by omega,fun t _ ht=>by omega⟩,hown0,hb0⟩
 case round =>
  obtain ⟨k,cs,hk,rfl,hR,ho,hbel⟩:=hrel
  by_cases hlt:k<len
  ·rcases hcase with h0 | ⟨b,off,rfl,hblt,hcell⟩
   ·omega
   have hlt2:(k:Int)<(len:Int):=by omega
   obtain ⟨s,c0,c1,c2,hm⟩:=hcell k hlt
   obtain ⟨r1,r2⟩:=hr k hlt
   replace c0:=cell8 hbel c0
   replace c1:=cell8 hbel c1
   replace c2:=cell8 hbel c2
   have kE:=toEntry_own (es.getD k e3d) s wr (hm.below hbel) r1 r2
   have hput:=fun w' vb vf hb hk9 hn hPn=>EntsTo.put (w':=w') (P:=w.heap.size) (vb:=vb) (vf:=vf) hR hb hk9 hn hbel.size ((ho.lt w.heap.size rfl).2) hPn
   have hPn:∀ t,t<k→(cs.getD (t*3+1) undef).ownBlock≠some w.heap.size∧(cs.getD (t*3+2) undef).ownBlock≠some w.heap.size:=fun t ht=>by
    obtain ⟨_,q1,q2⟩:=hR.1 t ht
    constructor
    ·rcases owns_ne ho q1 (by decide) with h | h
     ·simp [Value.ownBlock] at h
     ·exact fun e=>h (by rw [e];rfl)
    ·rcases owns_ne ho q2 (by decide) with h | h
     ·simp [Value.ownBlock] at h
     ·exact fun e=>h (by rw [e];rfl)
   have hcl:=ho.1
   clear hcell hm hR
   generalize (es.getD k e3d)=x at *
   obtain ⟨xk,xb,xz⟩:=x
   obtain ⟨⟨a1,n1,d1⟩,⟨a2,n2,d2⟩⟩:=s
   unfold entV at kE
   simp only at c0 c1 c2 kE r1 r2 hput
   have hk0:(0:Int)≤(k:Int):=by omega
   go_wp2_with fail
   refine kE.mono ?_
   rintro e w1 ⟨⟨⟨⟨b1,m1,e1⟩,⟨b2,m2,e2⟩⟩,rfl,hOE⟩,hb1⟩
   simp only at hOE ⊢
   have R2:=hput w1 _ _ hb1 (by omega) hOE hPn
   clear hput hPn hOE kE c0 c1 c2
   have ho1:=owns_below ho hb1
   have hbel1:Below w.heap.size w w1:=bel_trans hbel hb1
   clear ho hbel hb1
   have hlen:=ho1.1
   have f0:=ho1.frozenAt (k*3)
   have f1:=ho1.frozenAt (k*3+1)
   have f2:=ho1.frozenAt (k*3+2)
   obtain ⟨u0,hu0⟩:∃ u,w1.cell? ⟨w.heap.size,k*3,none⟩=some u:=⟨_,by rw [ho1.cellAt _ (by omega)];exact List.getElem?_eq_getElem (by omega)⟩
   obtain ⟨u1,hu1⟩:∃ u,w1.cell? ⟨w.heap.size,k*3+1,none⟩=some u:=⟨_,by rw [ho1.cellAt _ (by omega)];exact List.getElem?_eq_getElem (by omega)⟩
   obtain ⟨u2,hu2⟩:∃ u,w1.cell? ⟨w.heap.size,k*3+2,none⟩=some u:=⟨_,by rw [ho1.cellAt _ (by omega)];exact List.getElem?_eq_getElem (by omega)⟩
   have R:=(((ho1.stored (k*3) (.string xk)).1.stored (k*3+1) (.slice b1 m1 e1)).1.stored (k*3+2) (.slice b2 m2 e2)).1
   have hb3:Below w.heap.size w (((w1.setCell ⟨w.heap.size,k*3,none⟩ (.string xk)).setCell ⟨w.heap.size,k*3+1,none⟩ (.slice b1 m1 e1)).setCell ⟨w.heap.size,k*3+2,none⟩ (.slice b2 m2 e2)):=
    ((hbel1.setCell (Nat.le_refl _) _).setCell (Nat.le_refl _) _).setCell (Nat.le_refl _) _
   clear ho1 hbel1
   generalize ((cs.set (k*3) (.string xk)).set (k*3+1) (.slice b1 m1 e1)).set (k*3+2) (.slice b2 m2 e2)=cs' at R R2
   go_wp2
   go_roundw
   case rel=>exact ⟨k+1,cs',by omega,by go_num,R2,R,hb3⟩
   case measure=>simp [intOf];omega
  ·obtain rfl:k=len:=by omega
   clear hcase
   go_wp2
   go_ret
   exact ⟨rfl,⟨cs,by rw [hl];exact ho,by rw [hl];exact hR⟩,hbel⟩

theorem OwnE.low {w:World} {B:Nat} {vb vf:Value} {e:E3} (h:OwnE w B vb vf e) {p:Addr} (hp:p.block<B) (u:Value):OwnE (w.setCell p u) B vb vf e:=⟨ownsRow_setCell_below h.1 hp u,ownsRow_setCell_below h.2 hp u⟩
theorem OwnM.low {w:World} {B:Nat} {v:Value} {es:List E3} (h:OwnM w B v es) {p:Addr} (hp:p.block<B) (u:Value):OwnM (w.setCell p u) B v es:=by
 obtain ⟨cs,h1,h2,h3⟩:=h
 exact ⟨cs,ownsRow_setCell_below h1 hp u,fun t ht=>⟨(h2 t ht).1,(h2 t ht).2.low hp u⟩,h3⟩
theorem toMemo_own (a:Option Addr) (len cap:Nat) (es:List E3) (w:World) (h:Ents w a len cap es) (hn:len≤1048576) (hr:∀ t,t<len→(es.getD t e3d).2.1.length≤1048576∧(es.getD t e3d).2.2.length≤1048576) :
  Calls Tryd.prog 9 #[.agg #[.slice a len cap]] w fun e w'=>e=.returned (.agg #[.slice (some ⟨w.heap.size+3,0,none⟩) len len]) ∧
   OwnM w' (w.heap.size+3) (.slice (some ⟨w.heap.size+3,0,none⟩) len len) es∧Below w.heap.size w w':=by
 have bw:Below w.heap.size w (((w.alloc (.cells #[.slice a len cap] 24)).alloc (.cells #[.slice none 0 0] 33)).alloc (.cells #[.slice none 0 0] 33)):=by go_grown
 have pR:Blk (((w.alloc (.cells #[.slice a len cap] 24)).alloc (.cells #[.slice none 0 0] 33)).alloc (.cells #[.slice none 0 0] 33)) (w.heap.size+1) 33 [.slice none 0 0]:=blkOld _ (blkAt _ _ _ (by simp))
 have pO:Blk (((w.alloc (.cells #[.slice a len cap] 24)).alloc (.cells #[.slice none 0 0] 33)).alloc (.cells #[.slice none 0 0] 33)) (w.heap.size+1+1) 33 [.slice none 0 0]:=blkAt _ _ _ (by simp)
 have hsz:(((w.alloc (.cells #[.slice a len cap] 24)).alloc (.cells #[.slice none 0 0] 33)).alloc (.cells #[.slice none 0 0] 33)).heap.size=w.heap.size+3:=by simp
 have kE:=fun W (hb:Below w.heap.size w W)=>toEntryS_own a len cap es W (h.below hb) hn hr
 go_enter Tryd.func9,Tryd.ntmps9
 go_wp2_with fail
 refine (kE _ bw).mono ?_
 generalize (((w.alloc (.cells #[.slice a len cap] 24)).alloc (.cells #[.slice none 0 0] 33)).alloc (.cells #[.slice none 0 0] 33))=U at *
 rintro e w1 ⟨rfl,hM,hb⟩
 rw [hsz] at hM ⊢
 replace bw:=bel8 bw hb
 replace pR:=pR.below hb
 replace pO:=pO.below hb
 clear hb kE hsz
 have u0:=pO.cell 0
 have f0:=pO.frozen 0
 simp only [List.getElem?_cons_zero] at u0
 replace hM:=hM.low (p:=⟨w.heap.size+1+1,0,none⟩) (show w.heap.size+1+1<w.heap.size+3 by omega) (.slice (some ⟨w.heap.size+3,0,none⟩) len len)
 replace bw:=bw.setCell (p:=⟨w.heap.size+1+1,0,none⟩) (show w.heap.size≤w.heap.size+1+1 by omega) (.slice (some ⟨w.heap.size+3,0,none⟩) len len)
 replace pR:=pR.off ⟨w.heap.size+1+1,0,none⟩ (.slice (some ⟨w.heap.size+3,0,none⟩) len len) (by simp)
 replace pO:=pO.set 0 (.slice (some ⟨w.heap.size+3,0,none⟩) len len)
 simp only [List.set_cons_zero] at pO
 have o0:=pO.cell 0
 have r0:=pR.cell 0
 have fr0:=pR.frozen 0
 simp only [List.getElem?_cons_zero] at o0 r0
 have pZ:=pR.set 0 (.slice (some ⟨w.heap.size+3,0,none⟩) len len)
 simp only [List.set_cons_zero] at pZ
 have z0:=pZ.cell 0
 simp only [List.getElem?_cons_zero] at z0
 have bz:=bw.setCell (p:=⟨w.heap.size+1,0,none⟩) (show w.heap.size≤w.heap.size+1 by omega) (.slice (some ⟨w.heap.size+3,0,none⟩) len len)
 replace hM:=hM.low (p:=⟨w.heap.size+1,0,none⟩) (show w.heap.size+1<w.heap.size+3 by omega) (.slice (some ⟨w.heap.size+3,0,none⟩) len len)
 clear pO pR pZ bw
 go_wp2
 refine bodyPost_ret (by simp [results,Tryd.results9,go_sem,z0];try rfl) rfl ?_
 exact ⟨rfl,hM,bz⟩


theorem eqEntry_same (e:E3) (s s':Sl2) (w:World) (h:Emem w s e) (h':Emem w s' e) :
  Calls Tryd.prog 13 #[entV e.1 s,entV e.1 s'] w fun x w'=>x=.returned (.bool true)∧Below w.heap.size w w':=by
 obtain ⟨_,hB,hF,_⟩:=h
 obtain ⟨_,hB',hF',_⟩:=h'
 have l1:=hB.1
 have l2:=hF.1
 have l1':=hB'.1
 have l2':=hF'.1
 obtain ⟨k,bs,zs⟩:=e
 obtain ⟨⟨a1,n1,c1⟩,⟨a2,n2,c2⟩⟩:=s
 obtain ⟨⟨b1,m1,d1⟩,⟨b2,m2,d2⟩⟩:=s'
 unfold entV
 simp only at *
 obtain rfl:n1=m1:=by omega
 obtain rfl:n2=m2:=by omega
 have kB:=fun W (hb:Below w.heap.size w W)=>eqBugS_same a1 b1 n1 c1 d1 bs W (hB.below hb) (hB'.below hb)
 have kF:=fun W (hb:Below w.heap.size w W)=>eq8 a2 b2 n2 c2 d2 zs W (hF.below hb) (hF'.below hb)
 clear hB hF hB' hF' l1 l2 l1' l2'
 have hkk:(k.toList == k.toList)=true:=by simp
 have bw:Below w.heap.size w ((w.alloc (.cells #[.string k,.slice a1 n1 c1,.slice a2 n2 c2] 39)).alloc (.cells #[.string k,.slice b1 n1 d1,.slice b2 n2 d2] 39)):=by go_grown
 have pA:Blk ((w.alloc (.cells #[.string k,.slice a1 n1 c1,.slice a2 n2 c2] 39)).alloc (.cells #[.string k,.slice b1 n1 d1,.slice b2 n2 d2] 39)) w.heap.size 39 [.string k,.slice a1 n1 c1,.slice a2 n2 c2]:=blkOld _ (blkAt _ _ _ rfl)
 have pB:Blk ((w.alloc (.cells #[.string k,.slice a1 n1 c1,.slice a2 n2 c2] 39)).alloc (.cells #[.string k,.slice b1 n1 d1,.slice b2 n2 d2] 39)) (w.heap.size+1) 39 [.string k,.slice b1 n1 d1,.slice b2 n2 d2]:=blkAt _ _ _ (by simp)
 go_enter Tryd.func13,Tryd.ntmps13
 go_wp2_with fail
 refine (kB _ bw).mono ?_
 rintro x w1 ⟨rfl,hb⟩
 replace bw:=bel8 bw hb
 replace pA:=pA.below hb
 replace pB:=pB.below hb
 clear hb kB
 have y2:=pA.cell 2
 have z2:=pB.cell 2
 simp only [List.getElem?_cons_zero,List.getElem?_cons_succ] at y2 z2
 go_wp2_with fail
 refine (kF _ bw).mono ?_
 rintro x w2 ⟨rfl,hb⟩
 replace bw:=bel8 bw hb
 clear hb kF
 go_wp2
 go_ret
 exact ⟨rfl,bw⟩

theorem eqEntryS_same (a a':Option Addr) (len cap cap':Nat) (es:List E3) (w:World) (h:Ents w a len cap es) (h':Ents w a' len cap' es) :
  Calls Tryd.prog 22 #[.slice a len cap,.slice a' len cap'] w fun e w'=>e=.returned (.bool true)∧Below w.heap.size w w':=by
 obtain ⟨hl,hlc,hcm,hcase⟩:=h
 obtain ⟨_,hlc',hcm',hcase'⟩:=h'
 unfold maxLen at hcm hcm'
 have hne:((len:Int) != (len:Int))=false:=by simp
 by_cases h0:len=0
 ·subst h0
  go_enter Tryd.func22,Tryd.ntmps22
  go_wp2
  refine wp_loop_rounds 1 ?_
  rw [rounds_succ]
  go_wp2
  go_ret
  exact ⟨rfl,Below.refl _ _⟩
 ·rcases hcase with h0' | ⟨b,off,rfl,hblt,hcell⟩
  ·exact absurd h0' h0
  rcases hcase' with h0' | ⟨b',off',rfl,hblt',hcell'⟩
  ·exact absurd h0' h0
  go_enter Tryd.func22,Tryd.ntmps22
  go_wp2
  go_loopw [5] (fun si wr=>∃ k:Nat,k≤len∧si=.int .i64 k∧Below w.heap.size w wr) (fun si _=>len - (intOf si).toNat)
  case atStart=>exact ⟨0,by omega,rfl,Below.refl _ _⟩
  case round =>
   obtain ⟨k,hk,rfl,bw⟩:=hrel
   by_cases hlt:k<len
   ·obtain ⟨s,c0,c1,c2,hm⟩:=hcell k hlt
    obtain ⟨s',d0,d1,d2,hm'⟩:=hcell' k hlt
    have kE:=fun W (hb:Below w.heap.size w W)=>eqEntry_same (es.getD k e3d) s s' W (hm.below hb) (hm'.below hb)
    replace c0:=cell8 bw c0
    replace c1:=cell8 bw c1
    replace c2:=cell8 bw c2
    replace d0:=cell8 bw d0
    replace d1:=cell8 bw d1
    replace d2:=cell8 bw d2
    clear hcell hcell' hm hm'
    generalize es.getD k e3d=x at *
    obtain ⟨xk,xb,xz⟩:=x
    obtain ⟨⟨p1,pn1,pc1⟩,⟨p2,pn2,pc2⟩⟩:=s
    obtain ⟨⟨q1,qn1,qc1⟩,⟨q2,qn2,qc2⟩⟩:=s'
    unfold entV at kE
    simp only at c0 c1 c2 d0 d1 d2 kE
    have hlt2:(k:Int)<(len:Int):=by omega
    have hk0:(0:Int)≤(k:Int):=by omega
    have bd:Below w.heap.size w wr.drew:=bel8 bw (by go_grown)
    go_wp2_with fail
    refine wp_region_held_drew (S:=(fun w'=>w'.cell? ⟨b,off+k*3,none⟩=some (.string xk)∧w'.cell? ⟨b,off+k*3+1,none⟩=some (.slice p1 pn1 pc1)∧w'.cell? ⟨b,off+k*3+2,none⟩=some (.slice p2 pn2 pc2)∧w'.cell? ⟨b',off'+k*3,none⟩=some (.string xk)∧w'.cell? ⟨b',off'+k*3+1,none⟩=some (.slice q1 qn1 qc1)∧w'.cell? ⟨b',off'+k*3+2,none⟩=some (.slice q2 qn2 qc2))) (by kernel_rfl) ⟨c0,c1,c2,d0,d1,d2⟩ (fun hS0=>?_)
    refine tkm 0 17 (.slice (some ⟨b,off,none⟩) len cap) ?_
    refine tkm 1 18 (.int .i64 k) ?_
    refine tkm 2 19 (.pointer (some ⟨b,off+k*3,none⟩)) ?_
    refine tkm 3 20 (.agg #[.string xk,.slice p1 pn1 pc1,.slice p2 pn2 pc2]) ?_
    refine tkm 4 21 (.slice (some ⟨b',off',none⟩) len cap') ?_
    refine tkm 5 22 (.int .i64 k) ?_
    refine tkm 6 23 (.pointer (some ⟨b',off'+k*3,none⟩)) ?_
    refine tkm 7 24 (.agg #[.string xk,.slice q1 qn1 qc1,.slice q2 qn2 qc2]) ?_
    refine tkr 8 25 (fun K hK=>?_)
    go_simp
    refine (kE _ bd).mono ?_
    rintro e w1 ⟨rfl,hb⟩
    go_wp2_with fail
    refine hK.out _ _ ?_ (fun hS1=>?_)
    ·exact ⟨cells_kept hb _ _ hS0.1,cells_kept hb _ _ hS0.2.1,cells_kept hb _ _ hS0.2.2.1,cells_kept hb _ _ hS0.2.2.2.1,cells_kept hb _ _ hS0.2.2.2.2.1,cells_kept hb _ _ hS0.2.2.2.2.2⟩
    clear hK
    refine tkm 9 26 (.bool false) ?_
    refine wpAnyH_done (by kernel_rfl) ?_ _
    replace bw:=bel8 bd hb
    clear hb bd hS0 hS1 c0 c1 c2 d0 d1 d2 kE
    go_wp2
    go_roundw
    case rel=>exact ⟨k+1,by omega,by go_num,bw⟩
    case measure=>simp [intOf];omega
   ·go_wp2
    go_ret
    exact ⟨rfl,bw⟩

theorem eqMemo_same (a a':Option Addr) (len cap cap':Nat) (es:List E3) (w:World) (h:Ents w a len cap es) (h':Ents w a' len cap' es) :
  Calls Tryd.prog 12 #[.agg #[.slice a len cap],.agg #[.slice a' len cap']] w fun e w'=>e=.returned (.bool true)∧Below w.heap.size w w':=by
 have kE:=fun W (hb:Below w.heap.size w W)=>eqEntryS_same a a' len cap cap' es W (h.below hb) (h'.below hb)
 have bw:Below w.heap.size w ((w.alloc (.cells #[.slice a len cap] 33)).alloc (.cells #[.slice a' len cap'] 33)):=by go_grown
 go_enter Tryd.func12,Tryd.ntmps12
 go_wp2_with fail
 refine (kE _ bw).mono ?_
 rintro x w1 ⟨rfl,hb⟩
 replace bw:=bel8 bw hb
 clear hb kE
 go_wp2
 go_ret
 exact ⟨rfl,bw⟩
end Go.Proofs.YthlcdhddickdiaaDoor
