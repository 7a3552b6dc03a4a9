/-
  Joined: Ent5, Ent6.
-/
import Derived.Test.YthlcdhddickdiaaDoorE10
import Derived.Test.YthlcdhddickdiaaDoorE13
import Derived.Test.YthlcdhddickdiaaDoorE14

namespace Go.Proofs.YthlcdhddickdiaaDoor
set_option maxRecDepth 100000
set_option maxHeartbeats 16000000
open Go.RowKit
set_option linter.unusedVariables false
set_option linter.unusedSimpArgs false

def cntE (e:E3):Nat:=1+e.2.1.length*3+e.2.2.length
def mkE (k:Nat) (e:E3):E3:=(markB k,mkI ((k:Int)+1) e.2.1 e.2.1.length,mkTo ((k:Int)+1+e.2.1.length*3) e.2.2 e.2.2.length)
def mkM:Nat→List E3→Nat→List E3
 | _,es,0=>es
 | _,[],_+1=>[]
 | k,e::es,j+1=>mkE k e::mkM (k+cntE e) es j
theorem mkM_len:∀ (k:Nat) (es:List E3) (j:Nat),(mkM k es j).length=es.length
 | _,es,0=>by simp [mkM]
 | _,[],_+1=>by simp [mkM]
 | k,_::es,j+1=>by simp [mkM,mkM_len]
def cntM:List E3→Nat→Nat
 | _,0=>0
 | [],_+1=>0
 | e::es,j+1=>cntE e+cntM es j
theorem cntM_step:∀ (es:List E3) (j:Nat),j<es.length→cntM es (j+1)=cntM es j+cntE (es.getD j e3d)
 | [],j,h=>by simp at h
 | e::es,0,_=>by simp [cntM]
 | e::es,j+1,h=>by
  have:=cntM_step es j (by simpa using h)
  simp only [cntM] at this ⊢
  rw [List.getD_cons_succ]
  omega
theorem cntM_mono:∀ (es:List E3) (j:Nat),cntM es j≤cntM es es.length
 | [],0=>by simp [cntM]
 | [],_+1=>by simp [cntM]
 | e::es,0=>by simp [cntM]
 | e::es,j+1=>by
  have:=cntM_mono es j
  simp only [cntM,List.length_cons]
  omega
theorem cntM_cost:∀ (es:List E3),cntM es es.length≤3*(es.length+costT es)
 | []=>by simp [cntM]
 | e::es=>by
  have:=cntM_cost es
  simp only [cntM,List.length_cons,costT,List.map_cons,List.sum_cons,cntE,costE] at *
  omega
theorem mkM_set:∀ (k:Nat) (es:List E3) (j:Nat),j<es.length→(mkM k es j).set j (mkE (k+cntM es j) (es.getD j e3d))=mkM k es (j+1)
 | _,[],j,h=>by simp at h
 | k,e::es,0,_=>by simp [mkM,cntM]
 | k,e::es,j+1,h=>by
  have ih:=mkM_set (k+cntE e) es j (by simpa using h)
  have e9:k+cntM (e::es) (j+1)=k+cntE e+cntM es j:=by simp only [cntM];omega
  rw [e9,List.getD_cons_succ]
  simp only [mkM,List.set_cons_succ,ih]
theorem mkM_old:∀ (k:Nat) (es:List E3) (j i:Nat),j≤i→i<es.length→(mkM k es j).getD i e3d=es.getD i e3d
 | _,es,0,i,_,_=>by simp [mkM]
 | _,[],j+1,i,_,h=>by simp at h
 | k,e::es,j+1,i,h,hl=>by
  cases i with
  | zero=>omega
  | succ i =>
   have ih:=mkM_old (k+cntE e) es j i (by omega) (by simpa using hl)
   simpa [mkM] using ih
theorem mkM_get:∀ (k:Nat) (es:List E3) (j i:Nat),i<j→i<es.length→(mkM k es j).getD i e3d=mkE (k+cntM es i) (es.getD i e3d)
 | _,es,0,i,h,_=>by omega
 | _,[],j+1,i,_,h=>by simp at h
 | k,e::es,j+1,0,_,_=>by simp [mkM,cntM]
 | k,e::es,j+1,i+1,h,hl=>by
  have ih:=mkM_get (k+cntE e) es j i (by omega) (by simpa using hl)
  have e9:k+cntM (e::es) (i+1)=k+cntE e+cntM es i:=by simp only [cntM];omega
  rw [e9]
  simpa [mkM] using ih

def OwnMT (w:World) (B T:Nat) (v:Value) (es:List E3):Prop:=∃ cs,w.ownsRow B 39 3 v es.length cs∧EntsTo w B es.length cs es∧(∀ x,v.ownBlock=some x→x<T)∧∀ t,t<es.length→(∀ x,(cs.getD (t*3+1) undef).ownBlock=some x→x<T)∧∀ x,(cs.getD (t*3+2) undef).ownBlock=some x→x<T
theorem OwnMT.own {w:World} {B T:Nat} {v:Value} {es:List E3} (h:OwnMT w B T v es):OwnM w B v es:=by
 obtain ⟨cs,h1,h2,_⟩:=h
 exact ⟨cs,h1,h2⟩
theorem OwnMT.below {w w':World} {B T:Nat} {v:Value} {es:List E3} (h:OwnMT w B T v es) (hb:Below w.heap.size w w'):OwnMT w' B T v es:=by
 obtain ⟨cs,h1,h2,h3,h4⟩:=h
 exact ⟨cs,owns8 h1 hb,h2.below hb,h3,h4⟩
theorem OwnM.top9 {w:World} {B:Nat} {v:Value} {es:List E3} (h:OwnM w B v es):OwnMT w B w.heap.size v es:=by
 obtain ⟨cs,h1,h2⟩:=h
 exact ⟨cs,h1,h2,fun x hx=>(h1.lt x hx).2,fun t ht=>⟨fun x hx=>((h2.1 t ht).2.1.lt x hx).2,fun x hx=>((h2.1 t ht).2.2.lt x hx).2⟩⟩
theorem OwnMT.mid {B T B' T':Nat} {w w':World} {v:Value} {es:List E3} (h:OwnMT w B' T' v es) (hm:Mid9 B T w w') (hT:T≤B'):OwnMT w' B' T' v es:=by
 obtain ⟨cs,h1,h2,h3,h4⟩:=h
 exact ⟨cs,hm.owns h1 hT,⟨fun t ht=>⟨(h2.1 t ht).1,hm.owns (h2.1 t ht).2.1 hT,hm.owns (h2.1 t ht).2.2 hT⟩,h2.2⟩,h3,h4⟩
theorem getD_setE {L:List E3} {j t:Nat} {x:E3} (hj:j<L.length):(L.set j x).getD t e3d=if t=j then x else L.getD t e3d:=by
 by_cases e:t=j
 ·subst e;simp [List.getD,hj]
 ·rw [if_neg e];simp [List.getD,List.getElem?_set_ne (Ne.symm e)]

theorem EntsTo.key {w:World} {B P j:Nat} {cs:List Value} {L:List E3} {s:ByteArray} (h:EntsTo w B L.length cs L) (hj:j<L.length) (hc:j*3+2<cs.length) (hP:∀ t,t<L.length→(cs.getD (t*3+1) undef).ownBlock≠some P∧(cs.getD (t*3+2) undef).ownBlock≠some P) :
  EntsTo (w.setCell ⟨P,j*3,none⟩ (.string s)) B (L.set j (s,(L.getD j e3d).2)).length (cs.set (j*3) (.string s)) (L.set j (s,(L.getD j e3d).2)):=by
 rw [List.length_set]
 have o:∀ i,i≠j*3→(cs.set (j*3) (.string s))[i]?=cs[i]?:=fun i hi=>List.getElem?_set_ne (Ne.symm hi)
 have o1:∀ t,(cs.set (j*3) (.string s)).getD (t*3+1) undef=cs.getD (t*3+1) undef:=fun t=>by rw [List.getD,List.getD,o _ (by omega)]
 have o2:∀ t,(cs.set (j*3) (.string s)).getD (t*3+2) undef=cs.getD (t*3+2) undef:=fun t=>by rw [List.getD,List.getD,o _ (by omega)]
 refine ⟨fun t ht=>?_,fun t t' ht ht' hne=>by rw [o1,o1,o2,o2];exact h.2 t t' ht ht' hne⟩
 rw [o1,o2,getD_setE hj]
 obtain ⟨q1,q2⟩:=hP t ht
 have h2:=(h.1 t ht).2.setP (j:=j*3) q1 q2 (.string s)
 by_cases e:t=j
 ·subst e
  rw [if_pos rfl]
  exact ⟨by rw [List.getElem?_set_self (by omega)],h2⟩
 ·rw [if_neg e,o _ (by omega)]
  exact ⟨(h.1 t ht).1,h2⟩
theorem EntsTo.bugs {w w':World} {B j:Nat} {cs:List Value} {L:List E3} {bs:List I3} (h:EntsTo w B L.length cs L) (hj:j<L.length) (hl:bs.length=(L.getD j e3d).2.1.length)
  (hr:w'.ownsRow B 93 3 (cs.getD (j*3+1) undef) bs.length (flat bs)) (hg:w.grownBy w' (cs.getD (j*3+1) undef).ownBlock) :
  EntsTo w' B (L.set j ((L.getD j e3d).1,bs,(L.getD j e3d).2.2)).length cs (L.set j ((L.getD j e3d).1,bs,(L.getD j e3d).2.2)):=by
 rw [List.length_set]
 have hb:=(h.1 j hj).2.1
 refine ⟨fun t ht=>?_,h.2⟩
 rw [getD_setE hj]
 obtain ⟨k1,k2,k3⟩:=h.1 t ht
 have k3':=k3.kept hg (owns_ne k3 hb (by decide))
 by_cases e:t=j
 ·subst e
  rw [if_pos rfl]
  exact ⟨k1,hr,k3'⟩
 ·rw [if_neg e]
  exact ⟨k1,k2.kept hg ((h.2 t j ht hj e).1),k3'⟩
theorem EntsTo.foot {w w':World} {B j:Nat} {cs:List Value} {L:List E3} {zs:List Int} (h:EntsTo w B L.length cs L) (hj:j<L.length)
  (hr:w'.ownsRow B 3 1 (cs.getD (j*3+2) undef) zs.length (zs.map (Value.int .i64))) (hg:w.grownBy w' (cs.getD (j*3+2) undef).ownBlock) :
  EntsTo w' B (L.set j ((L.getD j e3d).1,(L.getD j e3d).2.1,zs)).length cs (L.set j ((L.getD j e3d).1,(L.getD j e3d).2.1,zs)):=by
 rw [List.length_set]
 have hb:=(h.1 j hj).2.2
 refine ⟨fun t ht=>?_,h.2⟩
 rw [getD_setE hj]
 obtain ⟨k1,k2,k3⟩:=h.1 t ht
 have k2':=k2.kept hg (owns_ne k2 hb (by decide))
 by_cases e:t=j
 ·subst e
  rw [if_pos rfl]
  exact ⟨k1,k2',hr⟩
 ·rw [if_neg e]
  exact ⟨k1,k2',k3.kept hg ((h.2 t j ht hj e).2)⟩


theorem Mid9.bel {B T:Nat} {w wr w1:World} (h:Mid9 B T w wr) (hb:Below wr.heap.size wr w1) (hB:B≤wr.heap.size):Mid9 B T w w1:=
 ⟨h.1.trans (hb.mono hB),fun j hj hl=>(hb.block j (Nat.lt_of_lt_of_le hl h.1.size)).trans (h.2 j hj hl)⟩
def TopsE (T n:Nat) (cs:List Value):Prop:=∀ t,t<n→(∀ x,(cs.getD (t*3+1) undef).ownBlock=some x→x<T)∧∀ x,(cs.getD (t*3+2) undef).ownBlock=some x→x<T

theorem markEntryS_own (B T:Nat) (v:Value) (k:Nat) (es:List E3) (w:World) (hk0:0<k) (hk:k≤100000000) (hcj:∀ j,j≤es.length→cntM es j≤10000000) (hr:∀ t,t<es.length→(es.getD t e3d).2.1.length≤1048576∧(es.getD t e3d).2.2.length≤1048576) (h:OwnMT w B T v es) :
  Calls Tryd.prog 23 #[v,.int .i64 k] w fun e w'=>e=.returned (.int .i64 (k+cntM es es.length))∧OwnMT w' B T v (mkM k es es.length)∧Mid9 B T w w':=by
 obtain ⟨cs0,h1,h2,h3,h4⟩:=h
 rcases h1.2 with ⟨rfl,h0⟩ | ⟨P,cap,cur,rfl,hPB,hh,hlc,hcm,_⟩
 ·obtain rfl:es=[]:=List.eq_nil_of_length_eq_zero h0
  have hfin:OwnMT w B T (.slice none 0 0) (mkM k [] 0):=⟨cs0,h1,h2,h3,h4⟩
  clear h1 h2 h3 h4
  go_enter Tryd.func23,Tryd.ntmps23
  go_wp2
  refine wp_loop_rounds 1 ?_
  rw [rounds_succ]
  go_wp2
  go_ret
  exact ⟨by simp [cntM],hfin,Mid9.refl _ _ _⟩
 ·clear hh
  unfold maxLen at hcm
  have hPT:P<T:=h3 P rfl
  clear h3
  generalize hn:es.length=n at *
  have HT0:Hid (TopsE T n cs0):=h4
  clear h4
  have h2':EntsTo w B n cs0 (mkM k es 0):=h2
  clear h2
  go_enter Tryd.func23,Tryd.ntmps23
  go_wp2
  go_loopw [1,5] (fun sk si wr=>∃ (j:Nat) (cs:List Value),j≤n∧si=.int .i64 j∧sk=.int .i64 ((k:Int)+cntM es j)∧wr.ownsRow B 39 3 (.slice (some ⟨P,0,none⟩) n cap) n cs∧EntsTo wr B n cs (mkM k es j)∧Hid (TopsE T n cs)∧Mid9 B T w wr) (fun _ si _=>n - (intOf si).toNat)
  case atStart=>exact ⟨0,cs0,by omega,rfl,by simp [cntM],h1,h2',HT0,Mid9.refl _ _ _⟩
  case round =>
   clear h1 h2' HT0
   obtain ⟨j,cs,hj,rfl,rfl,ho,hE,HT,hm⟩:=hrel
   by_cases hlt:j<n
   ·have hlt2:(j:Int)<(n:Int):=by omega
    have hj0:(0:Int)≤(j:Int):=by omega
    have hcs:=hcj j hj
    obtain ⟨r1,r2⟩:=hr j hlt
    have hstep:Hid (cntM es (j+1)=cntM es j+cntE (es.getD j e3d)):=cntM_step es j (by omega)
    have hset:=mkM_set k es j (by omega)
    have hold:=mkM_old k es j j (Nat.le_refl _) (by omega)
    have hML:=mkM_len k es j
    have hcl:=ho.1
    have hsz:B≤wr.heap.size:=by have:=(ho.lt P rfl);omega
    have hPw:P<wr.heap.size:=(ho.lt P rfl).2
    have hPn:∀ t,t<n→(cs.getD (t*3+1) undef).ownBlock≠some P∧(cs.getD (t*3+2) undef).ownBlock≠some P:=fun t ht=>by
     obtain ⟨_,q1,q2⟩:=hE.1 t ht
     constructor
     ·rcases owns_ne ho q1 (by decide) with h | h
      ·simp [Value.ownBlock] at h
      ·exact fun e=>h (by rw [e];rfl)
     ·rcases owns_ne ho q2 (by decide) with h | h
      ·simp [Value.ownBlock] at h
      ·exact fun e=>h (by rw [e];rfl)
    obtain ⟨tb,tf⟩:=HT.out j hlt
    obtain ⟨vb,hvb⟩:∃ vb,vb=cs.getD (j*3+1) undef:=⟨_,rfl⟩
    obtain ⟨vf,hvf⟩:∃ vf,vf=cs.getD (j*3+2) undef:=⟨_,rfl⟩
    rw [← hvb] at tb
    rw [← hvf] at tf
    have HVB:Hid (vb=cs.getD (j*3+1) undef):=hvb
    have HVF:Hid (vf=cs.getD (j*3+2) undef):=hvf
    clear hvb hvf
    generalize hL:mkM k es j=L at *
    have hLn:L.length=n:=by rw [hML,hn]
    clear hL hML
    rw [← hLn] at hE
    -- the key
    have kM:=fun W=>markText_is (k+cntM es j) W (by omega) (by omega)
    have e9:((k+cntM es j:Nat):Int)=(k:Int)+(cntM es j:Int):=by omega
    rw [e9] at kM
    clear e9
    generalize cntM es j=c at *
    go_wp2_with fail
    refine (kM _).mono ?_
    rintro e w1 ⟨rfl,hb⟩
    replace ho:=owns8 ho hb
    replace hE:=hE.below hb
    replace hm:=hm.bel hb hsz
    replace hsz:=Nat.le_trans hsz hb.size
    clear hb kM
    have f0:=ho.frozenAt (j*3)
    obtain ⟨u0,hu0⟩:∃ u,w1.cell? ⟨P,j*3,none⟩=some u:=⟨_,by rw [ho.cellAt _ (by omega)];exact List.getElem?_eq_getElem (by omega)⟩
    have ho2:=(ho.stored (j*3) (.string (markB (k+c)))).1
    have hE2:=hE.key (j:=j) (s:=markB (k+c)) (P:=P) (by omega) (by omega) (fun t ht=>hPn t (by omega))
    have hm2:Mid9 B T w (w1.setCell ⟨P,j*3,none⟩ (.string (markB (k+c)))):=hm.step (u:=.slice (some ⟨P,0,none⟩) n cap) (gset8 w1 P (j*3) _) hsz (fun x hx=>by cases hx;exact hPB) (fun x hx=>by cases hx;exact hPT)
    have hs2:B≤(w1.setCell ⟨P,j*3,none⟩ (.string (markB (k+c)))).heap.size:=by simpa using hsz
    have cb:(w1.setCell ⟨P,j*3,none⟩ (.string (markB (k+c)))).cell? ⟨P,j*3+1,none⟩=some vb:=by
     rw [HVB.out,ho2.cellAt _ (by omega),List.getElem?_set_ne (by omega)]
     simp [List.getD,List.getElem?_eq_getElem (show j*3+1<cs.length by omega)]
    clear ho hE hm hsz
    go_wp2_with fail
    clear f0 hu0
    have g1:(cs.set (j*3) (.string (markB (k+c)))).getD (j*3+1) undef=vb:=by rw [HVB.out,List.getD,List.getD,List.getElem?_set_ne (by omega)]
    have g2:(cs.set (j*3) (.string (markB (k+c)))).getD (j*3+2) undef=vf:=by rw [HVF.out,List.getD,List.getD,List.getElem?_set_ne (by omega)]
    have HT2:Hid (TopsE T n (cs.set (j*3) (.string (markB (k+c))))):=fun t ht=>by
     obtain ⟨a1,a2⟩:=HT.out t ht
     rw [List.getD,List.getElem?_set_ne (show j*3≠t*3+1 by omega),List.getD,List.getElem?_set_ne (show j*3≠t*3+2 by omega)]
     exact ⟨a1,a2⟩
    have hl2:(cs.set (j*3) (.string (markB (k+c)))).length=n*3:=by rw [List.length_set];exact hcl
    rw [hold] at hE2
    generalize (w1.setCell ⟨P,j*3,none⟩ (.string (markB (k+c))))=W2 at *
    generalize cs.set (j*3) (.string (markB (k+c)))=ds at *
    clear HT
    have G1:Hid (ds.getD (j*3+1) undef=vb):=g1
    have G2:Hid (ds.getD (j*3+2) undef=vf):=g2
    clear g1 g2 HVB HVF
    generalize es.getD j e3d=x at *
    have q:=(hE2.1 j (by rw [List.length_set];omega)).2
    rw [getD_setE (by omega),if_pos rfl,G1.out,G2.out] at q
    -- the bugs
    have kB:=markBugS_any B vb ((k:Int)+c+1) x.2.1 W2 (by omega) (by omega) r1 q.1
    refine kB.mono ?_
    rintro e W3 ⟨rfl,hrow,hg⟩
    have hE3:=hE2.bugs (j:=j) (bs:=mkI ((k:Int)+c+1) x.2.1 x.2.1.length) (by rw [List.length_set];omega) (by rw [getD_setE (by omega),if_pos rfl,mkI_len]) (by rw [G1.out,mkI_len];exact hrow) (by rw [G1.out];exact hg)
    have ho3:=ho2.kept hg (owns_ne ho2 q.1 (by decide))
    have hm3:=hm2.step hg hs2 (fun y hy=>(q.1.lt y hy).1) tb
    have hs3:B≤W3.heap.size:=by have:=(ho3.lt P rfl);omega
    have cf:W3.cell? ⟨P,j*3+2,none⟩=some vf:=by
     rw [← G2.out,ho3.cellAt _ (by omega)]
     simp [List.getD,List.getElem?_eq_getElem (show j*3+2<ds.length by omega)]
    rw [getD_setE (by omega),if_pos rfl,List.set_set] at hE3
    clear hE2 ho2 hm2 hs2 cb hrow hg kB q
    have q:=(hE3.1 j (by rw [List.length_set];omega)).2
    rw [getD_setE (by omega),if_pos rfl,G1.out,G2.out] at q
    -- the foot
    have kF:=markAny8 B vf ((k:Int)+c+1+x.2.1.length*3) x.2.2 W3 (by omega) (by omega) r2 q.2
    go_wp2_with fail
    refine kF.mono ?_
    rintro e W4 ⟨rfl,hrow,hg⟩
    have hE4:=hE3.foot (j:=j) (zs:=mkTo ((k:Int)+c+1+x.2.1.length*3) x.2.2 x.2.2.length) (by rw [List.length_set];omega) (by rw [G2.out,mkTo_len];exact hrow) (by rw [G2.out];exact hg)
    have ho4:=ho3.kept hg (owns_ne ho3 q.2 (by decide))
    have hm4:=hm3.step hg hs3 (fun y hy=>(q.2.lt y hy).1) tf
    rw [getD_setE (by omega),if_pos rfl,List.set_set,List.length_set,hLn] at hE4
    have e10:mkE (k+c) x=(markB (k+c),mkI ((k:Int)+c+1) x.2.1 x.2.1.length,mkTo ((k:Int)+c+1+x.2.1.length*3) x.2.2 x.2.2.length):=by
     unfold mkE
     rw [show ((k+c:Nat):Int)=(k:Int)+(c:Int) by omega]
    simp only at hE4
    rw [← e10,hset] at hE4
    have HK:Hid ((k:Int)+c+1+x.2.1.length*3+x.2.2.length=(k:Int)+cntM es (j+1)):=by rw [Hid,hstep.out,cntE];omega
    clear hE3 ho3 hm3 hs3 cf hrow hg kF q e10 hset hstep hold tb tf hPn
    go_wp2
    go_roundw
    case rel=>exact ⟨j+1,ds,by omega,by go_num,by rw [← HK.out],ho4,hE4,HT2,hm4⟩
    case measure=>simp [intOf];omega
   ·obtain rfl:j=n:=by omega
    have hlen:=mkM_len k es j
    go_wp2
    go_ret
    exact ⟨rfl,⟨cs,by rw [hlen,hn];exact ho,by rw [hlen,hn];exact hE,fun x hx=>by cases hx;exact hPT,by rw [hlen,hn];exact HT.out⟩,hm⟩
end Go.Proofs.YthlcdhddickdiaaDoor
