/-
  Joined: Ent6.
-/
import Derived.Test.YthmgampabhbpoaaDoorB31

namespace Go.Proofs.YthmgampabhbpoaaDoor
set_option maxRecDepth 100000
set_option maxHeartbeats 16000000
open Go.RowKit
set_option linter.unusedVariables false
set_option linter.unusedSimpArgs false

theorem Mid9.bel {B T:Nat} {w wr w1:World} (h:Mid9 B T w wr) (hb:Below wr.heap.size wr w1) (hB:B≤wr.heap.size):Mid9 B T w w1:=
 ⟨h.1.trans (hb.mono hB),fun j hj hl=>(hb.block j (Nat.lt_of_lt_of_le hl h.1.size)).trans (h.2 j hj hl)⟩
def TopsE (T n:Nat) (cs:List Value):Prop:=∀ t,t<n→(∀ x,(cs.getD (t*3+1) undef).ownBlock=some x→x<T)∧∀ x,(cs.getD (t*3+2) undef).ownBlock=some x→x<T

theorem markEntryS_own (B T:Nat) (v:Value) (k:Nat) (es:List E3) (w:World) (hk0:0<k) (hk:k≤100000000) (hcj:∀ j,j≤es.length→cntM es j≤10000000) (hr:∀ t,t<es.length→(es.getD t e3d).2.1.length≤1048576∧(es.getD t e3d).2.2.length≤1048576) (h:OwnMT w B T v es) :
  Calls Tryd.prog 57 #[v,.int .i64 k] w fun e w'=>e=.returned (.int .i64 (k+cntM es es.length))∧OwnMT w' B T v (mkM k es es.length)∧Mid9 B T w w':=by
 obtain ⟨cs0,h1,h2,h3,h4⟩:=h
 rcases h1.2 with ⟨rfl,h0⟩ | ⟨P,cap,cur,rfl,hPB,hh,hlc,hcm,_⟩
 ·obtain rfl:es=[]:=List.eq_nil_of_length_eq_zero h0
  have hfin:OwnMT w B T (.slice none 0 0) (mkM k [] 0):=⟨cs0,h1,h2,h3,h4⟩
  clear h1 h2 h3 h4
  go_enter Tryd.func57,Tryd.ntmps57
  go_wp2
  refine wp_loop_rounds 1 ?_
  rw [rounds_succ]
  go_wp2
  go_ret
  exact ⟨by simp [cntM],hfin,Mid9.refl _ _ _⟩
 ·clear hh
  unfold maxLen at hcm
  have hPT:P<T:=h3 P rfl
  clear h3
  generalize hn:es.length=n at *
  have HT0:Hid (TopsE T n cs0):=h4
  clear h4
  have h2':EntsTo w B n cs0 (mkM k es 0):=h2
  clear h2
  go_enter Tryd.func57,Tryd.ntmps57
  go_wp2
  go_loopw [1,5] (fun sk si wr=>∃ (j:Nat) (cs:List Value),j≤n∧si=.int .i64 j∧sk=.int .i64 ((k:Int)+cntM es j)∧wr.ownsRow B 30 3 (.slice (some ⟨P,0,none⟩) n cap) n cs∧EntsTo wr B n cs (mkM k es j)∧Hid (TopsE T n cs)∧Mid9 B T w wr) (fun _ si _=>n - (intOf si).toNat)
  case atStart=>exact ⟨0,cs0,by omega,rfl,by simp [cntM],h1,h2',HT0,Mid9.refl _ _ _⟩
  case round =>
   clear h1 h2' HT0
   obtain ⟨j,cs,hj,rfl,rfl,ho,hE,HT,hm⟩:=hrel
   by_cases hlt:j<n
   ·have hlt2:(j:Int)<(n:Int):=by omega
    have hj0:(0:Int)≤(j:Int):=by omega
    have hcs:=hcj j hj
    obtain ⟨r1,r2⟩:=hr j hlt
    have hstep:Hid (cntM es (j+1)=cntM es j+cntE (es.getD j e3d)):=cntM_step es j (by omega)
    have hset:=mkM_set k es j (by omega)
    have hold:=mkM_old k es j j (Nat.le_refl _) (by omega)
    have hML:=mkM_len k es j
    have hcl:=ho.1
    have hsz:B≤wr.heap.size:=by have:=(ho.lt P rfl);omega
    have hPw:P<wr.heap.size:=(ho.lt P rfl).2
    have hPn:∀ t,t<n→(cs.getD (t*3+1) undef).ownBlock≠some P∧(cs.getD (t*3+2) undef).ownBlock≠some P:=fun t ht=>by
     obtain ⟨_,q1,q2⟩:=hE.1 t ht
     constructor
     ·rcases owns_ne ho q1 (by decide) with h | h
      ·simp [Value.ownBlock] at h
      ·exact fun e=>h (by rw [e];rfl)
     ·rcases owns_ne ho q2 (by decide) with h | h
      ·simp [Value.ownBlock] at h
      ·exact fun e=>h (by rw [e];rfl)
    obtain ⟨tb,tf⟩:=HT.out j hlt
    obtain ⟨vb,hvb⟩:∃ vb,vb=cs.getD (j*3+1) undef:=⟨_,rfl⟩
    obtain ⟨vf,hvf⟩:∃ vf,vf=cs.getD (j*3+2) undef:=⟨_,rfl⟩
    rw [← hvb] at tb
    rw [← hvf] at tf
    have HVB:Hid (vb=cs.getD (j*3+1) undef):=hvb
    have HVF:Hid (vf=cs.getD (j*3+2) undef):=hvf
    clear hvb hvf
    generalize hL:mkM k es j=L at *
    have hLn:L.length=n:=by rw [hML,hn]
    clear hL hML
    rw [← hLn] at hE
    -- the key
    have kM:=fun W=>markText_is (k+cntM es j) W (by omega) (by omega)
    have e9:((k+cntM es j:Nat):Int)=(k:Int)+(cntM es j:Int):=by omega
    rw [e9] at kM
    clear e9
    generalize cntM es j=c at *
    go_wp2_with fail
    refine (kM _).mono ?_
    rintro e w1 ⟨rfl,hb⟩
    replace ho:=owns8 ho hb
    replace hE:=hE.below hb
    replace hm:=hm.bel hb hsz
    replace hsz:=Nat.le_trans hsz hb.size
    clear hb kM
    have f0:=ho.frozenAt (j*3)
    obtain ⟨u0,hu0⟩:∃ u,w1.cell? ⟨P,j*3,none⟩=some u:=⟨_,by rw [ho.cellAt _ (by omega)];exact List.getElem?_eq_getElem (by omega)⟩
    have ho2:=(ho.stored (j*3) (.string (markB (k+c)))).1
    have hE2:=hE.key (j:=j) (s:=markB (k+c)) (P:=P) (by omega) (by omega) (fun t ht=>hPn t (by omega))
    have hm2:Mid9 B T w (w1.setCell ⟨P,j*3,none⟩ (.string (markB (k+c)))):=hm.step (u:=.slice (some ⟨P,0,none⟩) n cap) (gset8 w1 P (j*3) _) hsz (fun x hx=>by cases hx;exact hPB) (fun x hx=>by cases hx;exact hPT)
    have hs2:B≤(w1.setCell ⟨P,j*3,none⟩ (.string (markB (k+c)))).heap.size:=by simpa using hsz
    have cb:(w1.setCell ⟨P,j*3,none⟩ (.string (markB (k+c)))).cell? ⟨P,j*3+1,none⟩=some vb:=by
     rw [HVB.out,ho2.cellAt _ (by omega),List.getElem?_set_ne (by omega)]
     simp [List.getD,List.getElem?_eq_getElem (show j*3+1<cs.length by omega)]
    clear ho hE hm hsz
    go_wp2_with fail
    clear f0 hu0
    have g1:(cs.set (j*3) (.string (markB (k+c)))).getD (j*3+1) undef=vb:=by rw [HVB.out,List.getD,List.getD,List.getElem?_set_ne (by omega)]
    have g2:(cs.set (j*3) (.string (markB (k+c)))).getD (j*3+2) undef=vf:=by rw [HVF.out,List.getD,List.getD,List.getElem?_set_ne (by omega)]
    have HT2:Hid (TopsE T n (cs.set (j*3) (.string (markB (k+c))))):=fun t ht=>by
     obtain ⟨a1,a2⟩:=HT.out t ht
     rw [List.getD,List.getElem?_set_ne (show j*3≠t*3+1 by omega),List.getD,List.getElem?_set_ne (show j*3≠t*3+2 by omega)]
     exact ⟨a1,a2⟩
    have hl2:(cs.set (j*3) (.string (markB (k+c)))).length=n*3:=by rw [List.length_set];exact hcl
    rw [hold] at hE2
    generalize (w1.setCell ⟨P,j*3,none⟩ (.string (markB (k+c))))=W2 at *
    generalize cs.set (j*3) (.string (markB (k+c)))=ds at *
    clear HT
    have G1:Hid (ds.getD (j*3+1) undef=vb):=g1
    have G2:Hid (ds.getD (j*3+2) undef=vf):=g2
    clear g1 g2 HVB HVF
    generalize es.getD j e3d=x at *
    have q:=(hE2.1 j (by rw [List.length_set];omega)).2
    rw [getD_setE (by omega),if_pos rfl,G1.out,G2.out] at q
    -- the bugs
    have kB:=markBugS_any B vb ((k:Int)+c+1) x.2.1 W2 (by omega) (by omega) r1 q.1
    refine kB.mono ?_
    rintro e W3 ⟨rfl,hrow,hg⟩
    have hE3:=hE2.bugs (j:=j) (bs:=mkI ((k:Int)+c+1) x.2.1 x.2.1.length) (by rw [List.length_set];omega) (by rw [getD_setE (by omega),if_pos rfl,mkI_len]) (by rw [G1.out,mkI_len];exact hrow) (by rw [G1.out];exact hg)
    have ho3:=ho2.kept hg (owns_ne ho2 q.1 (by decide))
    have hm3:=hm2.step hg hs2 (fun y hy=>(q.1.lt y hy).1) tb
    have hs3:B≤W3.heap.size:=by have:=(ho3.lt P rfl);omega
    have cf:W3.cell? ⟨P,j*3+2,none⟩=some vf:=by
     rw [← G2.out,ho3.cellAt _ (by omega)]
     simp [List.getD,List.getElem?_eq_getElem (show j*3+2<ds.length by omega)]
    rw [getD_setE (by omega),if_pos rfl,List.set_set] at hE3
    clear hE2 ho2 hm2 hs2 cb hrow hg kB q
    have q:=(hE3.1 j (by rw [List.length_set];omega)).2
    rw [getD_setE (by omega),if_pos rfl,G1.out,G2.out] at q
    -- the foot
    have kF:=markAny8 B vf ((k:Int)+c+1+x.2.1.length*3) x.2.2 W3 (by omega) (by omega) r2 q.2
    go_wp2_with fail
    refine kF.mono ?_
    rintro e W4 ⟨rfl,hrow,hg⟩
    have hE4:=hE3.foot (j:=j) (zs:=mkTo ((k:Int)+c+1+x.2.1.length*3) x.2.2 x.2.2.length) (by rw [List.length_set];omega) (by rw [G2.out,mkTo_len];exact hrow) (by rw [G2.out];exact hg)
    have ho4:=ho3.kept hg (owns_ne ho3 q.2 (by decide))
    have hm4:=hm3.step hg hs3 (fun y hy=>(q.2.lt y hy).1) tf
    rw [getD_setE (by omega),if_pos rfl,List.set_set,List.length_set,hLn] at hE4
    have e10:mkE (k+c) x=(markB (k+c),mkI ((k:Int)+c+1) x.2.1 x.2.1.length,mkTo ((k:Int)+c+1+x.2.1.length*3) x.2.2 x.2.2.length):=by
     unfold mkE
     rw [show ((k+c:Nat):Int)=(k:Int)+(c:Int) by omega]
    simp only at hE4
    rw [← e10,hset] at hE4
    have HK:Hid ((k:Int)+c+1+x.2.1.length*3+x.2.2.length=(k:Int)+cntM es (j+1)):=by rw [Hid,hstep.out,cntE];omega
    clear hE3 ho3 hm3 hs3 cf hrow hg kF q e10 hset hstep hold tb tf hPn
    go_wp2
    go_roundw
    case rel=>exact ⟨j+1,ds,by omega,by go_num,by rw [← HK.out],ho4,hE4,HT2,hm4⟩
    case measure=>simp [intOf];omega
   ·obtain rfl:j=n:=by omega
    have hlen:=mkM_len k es j
    go_wp2
    go_ret
    exact ⟨rfl,⟨cs,by rw [hlen,hn];exact ho,by rw [hlen,hn];exact hE,fun x hx=>by cases hx;exact hPT,by rw [hlen,hn];exact HT.out⟩,hm⟩
end Go.Proofs.YthmgampabhbpoaaDoor
