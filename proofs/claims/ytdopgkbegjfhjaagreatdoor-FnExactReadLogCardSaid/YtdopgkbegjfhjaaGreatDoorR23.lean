/-
  Joined: UnProgS.
-/
import Derived.Test.YtdopgkbegjfhjaaGreatDoorR04
import Derived.Test.YtdopgkbegjfhjaaGreatDoorR20

namespace Go.Proofs.YtdopgkbegjfhjaaGreatDoor
set_option maxRecDepth 100000
set_option maxHeartbeats 16000000
open Go.RowKit

theorem ne_block {w:World} {B B' e e' s s' n n' c' X:Nat} {v:Value} {xs xs':List Value} (h:w.ownsRow B e s v n xs) (hX:w.ownsRow B' e' s' (.slice (some ⟨X,0,none⟩) n' c') n' xs') (he:e≠e'):v.ownBlock≠some X:=by
 rcases owns_ne h hX he with h0 | h0
 ·rw [h0];simp
 ·exact h0
theorem box_new (w:World) (v:Value) (t:TypeId) (B:Nat) (hB:B≤w.heap.size):(w.alloc (.cells #[v] t)).ownsRow B t 1 (.slice (some ⟨w.heap.size,0,none⟩) 1 1) 1 [v]:=World.ownsRow_lit w #[v] 1 hB (by unfold maxLen;omega) rfl
theorem empty_new (w:World) (t s B:Nat) (hB:B≤w.heap.size):(w.alloc (.cells #[] t)).ownsRow B t s (.slice (some ⟨w.heap.size,0,none⟩) 0 0) 0 []:=World.ownsRow_lit w #[] 0 hB (by unfold maxLen;omega) (by simp)

theorem RowsOwn.push {w:World} {B k s0:Nat} {vs:List Value} {sv:Value} {done:List (List I3)} {r:List I3} (h:RowsOwn w B k vs done) (hv:vs.length=k) (hd:done.length=k) (hlow:∀ t x,t<k→(vs.getD t undef).ownBlock=some x→x<s0)
  (hn:w.ownsRow s0 109 3 sv r.length (flat r)) (hB:B≤s0):RowsOwn w B (k+1) (vs++[sv]) (done++[r]):=by
 have hold:∀ t,t<k→(done++[r]).getD t []=done.getD t []:=fun t ht=>by simp [List.getD,List.getElem?_append_left (show t<done.length by omega)]
 have hnew:(done++[r]).getD k []=r:=by subst hd;simp [List.getD]
 have hvold:∀ t,t<k→(vs++[sv]).getD t undef=vs.getD t undef:=fun t ht=>by simp [List.getD,List.getElem?_append_left (show t<vs.length by omega)]
 have hvnew:(vs++[sv]).getD k undef=sv:=by subst hv;simp [List.getD]
 refine ⟨fun t ht=>?_,fun t t' ht ht' hne=>?_⟩
 ·by_cases e:t=k
  ·subst e
   rw [hnew,hvnew]
   exact owns_lower hn hB
  ·rw [hold t (by omega),hvold t (by omega)]
   exact h.1 t (by omega)
 ·by_cases e:t=k
  ·subst e
   rw [hvnew,hvold t' (by omega)]
   rcases hb:sv.ownBlock with _ | x
   ·exact .inl rfl
   ·refine .inr fun h'=>?_
    have h1:=(hn.lt x hb).1
    have h2:=hlow t' x (by omega) h'.symm
    omega
  ·rw [hvold t (by omega)]
   by_cases e':t'=k
   ·subst e'
    rw [hvnew]
    rcases hb:(vs.getD t undef).ownBlock with _ | x
    ·exact .inl rfl
    ·refine .inr fun h'=>?_
     have h1:=(hn.lt x h'.symm).1
     have h2:=hlow t x (by omega) hb
     omega
   ·rw [hvold t' (by omega)]
    exact h.2 t t' (by omega) (by omega) hne
theorem one_sl (a:Option Addr) (n c:Nat):∀ u ∈ [Value.slice a n c],u.oneCell'=true:=by intro u hu;simp at hu;subst hu;rfl
theorem one_cell_new' (w:World) (x:Value) (t:TypeId):∀ j u,[x][j]?=some u→(w.alloc (.cells #[x] t)).cell? ((⟨w.heap.size,0,none⟩:Addr).add j)=some u:=by
 intro j u hj
 match j,hj with
 | 0,hj=>simp at hj;subst hj;simp [Addr.add]
 | (j+1),hj=>simp at hj

theorem own_dr {w:World} {B e k n:Nat} {v:Value} {cs:List Value} (h:w.ownsRow B e k v n cs):w.drew.ownsRow B e k v n cs:=h
theorem three_dr (w:World) (x y z:Value) (t:TypeId):∀ j u,[x,y,z][j]?=some u→(w.alloc (.cells #[x,y,z] t)).drew.cell? ((⟨w.heap.size,0,none⟩:Addr).add j)=some u:=cell_three_new w x y z t
theorem below_app3 {B e k n:Nat} {wr w3:World} {o:Obj} {v:Value} {cs:List Value} (hb:B≤wr.heap.size) (hr:wr.ownsRow B e k v n cs) (hg:(wr.alloc o).drew.grownBy w3 v.ownBlock):Below B wr w3:=
 ((by go_grown:Below wr.heap.size wr (wr.alloc o).drew).mono hb).grown hg (by simp;omega) (fun j hj=>(hr.lt _ hj).1)
theorem cells_lo3 {B:Nat} {wr w3:World} (h:Below B wr w3) {p:Addr} {v:Value} (hp:p.block<B) (hc:wr.cell? p=some v):w3.cell? p=some v:=by rw [h.cell hp];exact hc
theorem specUnProg_long (s:ByteArray) (w:World) (hs:s.size≤1048576) (h:65536<s.size) :
  Calls Tryz.prog 47 #[.string s] w fun e w'=>e=.returned (.tuple #[.agg #[.slice none 0 0],.int .i64 2])∧Below w.heap.size w w':=by
 go_enter Tryz.func47,Tryz.ntmps47
 go_wp2
 go_returns
 exact ⟨rfl,by go_grown⟩

theorem specUnProg_any (s:ByteArray) (w:World) (hs:s.size≤65536) :
  Calls Tryz.prog 47 #[.string s] w fun e w'=>UnProg s w.heap.size e w'∧Below w.heap.size w w':=by
 obtain ⟨i0,hi,hz0,hz1,hz2⟩:=info_parts info_instr
 obtain ⟨j0,hj,hy0,hy1,hy2⟩:=info_parts info_instrs
 go_enter Tryz.func47,Tryz.ntmps47
 go_wp2_with fail
 refine (l01Read_any s _ hs).mono ?_
 rintro e w1 ⟨hk,hb1⟩
 have hR0:=box_new w (.slice none 0 0) 69 w.heap.size (Nat.le_refl _)
 have hR1:=owns_below hR0 hb1
 have b1:Below w.heap.size w w1:=bel_trans (by go_grown) hb1
 have hRw:w.heap.size<w1.heap.size:=by have:=hb1.size;simp at this;omega
 clear hb1 hR0
 rcases hk with ⟨zs,v,hL,rfl,ho⟩ | ⟨hN,v,rfl⟩
 ·obtain ⟨a,cap,rfl,hO⟩:=Own.of_owns ho
  have hz4:zs.length≤4096:=hL.choose_spec.2.1
  have hsm0:small (ofNats zs):=hL.small
  have HL:Hid (Listed s zs):=hL
  have hI0:=hO.ints
  clear hL ho hO
  obtain ⟨n,hn⟩:∃ n,n=zs.length:=⟨_,rfl⟩
  rw [← hn] at hI0 hz4
  rw [← hn]
  clear hn
  go_wp2_with fail
  have hS2:=empty_new w1 107 1 w1.heap.size (Nat.le_refl _)
  have hS3:=hS2.alloc (.cells #[.slice (some ⟨w1.heap.size,0,none⟩) 0 0] 69)
  have hX3:=box_new (w1.alloc (.cells #[] 107)) (.slice (some ⟨w1.heap.size,0,none⟩) 0 0) 69 w1.heap.size (by simp)
  have hR3:=(hR1.alloc (.cells #[] 107)).alloc (.cells #[.slice (some ⟨w1.heap.size,0,none⟩) 0 0] 69)
  have b13:Below w1.heap.size w1 ((w1.alloc (.cells #[] 107)).alloc (.cells #[.slice (some ⟨w1.heap.size,0,none⟩) 0 0] 69)):=by go_grown
  try simp only [World.size_alloc] at hX3
  clear hS2 hR1
  generalize (w1.alloc (.cells #[] 107)).alloc (.cells #[.slice (some ⟨w1.heap.size,0,none⟩) 0 0] 69)=w3 at hS3 hX3 hR3 b13
  have hXw:w1.heap.size<w1.heap.size+1:=by omega
  generalize w1.heap.size+1=X at hX3 hXw
  go_loopw [4,7] (fun sl si wr=>∃ (k:Nat) (aL:Option Addr) (lenL capL:Nat) (rest:List Int) (done:List (List I3)) (vs:List Value) (aV:Option Addr) (capV:Nat),k≤3∧si=.int .i64 k∧sl=.slice aL lenL capL∧Ints .i64 w1 aL lenL capL rest∧small rest∧lenL≤4096∧Hid (PState (ofNats zs) k done rest)∧done.length=k∧Hid (allFit done) ∧
    RowsOwn wr w1.heap.size k vs done∧wr.ownsRow w1.heap.size 107 1 (.slice aV k capV) k vs∧wr.ownsRow w1.heap.size 69 1 (.slice (some ⟨X,0,none⟩) 1 1) 1 [.slice aV k capV]∧wr.ownsRow w.heap.size 69 1 (.slice (some ⟨w.heap.size,0,none⟩) 1 1) 1 [.slice none 0 0]∧Below w1.heap.size w1 wr) (fun _ si _=>3 - (intOf si).toNat)
  case atStart=>exact ⟨0,a,n,cap,ofNats zs,[],[],some ⟨w1.heap.size,0,none⟩,0,by omega,rfl,rfl,hI0,hsm0,hz4,PState.start _,rfl,(fun r hr=>by cases hr),⟨fun t ht=>by omega,fun t _ ht=>by omega⟩,hS3,hX3,hR3,b13⟩
  case round =>
   clear hS3 hX3 hR3 b13 hI0 hsm0 hz4
   obtain ⟨k,aL,lenL,capL,rest,done,vs,aV,capV,hk,rfl,rfl,hI,hsm,hlL,hPS,hdl,hAF,hR,hV,hX,hRr,hbel⟩:=hrel
   have hbw:Below w.heap.size w wr:=b1.trans (hbel.mono b1.size)
   by_cases hlt:k<3
   ·have hlt2:(k:Int)<3:=by omega
    have hk0:(0:Int)≤(k:Int):=by omega
    obtain ⟨hl,hlc,hcm,hcase⟩:=hI
    unfold maxLen at hcm
    by_cases hl0:lenL=0
    ·subst hl0
     obtain rfl:rest=[]:=List.eq_nil_of_length_eq_zero hl
     have HP:Hid (IsProg s [] 3):=IsProg.of_read HL.out (fun rows hr=>by rw [hPS.out.empty hlt] at hr;cases hr)
     have kR:wr.cell? ⟨w.heap.size,0,none⟩=some (.slice none 0 0):=by simpa using hRr.cellAt 0 (by omega)
     have fR:=hRr.frozenAt 0
     have hb3:Below w.heap.size w (wr.setCell ⟨w.heap.size,0,none⟩ (.slice none 0 0)):=hbw.setCell (Nat.le_refl _) _
     have k3:(wr.setCell ⟨w.heap.size,0,none⟩ (.slice none 0 0)).cell? ⟨w.heap.size,0,none⟩=some (.slice none 0 0):=World.cell?_setCell_same' _ _ _ (by rw [kR];rfl)
     clear hPS HL hR hV hX hRr hbel hbw
     go_wp2
     clear kR fR
     generalize wr.setCell ⟨w.heap.size,0,none⟩ (.slice none 0 0)=w9 at hb3 k3
     refine bodyPost_ret (by simp [results,Tryz.results47,go_sem,k3];try rfl) rfl ?_
     exact ⟨⟨_,[],3,HP.out,rfl,allFit_nil,OwnProg.nil _ _⟩,hb3⟩
    ·rcases hcase with h0 | ⟨b,off,rfl,hblt,hcell⟩
     ·exact absurd h0 hl0
     obtain ⟨z,ys,rfl⟩:∃ z ys,rest=z::ys:=by
      cases rest with
      | nil=>simp at hl;omega
      | cons z ys=>exact ⟨z,ys,rfl⟩
     obtain ⟨hz0',hz9⟩:=hsm z (by simp)
     obtain ⟨m,rfl⟩:∃ m:Nat,z=(m:Int):=⟨z.toNat,by omega⟩
     have hyl:ys.length+1=lenL:=by simpa using hl
     have hc0:w1.cell? ⟨b,off,none⟩=some (.int .i64 (m:Int)):=by first | exact hcell 0 (by omega) | simpa using hcell 0 (by omega)
     have hc0':wr.cell? ⟨b,off,none⟩=some (.int .i64 (m:Int)):=by rw [hbel.cell (p:=⟨b,_,none⟩) hblt];exact hc0
     have hl0':((lenL:Int) == 0)=false:=by simp;omega
     have hl0'':(0:Int)<(lenL:Int):=by omega
     by_cases hsh:ys.length<3*m
     ·have HP:Hid (IsProg s [] 3):=IsProg.of_read HL.out (fun rows hr=>by rw [hPS.out.short hlt (by omega)] at hr;cases hr)
      have kR:wr.cell? ⟨w.heap.size,0,none⟩=some (.slice none 0 0):=by simpa using hRr.cellAt 0 (by omega)
      have fR:=hRr.frozenAt 0
      have hb3:Below w.heap.size w (wr.setCell ⟨w.heap.size,0,none⟩ (.slice none 0 0)):=hbw.setCell (Nat.le_refl _) _
      have k3:(wr.setCell ⟨w.heap.size,0,none⟩ (.slice none 0 0)).cell? ⟨w.heap.size,0,none⟩=some (.slice none 0 0):=World.cell?_setCell_same' _ _ _ (by rw [kR];rfl)
      clear hPS HL hR hV hX hRr hbel hbw hcell hsm hl
      go_wp2
      clear kR fR
      generalize wr.setCell ⟨w.heap.size,0,none⟩ (.slice none 0 0)=w9 at hb3 k3
      refine bodyPost_ret (by simp [results,Tryz.results47,go_sem,k3];try rfl) rfl ?_
      exact ⟨⟨_,[],3,HP.out,rfl,allFit_nil,OwnProg.nil _ _⟩,hb3⟩
     ·have hPS2:Hid (PState (ofNats zs) (k+1) (done++[triples (ys.take (3*m))]) (ys.drop (3*m))):=by
       have:=hPS.out.step hlt (by omega)
       rw [Int.toNat_natCast] at this
       exact this
      have hII:Ints .i64 w1 (some ⟨b,off,none⟩) lenL capL ((m:Int)::ys):=⟨hl,hlc,by unfold maxLen;omega,.inr ⟨b,off,rfl,hblt,hcell⟩⟩
      obtain ⟨aR,hslR,hIr⟩:=slice_l (lo:=1+3*m) hII (by omega)
      have eR:((m:Int)::ys).drop (1+3*m)=ys.drop (3*m):=by rw [show 1+3*m=3*m+1 by omega];rfl
      rw [eR] at hIr
      have hAF2:Hid (allFit (done++[triples (ys.take (3*m))])):=allFit_snoc hAF.out (fun x hx=>hsm x (by simp [List.mem_of_mem_take hx]))
      have hsm2:small (ys.drop (3*m)):=fun x hx=>hsm x (by simp [List.mem_of_mem_drop hx])
      have htl:(triples (ys.take (3*m))).length=m:=triples_length m _ (by rw [List.length_take];omega)
      have hget:∀ i,i<m→w1.cell? ⟨b,off+(3*i+1),none⟩=some (.int .i64 ((triples (ys.take (3*m))).getD i (0,0,0)).1)∧w1.cell? ⟨b,off+(3*i+2),none⟩=some (.int .i64 ((triples (ys.take (3*m))).getD i (0,0,0)).2.1)∧w1.cell? ⟨b,off+(3*i+3),none⟩=some (.int .i64 ((triples (ys.take (3*m))).getD i (0,0,0)).2.2):=fun i hi=>by
       rw [triples_get m _ i (by rw [List.length_take];omega) hi]
       have g0:=hcell (3*i+1) (by omega)
       have g1:=hcell (3*i+2) (by omega)
       have g2:=hcell (3*i+3) (by omega)
       have t0:(ys.take (3*m)).getD (3*i) 0=ys.getD (3*i) 0:=by simp [List.getD,show 3*i<3*m by omega]
       have t1:(ys.take (3*m)).getD (3*i+1) 0=ys.getD (3*i+1) 0:=by simp [List.getD,show 3*i+1<3*m by omega]
       have t2:(ys.take (3*m)).getD (3*i+2) 0=ys.getD (3*i+2) 0:=by simp [List.getD,show 3*i+2<3*m by omega]
       rw [t0,t1,t2]
       exact ⟨by rw [g0];simp,by rw [g1];simp,by rw [g2];simp⟩
      have hlE:¬ (lenL:Int)<1+3*(m:Int):=by omega
      clear hcell hsm hl hPS eR hII HL hAF
      generalize triples (ys.take (3*m))=r at hPS2 htl hget hAF2
      generalize ys.drop (3*m)=rest2 at hPS2 hIr hsm2
      obtain ⟨wo,hwo⟩:∃ wo,wo=wr:=⟨_,rfl⟩
      subst hwo
      have hCo:=empty_new wo 109 3 wo.heap.size (Nat.le_refl _)
      have bCo:Below wo.heap.size wo (wo.alloc (.cells #[] 109)):=by go_grown
      have hblo:b<wo.heap.size:=by have:=hbel.size;omega
      have hgo:∀ i,i<m→wo.cell? ⟨b,off+(3*i+1),none⟩=some (.int .i64 (r.getD i (0,0,0)).1)∧wo.cell? ⟨b,off+(3*i+2),none⟩=some (.int .i64 (r.getD i (0,0,0)).2.1)∧wo.cell? ⟨b,off+(3*i+3),none⟩=some (.int .i64 (r.getD i (0,0,0)).2.2):=fun i hi=>by
       obtain ⟨g0,g1,g2⟩:=hget i hi
       exact ⟨by rw [hbel.cell (p:=⟨b,_,none⟩) hblt];exact g0,by rw [hbel.cell (p:=⟨b,_,none⟩) hblt];exact g1,by rw [hbel.cell (p:=⟨b,_,none⟩) hblt];exact g2⟩
      clear hget
      go_wp2
      go_loopw [8,9] (fun sv si wi=>∃ i:Nat,i≤m∧si=.int .i64 i∧wi.ownsRow wo.heap.size 109 3 sv i (flat (r.take i))∧Below wo.heap.size wo wi) (fun _ si _=>m - (intOf si).toNat)
      case atStart=>exact ⟨0,by omega,rfl,by simpa [flat] using hCo,bCo⟩
      case round =>
       clear hCo bCo
       obtain ⟨i,hi',rfl,hr,hbi⟩:=hrel
       have hcm':wr.cell? ⟨b,off,none⟩=some (.int .i64 (m:Int)):=by rw [hbi.cell (p:=⟨b,_,none⟩) hblo];exact hc0'
       by_cases him:i<m
       ·have him2:(i:Int)<(m:Int):=by omega
        obtain ⟨d0,d1,d2⟩:=hgo i him
        rw [← hbi.cell (p:=⟨b,_,none⟩) hblo] at d0 d1 d2
        have hst:Hid (flat (r.take (i+1))=flat (r.take i)++(r.getD i (0,0,0)).cells):=flat_take_succ (by omega)
        generalize r.getD i (0,0,0)=x at d0 d1 d2 hst
        obtain ⟨q,hq⟩:∃ q,q=3*i:=⟨_,rfl⟩
        rw [← hq] at d0 d1 d2
        have hw0:IntKind.i64.wrap (3*(i:Int))=(q:Int):=(IntWalk.i64_in _ ⟨by omega,by omega⟩).trans (by omega)
        have hq1:q+3<lenL:=by omega
        have hw1:IntKind.i64.wrap (1+(q:Int))=((q+1:Nat):Int):=(IntWalk.i64_in _ ⟨by omega,by omega⟩).trans (by omega)
        have hw2:IntKind.i64.wrap (2+(q:Int))=((q+2:Nat):Int):=(IntWalk.i64_in _ ⟨by omega,by omega⟩).trans (by omega)
        have hw3:IntKind.i64.wrap (3+(q:Int))=((q+3:Nat):Int):=(IntWalk.i64_in _ ⟨by omega,by omega⟩).trans (by omega)
        have hp1:(((q+1:Nat):Int))<(lenL:Int):=by omega
        have hp2:(((q+2:Nat):Int))<(lenL:Int):=by omega
        have hp3:(((q+3:Nat):Int))<(lenL:Int):=by omega
        clear hq
        generalize q+1=p1 at d0 hw1 hp1
        generalize q+2=p2 at d1 hw2 hp2
        generalize q+3=p3 at d2 hw3 hp3 hq1
        have hm1:i+1≤maxLen:=by unfold maxLen;omega
        have hm2:(i+1)*24≤140737488355328:=by omega
        have hm3:wo.heap.size≤(wr.alloc (.cells #[.int .i64 x.1,.int .i64 x.2.1,.int .i64 x.2.2] 109)).drew.heap.size:=by have:=hbi.size;simp;omega
        have hbis:=hbi.size
        go_wp2_with fail
        go_region_held3 (fun w'=>w'.cell? ⟨b,off+p1,none⟩=some (.int .i64 x.1)∧w'.cell? ⟨b,off+p2,none⟩=some (.int .i64 x.2.1)∧w'.cell? ⟨b,off+p3,none⟩=some (.int .i64 x.2.2)) (first | (exact ⟨d0,d1,d2⟩) | (exact ⟨q1,q2,q3⟩) | go_keep)
         (first | (refine step_append_mine rfl _ _ 107 rfl wo.heap.size 109 i0 (.agg #[.int .i64 0,.int .i64 0,.int .i64 0]) 3 24 Tryz.underlying107 hi hz0 hz1 hz2 rfl (by decide) _ i (flat (r.take i)) rfl (own_dr (hr.alloc _)) ⟨wr.heap.size,0,none⟩ 1 1 [.int .i64 x.1,.int .i64 x.2.1,.int .i64 x.2.2] rfl rfl (three_dr wr _ _ _ _) (three_i64 _ _ _) hm1 hm2 hm3 ?_;intro v3 w3 hown3 hgrow3;have hB3:=below_app3 hbis hr hgrow3;have q1:=cells_lo3 hB3 hblo d0;have q2:=cells_lo3 hB3 hblo d1;have q3:=cells_lo3 hB3 hblo d2))
        have hr3:w3.ownsRow wo.heap.size 109 3 v3 (i+1) (flat (r.take (i+1))):=by rw [hst.out];exact hown3
        have hb3:Below wo.heap.size wo w3:=hbi.trans hB3
        clear hown3 hgrow3 hB3 q1 q2 q3 d0 d1 d2 hw0 hw1 hw2 hw3 hr hbi hm1 hm2 hm3 hbis hst hcm'
        go_wp2
        go_roundw
        case rel=>exact ⟨i+1,by omega,by go_num,hr3,hb3⟩
        case measure=>simp [intOf];omega
       ·obtain rfl:i=m:=by omega
        rw [show r.take i=r by rw [← htl,List.take_length]] at hr
        obtain ⟨aC,capC,hv⟩:∃ aC capC,u8=.slice aC i capC:=by
         rcases hr.2 with ⟨hv,h0⟩ | ⟨g,cp,cur,hv,_⟩
         ·exact ⟨none,0,by rw [h0];exact hv⟩
         ·exact ⟨_,cp,hv⟩
        subst hv
        have hR':=hR.below hbi
        have hV':=owns_below hV hbi
        have hX':=owns_below hX hbi
        have hRr':=owns_below hRr hbi
        have hbel':Below w1.heap.size w1 wr:=hbel.trans (hbi.mono hbel.size)
        have hlow:∀ t x,t<k→(vs.getD t undef).ownBlock=some x→x<wo.heap.size:=fun t x ht hx=>((hR.1 t ht).lt x hx).2
        have hcX:wr.cell? ⟨X,0,none⟩=some (.slice aV k capV):=by simpa using hX'.cellAt 0 (by omega)
        have hwro:=hbi.size
        have hwo1:=hbel.size
        clear hR hV hX hRr hbel hgo
        go_wp2_with (at_builtin;refine wpList_append_own _ rfl _ _ 67 rfl w1.heap.size 107 j0 (.slice none 0 0) 1 24 Tryz.underlying67 hj hy0 hy1 hy2 rfl (by decide) _ _ _ rfl (hV'.alloc _) ⟨wr.heap.size,0,none⟩ 1 1 [.slice aC i capC] rfl rfl (one_cell_new' _ _ _) (one_sl _ _ _) ?c3 ?c4 ?c5 ?_)
        case c3=>unfold maxLen;omega
        case c4=>omega
        case c5=>simp;omega
        intro v4 w4 hown4 hgrow4 _
        have hA:=(hr.alloc (.cells #[.slice aC i capC] 107))
        have hV2:=hV'.alloc (.cells #[.slice aC i capC] 107)
        have hC4:=hA.kept hgrow4 (owns_ne hA hV2 (by decide))
        have hR4:RowsOwn w4 w1.heap.size k vs done:=⟨fun t ht=>((hR'.1 t ht).alloc _).kept hgrow4 (owns_ne ((hR'.1 t ht).alloc _) hV2 (by decide)),hR'.2⟩
        have hX4:=(hX'.alloc (.cells #[.slice aC i capC] 107)).kept hgrow4 (owns_ne (hX'.alloc _) hV2 (by decide))
        have hRr4:=(hRr'.alloc (.cells #[.slice aC i capC] 107)).kept hgrow4 (owns_ne (hRr'.alloc _) hV2 (by decide))
        have hb4:Below w1.heap.size w1 w4:=(hbel'.alloc (by omega) _).grown hgrow4 (by simp;omega) (fun j hj=>(hV'.lt _ hj).1)
        have hw4:wr.heap.size≤w4.heap.size:=by have:=hgrow4.size;simp at this;omega
        clear hA hV2 hV' hR' hX' hRr' hbel' hgrow4 hr hcX
        obtain ⟨aW,capW,hv4⟩:∃ aW capW,v4=.slice aW (k+1) capW:=by
         rcases hown4.2 with ⟨hv,h0⟩ | ⟨g,cp,cur,hv,_⟩
         ·omega
         ·exact ⟨_,cp,hv⟩
        subst hv4
        have hlv:vs.length=k:=by have:=hown4.1;simp at this;omega
        have hpush:=hR4.push (s0:=wo.heap.size) hlv hdl hlow (r:=r) (sv:=.slice aC i capC) (by rw [htl];exact hC4) hwo1
        have fX:=hX4.frozenAt 0
        have cX:w4.cell? ⟨X,0,none⟩=some (.slice aV k capV):=by simpa using hX4.cellAt 0 (by omega)
        have hX5:=(hX4.stored 0 (.slice aW (k+1) capW)).1
        have hV5:(w4.setCell ⟨X,0,none⟩ (.slice aW (k+1) capW)).ownsRow w1.heap.size 107 1 (.slice aW (k+1) capW) (k+1) (vs++[.slice aC i capC]):=ownsRow_setCell_other hown4 (ne_block hown4 hX4 (by decide)) _
        have hR5:RowsOwn (w4.setCell ⟨X,0,none⟩ (.slice aW (k+1) capW)) w1.heap.size (k+1) (vs++[.slice aC i capC]) (done++[r]):=⟨fun t ht=>ownsRow_setCell_other (hpush.1 t ht) (ne_block (hpush.1 t ht) hX4 (by decide)) _,hpush.2⟩
        have hRr5:(w4.setCell ⟨X,0,none⟩ (.slice aW (k+1) capW)).ownsRow w.heap.size 69 1 (.slice (some ⟨w.heap.size,0,none⟩) 1 1) 1 [.slice none 0 0]:=ownsRow_setCell_other hRr4 (by simp [Value.ownBlock];omega) _
        have hb5:Below w1.heap.size w1 (w4.setCell ⟨X,0,none⟩ (.slice aW (k+1) capW)):=hb4.setCell (show w1.heap.size≤X by omega) _
        have hc5:(w4.setCell ⟨X,0,none⟩ (.slice aW (k+1) capW)).cell? ⟨b,off,none⟩=some (.int .i64 (i:Int)):=by rw [hb5.cell (p:=⟨b,_,none⟩) hblt];exact hc0
        have hw5:(1+3*(i:Int))=((1+3*i:Nat):Int):=by omega
        simp only [List.set_cons_zero] at hX5
        clear hpush hX4 hown4 hR4 hRr4 hb4 hC4 hbi hlow
        generalize hE:1+3*i=E at hslR hIr hw5
        have hdl2:(done++[r]).length=k+1:=by simp [hdl]
        generalize done++[r]=done2 at hPS2 hAF2 hR5 hdl2
        generalize vs++[.slice aC i capC]=vs2 at hV5 hR5
        go_wp2
        go_roundw
        case rel=>exact ⟨k+1,_,_,_,rest2,done2,vs2,aW,capW,by omega,by go_num,rfl,hIr,hsm2,by omega,hPS2,hdl2,hAF2,hR5,hV5,hX5,hRr5,hb5⟩
        case measure=>simp [intOf];omega
   ·obtain rfl:k=3:=by omega
    by_cases hl0:lenL=0
    ·subst hl0
     obtain rfl:rest=[]:=List.eq_nil_of_length_eq_zero hI.1
     have hyes:Hid (parse 3 (ofNats zs)=some done):=hPS.out.done
     have hOP:OwnProg wr w1.heap.size (.slice aV 3 capV) done:=⟨vs,by rw [hdl];exact hV,by have:=hV.1;omega,fun t ht=>hR.1 t (by omega),fun t t' ht ht'=>hR.2 t t' (by omega) (by omega)⟩
     have hcX:wr.cell? ⟨X,0,none⟩=some (.slice aV 3 capV):=by simpa using hX.cellAt 0 (by omega)
     have KO:=specProgramOK_is aV 3 capV done wr (hOP.codes hAF.out)
     clear hPS hR hV
     cases hpk:progOk done
     ·have HP:Hid (IsProg s [] 3):=IsProg.of_read HL.out (fun rows hr=>by rw [hyes.out] at hr;cases hr;exact hpk)
      rw [hpk] at KO
      go_wp2_with fail
      refine KO.mono ?_
      rintro e w5 ⟨rfl,hb5⟩
      replace hRr:=owns_below hRr hb5
      replace hbw:=bel_trans hbw hb5
      clear hX hOP hcX hb5 hbel KO hyes
      have kR:w5.cell? ⟨w.heap.size,0,none⟩=some (.slice none 0 0):=by simpa using hRr.cellAt 0 (by omega)
      have fR:=hRr.frozenAt 0
      have hb3:Below w.heap.size w (w5.setCell ⟨w.heap.size,0,none⟩ (.slice none 0 0)):=hbw.setCell (Nat.le_refl _) _
      have k3:(w5.setCell ⟨w.heap.size,0,none⟩ (.slice none 0 0)).cell? ⟨w.heap.size,0,none⟩=some (.slice none 0 0):=World.cell?_setCell_same' _ _ _ (by rw [kR];rfl)
      clear HL hRr hbw hI
      go_wp2
      clear kR fR
      generalize w5.setCell ⟨w.heap.size,0,none⟩ (.slice none 0 0)=w9 at hb3 k3
      refine bodyPost_ret (by simp [results,Tryz.results47,go_sem,k3];try rfl) rfl ?_
      exact ⟨⟨_,[],3,HP.out,rfl,allFit_nil,OwnProg.nil _ _⟩,hb3⟩
     ·have HP:Hid (IsProg s done 0):=.inl ⟨rfl,zs,HL.out,hyes.out,hpk⟩
      rw [hpk] at KO
      go_wp2_with fail
      refine KO.mono ?_
      rintro e w5 ⟨rfl,hb5⟩
      replace hRr:=owns_below hRr hb5
      replace hbw:=bel_trans hbw hb5
      replace hOP:=hOP.below hb5
      replace hcX:=cells_kept hb5 _ _ hcX
      clear hX hb5 hbel KO hyes HL hI
      have kR:w5.cell? ⟨w.heap.size,0,none⟩=some (.slice none 0 0):=by simpa using hRr.cellAt 0 (by omega)
      have fR:=hRr.frozenAt 0
      have hb3:Below w.heap.size w (w5.setCell ⟨w.heap.size,0,none⟩ (.slice aV 3 capV)):=hbw.setCell (Nat.le_refl _) _
      have k3:(w5.setCell ⟨w.heap.size,0,none⟩ (.slice aV 3 capV)).cell? ⟨w.heap.size,0,none⟩=some (.slice aV 3 capV):=World.cell?_setCell_same' _ _ _ (by rw [kR];rfl)
      have hOP3:=(hOP.low (p:=⟨w.heap.size,0,none⟩) hRw (.slice aV 3 capV)).lower (B':=w.heap.size) (by omega)
      clear hRr hbw hOP
      go_wp2
      clear kR fR hcX
      generalize w5.setCell ⟨w.heap.size,0,none⟩ (.slice aV 3 capV)=w9 at hb3 k3 hOP3
      refine bodyPost_ret (by simp [results,Tryz.results47,go_sem,k3];try rfl) rfl ?_
      exact ⟨⟨_,done,0,HP.out,rfl,hAF.out,hOP3⟩,hb3⟩
    ·have HP:Hid (IsProg s [] 3):=IsProg.of_read HL.out (fun rows hr=>by rw [hPS.out.more (fun e=>hl0 (by rw [← hI.1,e];rfl))] at hr;cases hr)
     have hl0':(0:Int)<(lenL:Int):=by omega
     have kR:wr.cell? ⟨w.heap.size,0,none⟩=some (.slice none 0 0):=by simpa using hRr.cellAt 0 (by omega)
     have fR:=hRr.frozenAt 0
     have hb3:Below w.heap.size w (wr.setCell ⟨w.heap.size,0,none⟩ (.slice none 0 0)):=hbw.setCell (Nat.le_refl _) _
     have k3:(wr.setCell ⟨w.heap.size,0,none⟩ (.slice none 0 0)).cell? ⟨w.heap.size,0,none⟩=some (.slice none 0 0):=World.cell?_setCell_same' _ _ _ (by rw [kR];rfl)
     clear hPS HL hR hV hX hRr hbel hbw hI
     go_wp2
     clear kR fR
     generalize wr.setCell ⟨w.heap.size,0,none⟩ (.slice none 0 0)=w9 at hb3 k3
     refine bodyPost_ret (by simp [results,Tryz.results47,go_sem,k3];try rfl) rfl ?_
     exact ⟨⟨_,[],3,HP.out,rfl,allFit_nil,OwnProg.nil _ _⟩,hb3⟩
 ·have HP:Hid (IsProg s [] 3):=IsProg.of_none hN
  have hRr:=hR1
  have hbw:=b1
  have kR:w1.cell? ⟨w.heap.size,0,none⟩=some (.slice none 0 0):=by simpa using hRr.cellAt 0 (by omega)
  have fR:=hRr.frozenAt 0
  have hb3:Below w.heap.size w (w1.setCell ⟨w.heap.size,0,none⟩ (.slice none 0 0)):=hbw.setCell (Nat.le_refl _) _
  have k3:(w1.setCell ⟨w.heap.size,0,none⟩ (.slice none 0 0)).cell? ⟨w.heap.size,0,none⟩=some (.slice none 0 0):=World.cell?_setCell_same' _ _ _ (by rw [kR];rfl)
  clear hN hRr hbw hR1 b1
  go_wp2
  clear kR fR
  generalize w1.setCell ⟨w.heap.size,0,none⟩ (.slice none 0 0)=w9 at hb3 k3
  refine bodyPost_ret (by simp [results,Tryz.results47,go_sem,k3];try rfl) rfl ?_
  exact ⟨⟨_,[],3,HP.out,rfl,allFit_nil,OwnProg.nil _ _⟩,hb3⟩
end Go.Proofs.YtdopgkbegjfhjaaGreatDoor
