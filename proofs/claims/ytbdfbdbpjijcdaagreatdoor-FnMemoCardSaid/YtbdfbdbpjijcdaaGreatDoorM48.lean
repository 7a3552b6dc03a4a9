/-
  Joined: OwnQ, PtiI, PtjI.
-/
import Derived.Test.YtbdfbdbpjijcdaaGreatDoorM42
import Derived.Test.YtbdfbdbpjijcdaaGreatDoorM47

namespace Go.Proofs.YtbdfbdbpjijcdaaGreatDoor
set_option maxRecDepth 100000
set_option maxHeartbeats 16000000
open Go.RowKit
set_option linter.unusedVariables false
set_option linter.unusedSimpArgs false

theorem row_ne_blkQ {w:World} {B e s n X t:Nat} {v:Value} {xs cs:List Value} (h:w.ownsRow B e s v n xs) (hb:Blk w X t cs) (hne:e≠t):v.ownBlock≠some X:=by
 rcases h.2 with ⟨rfl,_⟩ | ⟨g,cap,cur,rfl,_,hg,_⟩
 ·simp [Value.ownBlock]
 ·intro h9
  simp [Value.ownBlock] at h9
  subst h9
  unfold Blk at hb
  rw [hg] at hb
  simp at hb
  exact hne hb.2
def vb9 (x:EQ):Value:=.slice x.2.1.1 x.2.1.2.1 x.2.1.2.2
def vf9 (x:EQ):Value:=.slice x.2.2.1 x.2.2.2.1 x.2.2.2.2
def Apq (x y:EQ):Prop:=Aprt (vb9 x) (vb9 y)∧Aprt (vf9 x) (vf9 y)
theorem Aprt.symm {u v:Value} (h:Aprt u v):Aprt v u:=by
 rcases h with h | h
 ·rcases hv:v.ownBlock with _ | x
  ·exact .inl hv
  ·exact .inr (by rw [hv,h];simp)
 ·exact .inr (fun e=>h e.symm)
theorem Apq.symm {x y:EQ} (h:Apq x y):Apq y x:=⟨h.1.symm,h.2.symm⟩
def OwnQ (w:World) (B:Nat) (L:List EQ):Prop:=(∀ x ∈ L,OwnE w B (vb9 x) (vf9 x) x.1)∧L.Pairwise Apq
theorem entL_getD {L:List EQ} {t:Nat} {x:EQ} (h:L[t]?=some x):(entL L)[t*3]?=some (.string x.1.1)∧(entL L).getD (t*3+1) undef=vb9 x∧(entL L).getD (t*3+2) undef=vf9 x:=by
 have h0:=entL_at h (j:=0) (by omega)
 have h1:=entL_at h (j:=1) (by omega)
 have h2:=entL_at h (j:=2) (by omega)
 rw [Nat.add_zero] at h0
 exact ⟨by rw [h0];rfl,by rw [List.getD,h1];rfl,by rw [List.getD,h2];rfl⟩
theorem OwnQ.to {w:World} {B:Nat} {L:List EQ} (h:OwnQ w B L):EntsTo w B (L.map (·.1)).length (entL L) (L.map (·.1)):=by
 rw [List.length_map]
 refine ⟨fun t ht=>?_,fun t t' ht ht' hne=>?_⟩
 ·have hx:L[t]?=some L[t]:=List.getElem?_eq_getElem ht
  obtain ⟨a,b,c⟩:=entL_getD hx
  rw [a,b,c,getD_map9 hx]
  exact ⟨rfl,h.1 _ (List.getElem_mem _)⟩
 ·have hx:L[t]?=some L[t]:=List.getElem?_eq_getElem ht
  have hy:L[t']?=some L[t']:=List.getElem?_eq_getElem ht'
  obtain ⟨_,b,c⟩:=entL_getD hx
  obtain ⟨_,b',c'⟩:=entL_getD hy
  rw [b,c,b',c']
  rcases Nat.lt_or_gt_of_ne hne with h9 | h9
  ·exact List.pairwise_iff_getElem.1 h.2 t t' ht ht' h9
  ·exact (List.pairwise_iff_getElem.1 h.2 t' t ht' ht h9).symm
theorem OwnM.q9 {w:World} {B:Nat} {v:Value} {es:List E3} (h:OwnM w B v es):∃ L:List EQ,L.map (·.1)=es∧w.ownsRow B 45 3 v L.length (entL L)∧OwnQ w B L:=by
 obtain ⟨cs,h1,h2⟩:=h
 have hl:=h1.1
 obtain ⟨Y,hY⟩:=Go.Deep.choose_lt (α:=Sl2) (n:=es.length) (p:=fun t s=>cs[t*3+1]?=some (.slice s.1.1 s.1.2.1 s.1.2.2)∧cs[t*3+2]?=some (.slice s.2.1 s.2.2.1 s.2.2.2)) (fun t ht=>by
  obtain ⟨_,k2⟩:=h2.1 t ht
  obtain ⟨s,e1,e2⟩:=k2.slices
  have hg:∀ j,j<cs.length→cs[j]?=some (cs.getD j undef):=fun j hj=>by simp [List.getD,List.getElem?_eq_getElem hj]
  exact ⟨s,by rw [hg _ (by omega),e1],by rw [hg _ (by omega),e2]⟩)
 have hat:∀ t,t<es.length→((List.range es.length).map fun i=>((es.getD i e3d,Y i):EQ))[t]?=some (es.getD t e3d,Y t):=fun t ht=>by simp [List.getElem?_map,List.getElem?_range ht]
 have hLl:((List.range es.length).map fun i=>((es.getD i e3d,Y i):EQ)).length=es.length:=by simp
 have key:∀ t,t<es.length→∀ i,i<3→cs[t*3+i]?=(entC (es.getD t e3d).1 (Y t))[i]?:=fun t ht i hi=>by
  obtain ⟨y1,y2⟩:=hY t ht
  have k1:=(h2.1 t ht).1
  match i,hi with
  | 0,_=>rw [Nat.add_zero,k1];rfl
  | 1,_=>rw [y1];rfl
  | 2,_=>rw [y2];rfl
 have hcs:entL ((List.range es.length).map fun i=>((es.getD i e3d,Y i):EQ))=cs:=by
  apply List.ext_getElem?
  intro j
  by_cases hj:j<es.length*3
  ·have ht:j / 3<es.length:=by omega
   have e9:j / 3*3+j % 3=j:=by omega
   have h9:=entL_at (hat (j / 3) ht) (j:=j % 3) (by omega)
   have h8:=key (j / 3) ht (j % 3) (by omega)
   rw [e9] at h9 h8
   rw [h9,h8]
  ·rw [List.getElem?_eq_none (by rw [entL_length,hLl];omega),List.getElem?_eq_none (by omega)]
 have gb:∀ t,t<es.length→cs.getD (t*3+1) undef=vb9 (es.getD t e3d,Y t)∧cs.getD (t*3+2) undef=vf9 (es.getD t e3d,Y t):=fun t ht=>by
  refine ⟨?_,?_⟩
  ·rw [List.getD,(hY t ht).1];rfl
  ·rw [List.getD,(hY t ht).2];rfl
 refine ⟨(List.range es.length).map fun i=>(es.getD i e3d,Y i),?_,by rw [hLl,hcs];exact h1,?_,?_⟩
 ·apply List.ext_getElem?
  intro t
  by_cases ht:t<es.length
  ·rw [List.getElem?_map,hat t ht,List.getElem?_eq_getElem ht]
   simp [List.getD,List.getElem?_eq_getElem ht]
  ·rw [List.getElem?_eq_none (by simp;omega),List.getElem?_eq_none (by omega)]
 ·intro x hx
  obtain ⟨t,ht,rfl⟩:=List.mem_map.1 hx
  have ht':=List.mem_range.1 ht
  have k2:=(h2.1 t ht').2
  rw [(gb t ht').1,(gb t ht').2] at k2
  exact k2
 ·rw [List.pairwise_iff_getElem]
  intro i j hi hj hij
  rw [hLl] at hi hj
  have k:=h2.2 i j hi hj (by omega)
  rw [(gb i hi).1,(gb i hi).2,(gb j hj).1,(gb j hj).2] at k
  simpa [Apq] using k
theorem OwnQ.own {w:World} {B:Nat} {v:Value} {L:List EQ} (h:OwnQ w B L) (ho:w.ownsRow B 45 3 v L.length (entL L)):OwnM w B v (L.map (·.1)):=⟨entL L,by rw [List.length_map];exact ho,h.to⟩
theorem OwnQ.kept9 {w w':World} {B B' n:Nat} {v:Value} {L:List EQ} {cs:List Value} (h:OwnQ w B L) (hg:w.grownBy w' v.ownBlock) (ho:w.ownsRow B' 45 3 v n cs):OwnQ w' B L:=⟨fun x hx=>(h.1 x hx).kept9 hg ho,h.2⟩
theorem OwnQ.below {w w':World} {B:Nat} {L:List EQ} (h:OwnQ w B L) (hb:Below w.heap.size w w'):OwnQ w' B L:=⟨fun x hx=>(h.1 x hx).below hb,h.2⟩
theorem OwnQ.lower {w:World} {B B':Nat} {L:List EQ} (h:OwnQ w B L) (hB:B'≤B):OwnQ w B' L:=⟨fun x hx=>(h.1 x hx).lower hB,h.2⟩
theorem OwnQ.setP {w:World} {B X:Nat} {t:TypeId} {L:List EQ} {cs:List Value} (h:OwnQ w B L) (hb:Blk w X t cs) (h1:158≠t) (h2:3≠t) (j:Nat) (u:Value):OwnQ (w.setCell ⟨X,j,none⟩ u) B L:=
 ⟨fun x hx=>(h.1 x hx).setP (row_ne_blkQ (h.1 x hx).1 hb h1) (row_ne_blkQ (h.1 x hx).2 hb h2) u,h.2⟩
theorem OwnQ.put {w w0:World} {B:Nat} {L:List EQ} {e:E3} {s:Sl2} (h:OwnQ w B L) (h0:OwnQ w0 B L) (hn:OwnE w w0.heap.size (.slice s.1.1 s.1.2.1 s.1.2.2) (.slice s.2.1 s.2.2.1 s.2.2.2) e) (hB:B≤w0.heap.size):OwnQ w B (putQ L e s):=by
 have hx:∀ x ∈ L,Apq x (e,s):=fun x hx=>⟨(aprt_new (B':=0) (h0.1 x hx).1 (fun y hy=>(hn.1.lt y hy).1)).1,(aprt_new (B':=0) (h0.1 x hx).2 (fun y hy=>(hn.2.lt y hy).1)).1⟩
 refine ⟨fun x hx9=>?_,?_⟩
 ·rcases putQ_mem hx9 with h9 | h9
  ·exact h.1 x h9
  ·rw [h9];exact hn.lower hB
 ·unfold putQ
  rw [List.pairwise_append,List.pairwise_append]
  refine ⟨⟨h.2.sublist (List.take_sublist _ _),by simp,fun a ha b hb=>?_⟩,h.2.sublist (List.drop_sublist _ _),fun a ha b hb=>?_⟩
  ·rw [List.mem_singleton.1 hb];exact hx a (List.mem_of_mem_take ha)
  ·rcases List.mem_append.1 ha with ha | ha
   ·have hp:=h.2
    rw [← List.take_append_drop (plcE (L.map (·.1)) e.1) L,List.pairwise_append] at hp
    refine hp.2.2 a ha b ?_
    split at hb
    ·rw [← List.drop_drop] at hb
     exact List.mem_of_mem_drop hb
    ·exact hb
   ·rw [List.mem_singleton.1 ha];exact (hx b (List.mem_of_mem_drop hb)).symm


def PutR (x:Ending) (w':World) (X B:Nat) (r:Bool) (R:List E3):Prop:=∃ va n c,x=.returned (.bool r)∧Blk w' X 114 [.slice va n c]∧OwnM w' B (.slice va n c) R
theorem PutR.mk9 {w':World} {X B:Nat} {r:Bool} {R:List E3} {va:Option Addr} {n c:Nat} (h1:Blk w' X 114 [.slice va n c]) (h2:OwnM w' B (.slice va n c) R):PutR (.returned (.bool r)) w' X B r R:=⟨va,n,c,rfl,h1,h2⟩
theorem set3_eq {cs:List Value} {p:Nat} {a b c:Value} (h:p*3+2<cs.length):((cs.set (p*3) a).set (p*3+1) b).set (p*3+2) c=cs.take (p*3)++([a,b,c]++cs.drop ((p+1)*3)):=by
 obtain ⟨g1,g2,g3,g4⟩:=getD_set3 (a:=a) (b:=b) (c:=c) h
 apply List.ext_getElem?
 intro j
 by_cases h1:j<p*3
 ·rw [g1 j (.inl h1),List.getElem?_append_left (by rw [List.length_take];omega),List.getElem?_take,if_pos h1]
 ·rw [List.getElem?_append_right (by rw [List.length_take];omega),List.length_take,Nat.min_eq_left (by omega)]
  by_cases h2:j<p*3+3
  ·rw [List.getElem?_append_left (by simp;omega)]
   have:j=p*3∨j=p*3+1∨j=p*3+2:=by omega
   rcases this with rfl | rfl | rfl
   ·rw [g2,Nat.sub_self];rfl
   ·rw [g3,Nat.add_sub_cancel_left];rfl
   ·rw [g4,Nat.add_sub_cancel_left];rfl
  ·rw [g1 j (.inr (by omega)),List.getElem?_append_right (by simp;omega),List.getElem?_drop]
   congr 1
   simp
   omega
theorem entL_takeE (L:List EQ) (p:Nat):(entL L).take (p*3)=entL (L.take p):=by
 conv=>lhs;rw [← List.take_append_drop p L,entL_append]
 by_cases h:p≤L.length
 ·have:(entL (L.take p)).length=p*3:=by rw [entL_length,List.length_take,Nat.min_eq_left h]
  rw [← this,List.take_left]
 ·rw [List.take_of_length_le (by rw [List.length_append,entL_length,entL_length,List.length_take,List.length_drop];omega),List.drop_of_length_le (by omega)]
  simp [entL]
theorem entL_dropE (L:List EQ) (p:Nat):(entL L).drop (p*3)=entL (L.drop p):=by
 conv=>lhs;rw [← List.take_append_drop p L,entL_append]
 by_cases h:p≤L.length
 ·have:(entL (L.take p)).length=p*3:=by rw [entL_length,List.length_take,Nat.min_eq_left h]
  rw [← this,List.drop_left]
 ·rw [List.drop_of_length_le (by rw [List.length_append,entL_length,entL_length,List.length_take,List.length_drop];omega),List.drop_of_length_le (show L.length≤p by omega)]
  simp [entL]
theorem putQ_in {L:List EQ} {e:E3} {s:Sl2} (h:isE (L.map (·.1)) e.1=false):entL (putQ L e s)=insX (entL L) (plcE (L.map (·.1)) e.1) (entC e.1 s):=by
 unfold putQ insX
 rw [h,entL_append,entL_snoc,entL_takeE,entL_dropE,List.append_assoc]
 rfl
theorem putQ_over {L:List EQ} {e:E3} {s:Sl2} (h:isE (L.map (·.1)) e.1=true):entL (putQ L e s)=(entL L).take (plcE (L.map (·.1)) e.1*3)++(entC e.1 s++(entL L).drop ((plcE (L.map (·.1)) e.1+1)*3)):=by
 unfold putQ
 rw [h,entL_append,entL_snoc,entL_takeE,entL_dropE,List.append_assoc]
 rfl
theorem putQ_len (L:List EQ) (e:E3) (s:Sl2):(putQ L e s).length=if isE (L.map (·.1)) e.1 then L.length else L.length+1:=by
 have h:=putE_len (es:=L.map (·.1)) (e:=e)
 rw [← putQ_map L e s,List.length_map,List.length_map] at h
 exact h

theorem put_is (X B:Nat) (va:Option Addr) (ln vc:Nat) (L:List EQ) (e:E3) (s:Sl2) (w0 w:World) (pX:Blk w X 114 [.slice va ln vc]) (q:w.ownsRow B 45 3 (.slice va ln vc) L.length (entL L)) (hln:ln=L.length) (hQ:OwnQ w B L) (h0:OwnQ w0 B L)
  (hn:OwnE w w0.heap.size (.slice s.1.1 s.1.2.1 s.1.2.2) (.slice s.2.1 s.2.2.1 s.2.2.2) e) (hLf:∀ x ∈ L,x.1.fits) (hok:memOk (L.map (·.1))=true) (hB0:B≤w0.heap.size) (hBX:B≤X) :
  Calls Tryz.prog 74 #[.pointer (some ⟨X,0,none⟩),entV e.1 s,.int .i64 2000] w fun x w'=>PutR x w' X B (isE (L.map (·.1)) e.1 || decide (L.length<2000)) (if (isE (L.map (·.1)) e.1 || decide (L.length<2000))=true then putE (L.map (·.1)) e else L.map (·.1))∧Below B w w':=by
 have hXw:=pX.lt
 have hl2:L.length≤2000:=by have:=memOk_len hok;rw [List.length_map] at this;exact this
 have hle1:ln≤L.length:=by omega
 have hle2:L.length≤ln:=by omega
 have hpl:plcE (L.map (·.1)) e.1≤L.length:=by have:=plcE_le (L.map (·.1)) e.1;rw [List.length_map] at this;exact this
 have hpi:isE (L.map (·.1)) e.1=true→plcE (L.map (·.1)) e.1<L.length:=fun h9=>by
  simp only [isE,Bool.and_eq_true,decide_eq_true_eq,List.length_map] at h9
  exact h9.1
 have kK:=fun W=>entryKey_is e.1 s W
 have mK:=fun v W=>methKey v W
 have eK:∀ args w,(callFunc 328 args).run Tryz.prog w=.ok (.enter 328 args) w:=Go.Proofs.enters_of Tryz.func328 (by kernel_rfl) rfl
 have q9:w.ownsRow B 45 3 (.slice va ln vc) ln (entL L):=by rw [hln];rw [hln] at q;exact q
 have hEn:=(EntQ.of_owns q9 (fun x hx=>OwnE.mem (s:=x.2) (hQ.1 x hx) (hLf x hx))).ents
 have kF:=fun W (hb:Below w.heap.size w W)=>tableFind_is va ln vc (L.map (·.1)) e.1 W (hEn.below hb) hok
 have hone:=entL_one L
 have HOV:Hid (isE (L.map (·.1)) e.1=true→entL (putQ L e s)=(entL L).take (plcE (L.map (·.1)) e.1*3)++(entC e.1 s++(entL L).drop ((plcE (L.map (·.1)) e.1+1)*3))):=putQ_over
 have HIN:Hid (isE (L.map (·.1)) e.1=false→entL (putQ L e s)=insX (entL L) (plcE (L.map (·.1)) e.1) (entC e.1 s)):=putQ_in
 have HLN:=putQ_len L e s
 have HMP:Hid ((putQ L e s).map (·.1)=putE (L.map (·.1)) e):=putQ_map L e s
 have HOQ:Hid (∀ W,OwnQ W B L→OwnE W w0.heap.size (.slice s.1.1 s.1.2.1 s.1.2.2) (.slice s.2.1 s.2.2.1 s.2.2.2) e→OwnQ W B (putQ L e s)):=fun W h1 h2=>h1.put h0 h2 hB0
 have hLl:=entL_length L
 have HOO:Hid (∀ W v,OwnQ W B L→W.ownsRow B 45 3 v L.length (entL L)→OwnM W B v (L.map (·.1))):=fun W v h1 h2=>h1.own h2
 clear hEn q9 hLf h0 hln
 generalize putQ L e s=PL at *
 generalize putE (L.map (·.1)) e=pes at *
 generalize hes:L.map (·.1)=es at *
 generalize plcE es e.1=p at *
 generalize entL L=cs at *
 generalize L.length=n9 at *
 obtain ⟨ek,eb,ez⟩:=e
 obtain ⟨⟨e1,m1,d1⟩,⟨e2,m2,d2⟩⟩:=s
 unfold entV at kK ⊢
 simp only at *
 have bw:Below w.heap.size w (w.alloc (.cells #[.string ek,.slice e1 m1 d1,.slice e2 m2 d2] 45)):=by go_grown
 have pE:Blk (w.alloc (.cells #[.string ek,.slice e1 m1 d1,.slice e2 m2 d2] 45)) w.heap.size 45 [.string ek,.slice e1 m1 d1,.slice e2 m2 d2]:=blkAt _ _ _ rfl
 have bU:=bw
 have hqlt:∀ g,(Value.slice va ln vc).ownBlock=some g→g<w.heap.size:=fun g hg=>(q.lt g hg).2
 have hqB:∀ g,(Value.slice va ln vc).ownBlock=some g→B≤g:=fun g hg=>(q.lt g hg).1
 have hBw:B≤w.heap.size:=by omega
 replace pX:=pX.below bU
 replace q:=owns8 q bU
 replace hQ:=hQ.below bU
 replace hn:=hn.below bU
 have hXne:X≠w.heap.size:=by omega
 cases hI:isE es ek
 ·rw [hI] at kF HLN
  simp only [Bool.false_or,Bool.false_eq_true,if_false] at HLN ⊢
  have hin:=HIN.out hI
  clear HIN HOV hpi hI
  by_cases hrm:n9<2000
  ·rw [decide_eq_true hrm]
   simp only [if_true]
   go_enter Tryz.func74,Tryz.ntmps74
   go_wp2_with fail
   generalize (w.alloc (.cells #[.string ek,.slice e1 m1 d1,.slice e2 m2 d2] 45))=U at *
   have bd:Below w.heap.size w U.drew:=bel8 bw (by go_grown)
   clear bU
   refine wp_region_held_drew (S:=(fun w'=>w'.cell? ⟨X,0,none⟩=some (.slice va ln vc)∧w'.cell? ⟨w.heap.size,0,none⟩=some (.string ek)∧w'.cell? ⟨w.heap.size,1,none⟩=some (.slice e1 m1 d1)∧w'.cell? ⟨w.heap.size,2,none⟩=some (.slice e2 m2 d2))) (by kernel_rfl) ⟨pX.cell 0,pE.cell 0,pE.cell 1,pE.cell 2⟩ (fun hS0=>?_)
   refine tkx 0 10 (.pointer (some ⟨X,0,none⟩)) ?_ ?_
   ·(intro w' hSw;(try dsimp only at hSw);go_simp;first | done | rfl | omega | (intro h9;omega) | (rw [IntKind.wrap_i64];omega))
   simp only [Act.put,tka,tkb,tkc]
   refine tkx 1 11 (.pointer (some ⟨X,0,none⟩)) ?_ ?_
   ·(intro w' hSw;(try dsimp only at hSw);go_simp;first | done | rfl | omega | (intro h9;omega) | (rw [IntKind.wrap_i64];omega))
   simp only [Act.put,tka,tkb,tkc]
   refine tkx 2 12 (.agg #[.slice va ln vc]) ?_ ?_
   ·(intro w' hSw;(try dsimp only at hSw);go_simp;first | done | rfl | omega | (intro h9;omega) | (rw [IntKind.wrap_i64];omega))
   simp only [Act.put,tka,tkb,tkc]
   refine tkx 3 13 (.agg #[.string ek,.slice e1 m1 d1,.slice e2 m2 d2]) ?_ ?_
   ·(intro w' hSw;(try dsimp only at hSw);go_simp;first | done | rfl | omega | (intro h9;omega) | (rw [IntKind.wrap_i64];omega))
   simp only [Act.put,tka,tkb,tkc]
   refine tkx 4 14 (.iface 45 (.agg #[.string ek,.slice e1 m1 d1,.slice e2 m2 d2])) ?_ ?_
   ·(intro w' hSw;(try dsimp only at hSw);go_simp;first | done | rfl | omega | (intro h9;omega) | (rw [IntKind.wrap_i64];omega))
   simp only [Act.put,tka,tkb,tkc]
   refine tkr 5 15 (fun K hK=>?_)
   go_simp
   refine (kK _).mono ?_
   rintro e w5 ⟨rfl,hb5⟩
   go_wp2_with fail
   refine hK.out _ _ ?_ (fun hS5=>?_)
   ·exact ⟨cells_kept hb5 _ _ hS0.1,cells_kept hb5 _ _ hS0.2.1,cells_kept hb5 _ _ hS0.2.2.1,cells_kept hb5 _ _ hS0.2.2.2⟩
   clear hK
   refine tkr 6 16 (fun K hK=>?_)
   go_simp
   refine (kF _ (bel8 bd hb5)).mono ?_
   rintro e w6 ⟨rfl,hb6⟩
   go_wp2_with fail
   refine hK.out _ _ ?_ (fun hS6=>?_)
   ·exact ⟨cells_kept hb6 _ _ hS5.1,cells_kept hb6 _ _ hS5.2.1,cells_kept hb6 _ _ hS5.2.2.1,cells_kept hb6 _ _ hS5.2.2.2⟩
   clear hK
   refine tkx 7 9 (.tuple #[.int .i64 (p:Int),.bool false]) ?_ ?_
   ·(intro w' hSw;(try dsimp only at hSw);go_simp;first | done | rfl | omega | (intro h9;omega) | (rw [IntKind.wrap_i64];omega))
   simp only [Act.put,tka,tkb,tkc]
   refine tkx 8 17 (.int .i64 (p:Int)) ?_ ?_
   ·(intro w' hSw;(try dsimp only at hSw);go_simp;first | done | rfl | omega | (intro h9;omega) | (rw [IntKind.wrap_i64];omega))
   simp only [Act.put,tka,tkb,tkc]
   refine tkx 9 18 (.bool false) ?_ ?_
   ·(intro w' hSw;(try dsimp only at hSw);go_simp;first | done | rfl | omega | (intro h9;omega) | (rw [IntKind.wrap_i64];omega))
   simp only [Act.put,tka,tkb,tkc]
   refine tkx 10 7 (.int .i64 (p:Int)) ?_ ?_
   ·(intro w' hSw;(try dsimp only at hSw);go_simp;first | done | rfl | omega | (intro h9;omega) | (rw [IntKind.wrap_i64];omega))
   simp only [Act.put,tka,tkb,tkc]
   refine tkx 11 8 (.bool false) ?_ ?_
   ·(intro w' hSw;(try dsimp only at hSw);go_simp;first | done | rfl | omega | (intro h9;omega) | (rw [IntKind.wrap_i64];omega))
   simp only [Act.put,tka,tkb,tkc]
   refine wpAnyH_done (by kernel_rfl) ?_ _
   have b6:Below U.heap.size U w6:=bel8 (bel8 (show Below U.heap.size U U.drew by go_grown) hb5) hb6
   replace bw:=bel8 bw b6
   replace pX:=pX.below b6
   replace pE:=pE.below b6
   replace q:=owns8 q b6
   replace hQ:=hQ.below b6
   replace hn:=hn.below b6
   have hs6:w.heap.size<w6.heap.size:=pE.lt
   clear hS0 hS5 hS6 hb5 hb6 b6 bd kF kK
   have hfl:(ln:Int)<2000:=by omega
   have x0:=pX.cell 0
   have y0:=pE.cell 0
   have y1:=pE.cell 1
   have y2:=pE.cell 2
   simp only [List.getElem?_cons_zero,List.getElem?_cons_succ] at x0 y0 y1 y2
   go_wp2_with fail
   refine wp_region_held_drew (S:=(fun w'=>w'.cell? ⟨w.heap.size,0,none⟩=some (.string ek)∧w'.cell? ⟨w.heap.size,1,none⟩=some (.slice e1 m1 d1)∧w'.cell? ⟨w.heap.size,2,none⟩=some (.slice e2 m2 d2))) (by kernel_rfl) ⟨y0,y1,y2⟩ (fun hS0=>?_)
   refine tkx 0 36 (.pointer (some ⟨X,0,none⟩)) ?_ ?_
   ·(intro w' hSw;(try dsimp only at hSw);go_simp;first | done | rfl | omega | (intro h9;omega) | (rw [IntKind.wrap_i64];omega))
   simp only [Act.put,tka,tkb,tkc]
   refine tkx 1 37 (.pointer (some ⟨X,0,none⟩)) ?_ ?_
   ·(intro w' hSw;(try dsimp only at hSw);go_simp;first | done | rfl | omega | (intro h9;omega) | (rw [IntKind.wrap_i64];omega))
   simp only [Act.put,tka,tkb,tkc]
   refine tkx 2 38 (.pointer (some ⟨X,0,none⟩)) ?_ ?_
   ·(intro w' hSw;(try dsimp only at hSw);go_simp;first | done | rfl | omega | (intro h9;omega) | (rw [IntKind.wrap_i64];omega))
   simp only [Act.put,tka,tkb,tkc]
   refine tkx 3 39 (.pointer (some ⟨X,0,none⟩)) ?_ ?_
   ·(intro w' hSw;(try dsimp only at hSw);go_simp;first | done | rfl | omega | (intro h9;omega) | (rw [IntKind.wrap_i64];omega))
   simp only [Act.put,tka,tkb,tkc]
   refine tkx 5 41 (.int .i64 (p:Int)) ?_ ?_
   ·(intro w' hSw;(try dsimp only at hSw);go_simp;first | done | rfl | omega | (intro h9;omega) | (rw [IntKind.wrap_i64];omega))
   simp only [Act.put,tka,tkb,tkc]
   refine tkx 6 42 (.agg #[.string ek,.slice e1 m1 d1,.slice e2 m2 d2]) ?_ ?_
   ·(intro w' hSw;(try dsimp only at hSw);go_simp;first | done | rfl | omega | (intro h9;omega) | (rw [IntKind.wrap_i64];omega))
   simp only [Act.put,tka,tkb,tkc]
   have b7:Below w6.heap.size w6 w6.drew:=by go_grown
   replace bw:=bel8 bw b7
   replace pX:=pX.below b7
   replace pE:=pE.below b7
   replace q:=owns8 q b7
   replace hQ:=hQ.below b7
   replace hn:=hn.below b7
   replace hs6:=Nat.lt_of_lt_of_le hs6 b7.size
   clear b7 x0 y0 y1 y2
   generalize w6.drew=V at *
   refine wpAnyH_ready (rs:=[4,7]) (by kernel_rfl) (by simp) ?_
   refine AllReadyH.cons (o:=⟨some 40,_,_,_,_,_⟩) rfl (fun K hK=>?_) (AllReadyH.cons (o:=⟨some 43,_,_,_,_,_⟩) rfl (fun K hK=>?_) AllReadyH.nil)
   ·skip
    have x0:=pX.cell 0
    simp only [List.getElem?_cons_zero] at x0
    go_simp
    refine hK.out _ _ ⟨pE.cell 0,pE.cell 1,pE.cell 2⟩ (fun hSl=>?_)
    clear hK x0 hSl
    try simp only [Act.put,tka,tkb,tkc]
    refine tkr 7 43 (fun K hK=>?_)
    have hbb:Below V.heap.size V (V.alloc (.cells #[.string ek,.slice e1 m1 d1,.slice e2 m2 d2] 45)):=by go_grown
    have p7:Blk (V.alloc (.cells #[.string ek,.slice e1 m1 d1,.slice e2 m2 d2] 45)) V.heap.size 45 [.string ek,.slice e1 m1 d1,.slice e2 m2 d2]:=blkAt _ _ _ rfl
    have hg7:w.heap.size≤V.heap.size:=by omega
    replace bw:=bel8 bw hbb
    replace pX:=pX.below hbb
    replace pE:=pE.below hbb
    replace q:=owns8 q hbb
    replace hQ:=hQ.below hbb
    replace hn:=hn.below hbb
    replace hs6:=Nat.lt_of_lt_of_le hs6 hbb.size
    go_simp
    refine hK.out _ _ ⟨pE.cell 0,pE.cell 1,pE.cell 2⟩ (fun hSa=>?_)
    clear hK hSa hbb
    try simp only [Act.put,tka,tkb,tkc]
    obtain ⟨g7,hgg7⟩:∃ g7,g7=V.heap.size:=⟨_,rfl⟩
    rw [← hgg7]
    rw [← hgg7] at p7 hg7
    clear hgg7
    generalize V.alloc (.cells #[.string ek,.slice e1 m1 d1,.slice e2 m2 d2] 45)=V2 at *
    have kIns:=insert_is (.slice va ln vc) n9 cs B p g7 ek ((e1,m1,d1),(e2,m2,d2)) V2 q p7 (fun e9=>by have:=hqlt _ e9;omega) hpl hl2 (by omega) hone
    refine tkr 8 44 (fun K hK=>?_)
    go_simp
    refine kIns.mono ?_
    rintro x9 W9 ⟨⟨v9,rfl,qi⟩,hgrow⟩
    obtain ⟨ia,ic,rfl⟩:=slice8 qi
    replace bw:=(bw.mono hBw).grown hgrow (by omega) hqB
    have hXo:=row_ne_blkQ q pX (by decide)
    replace pX:=pX.kept hgrow hXo
    replace pE:=pE.kept hgrow (fun e9=>by have:=hqlt _ e9;omega)
    replace hQ:=hQ.kept9 hgrow q
    replace hn:=hn.kept9 hgrow q
    go_wp2_with fail
    refine hK.out _ _ ⟨pE.cell 0,pE.cell 1,pE.cell 2⟩ (fun hS8=>?_)
    clear hK hgrow q p7 kIns
    try simp only [Act.put,tka,tkb,tkc]
    refine tkx 9 45 (.pointer (some ⟨X,0,none⟩)) ?_ ?_
    ·(intro w' hSw;(try dsimp only at hSw);go_simp;first | done | rfl | omega | (intro h9;omega) | (rw [IntKind.wrap_i64];omega))
    simp only [Act.put,tka,tkb,tkc]
    refine tkx 10 46 (.pointer (some ⟨X,0,none⟩)) ?_ ?_
    ·(intro w' hSw;(try dsimp only at hSw);go_simp;first | done | rfl | omega | (intro h9;omega) | (rw [IntKind.wrap_i64];omega))
    simp only [Act.put,tka,tkb,tkc]
    have r0:=pX.cell 0
    have fr0:=pX.frozen 0
    have pZ:=pX.set 0 (.slice ia (n9+1) ic)
    simp only [List.set_cons_zero] at pZ
    have z0:=pZ.cell 0
    simp only [List.getElem?_cons_zero] at z0 r0
    have bz:=bw.setCell (p:=⟨X,0,none⟩) hBX (.slice ia (n9+1) ic)
    have pE3:=pE.off ⟨X,0,none⟩ (.slice ia (n9+1) ic) (by simp;omega)
    have hQ3:=hQ.setP pX (by decide) (by decide) 0 (.slice ia (n9+1) ic)
    have hn3:=hn.setP (j:=0) (row_ne_blkQ hn.1 pX (by decide)) (row_ne_blkQ hn.2 pX (by decide)) (.slice ia (n9+1) ic)
    have hrow:(W9.setCell ⟨X,0,none⟩ (.slice ia (n9+1) ic)).ownsRow B 45 3 (.slice ia (n9+1) ic) PL.length (entL PL):=by rw [hin,HLN];exact ownsRow_setCell_other qi (row_ne_blkQ qi pX (by decide)) _
    have hM:=(HOQ.out _ hQ3 hn3).own hrow
    rw [HMP.out] at hM
    clear hQ3 hn3 hrow hQ hn qi
    refine tkz 11 (fun K hK=>?_)
    go_simp
    refine hK.out _ _ ?_ (fun hS11=>?_)
    ·exact ⟨pE3.cell 0,pE3.cell 1,pE3.cell 2⟩
    clear hK
    try simp only [Act.put,tka,tkb,tkc]
    refine wpAnyH_done (by kernel_rfl) ?_ _
    clear hS0 hS8 hS11 pX pE pE3 bw
    go_wp2
    go_ret
    exact ⟨PutR.mk9 pZ hM,bz⟩
   ·skip
    have hbb:Below V.heap.size V (V.alloc (.cells #[.string ek,.slice e1 m1 d1,.slice e2 m2 d2] 45)):=by go_grown
    have p7:Blk (V.alloc (.cells #[.string ek,.slice e1 m1 d1,.slice e2 m2 d2] 45)) V.heap.size 45 [.string ek,.slice e1 m1 d1,.slice e2 m2 d2]:=blkAt _ _ _ rfl
    have hg7:w.heap.size≤V.heap.size:=by omega
    replace bw:=bel8 bw hbb
    replace pX:=pX.below hbb
    replace pE:=pE.below hbb
    replace q:=owns8 q hbb
    replace hQ:=hQ.below hbb
    replace hn:=hn.below hbb
    replace hs6:=Nat.lt_of_lt_of_le hs6 hbb.size
    go_simp
    refine hK.out _ _ ⟨pE.cell 0,pE.cell 1,pE.cell 2⟩ (fun hSa=>?_)
    clear hK hSa hbb
    try simp only [Act.put,tka,tkb,tkc]
    obtain ⟨g7,hgg7⟩:∃ g7,g7=V.heap.size:=⟨_,rfl⟩
    rw [← hgg7]
    rw [← hgg7] at p7 hg7
    clear hgg7
    generalize V.alloc (.cells #[.string ek,.slice e1 m1 d1,.slice e2 m2 d2] 45)=V2 at *
    refine tkr 4 40 (fun K hK=>?_)
    have x0:=pX.cell 0
    simp only [List.getElem?_cons_zero] at x0
    go_simp
    refine hK.out _ _ ⟨pE.cell 0,pE.cell 1,pE.cell 2⟩ (fun hSl=>?_)
    clear hK x0 hSl
    try simp only [Act.put,tka,tkb,tkc]
    have kIns:=insert_is (.slice va ln vc) n9 cs B p g7 ek ((e1,m1,d1),(e2,m2,d2)) V2 q p7 (fun e9=>by have:=hqlt _ e9;omega) hpl hl2 (by omega) hone
    refine tkr 8 44 (fun K hK=>?_)
    go_simp
    refine kIns.mono ?_
    rintro x9 W9 ⟨⟨v9,rfl,qi⟩,hgrow⟩
    obtain ⟨ia,ic,rfl⟩:=slice8 qi
    replace bw:=(bw.mono hBw).grown hgrow (by omega) hqB
    have hXo:=row_ne_blkQ q pX (by decide)
    replace pX:=pX.kept hgrow hXo
    replace pE:=pE.kept hgrow (fun e9=>by have:=hqlt _ e9;omega)
    replace hQ:=hQ.kept9 hgrow q
    replace hn:=hn.kept9 hgrow q
    go_wp2_with fail
    refine hK.out _ _ ⟨pE.cell 0,pE.cell 1,pE.cell 2⟩ (fun hS8=>?_)
    clear hK hgrow q p7 kIns
    try simp only [Act.put,tka,tkb,tkc]
    refine tkx 9 45 (.pointer (some ⟨X,0,none⟩)) ?_ ?_
    ·(intro w' hSw;(try dsimp only at hSw);go_simp;first | done | rfl | omega | (intro h9;omega) | (rw [IntKind.wrap_i64];omega))
    simp only [Act.put,tka,tkb,tkc]
    refine tkx 10 46 (.pointer (some ⟨X,0,none⟩)) ?_ ?_
    ·(intro w' hSw;(try dsimp only at hSw);go_simp;first | done | rfl | omega | (intro h9;omega) | (rw [IntKind.wrap_i64];omega))
    simp only [Act.put,tka,tkb,tkc]
    have r0:=pX.cell 0
    have fr0:=pX.frozen 0
    have pZ:=pX.set 0 (.slice ia (n9+1) ic)
    simp only [List.set_cons_zero] at pZ
    have z0:=pZ.cell 0
    simp only [List.getElem?_cons_zero] at z0 r0
    have bz:=bw.setCell (p:=⟨X,0,none⟩) hBX (.slice ia (n9+1) ic)
    have pE3:=pE.off ⟨X,0,none⟩ (.slice ia (n9+1) ic) (by simp;omega)
    have hQ3:=hQ.setP pX (by decide) (by decide) 0 (.slice ia (n9+1) ic)
    have hn3:=hn.setP (j:=0) (row_ne_blkQ hn.1 pX (by decide)) (row_ne_blkQ hn.2 pX (by decide)) (.slice ia (n9+1) ic)
    have hrow:(W9.setCell ⟨X,0,none⟩ (.slice ia (n9+1) ic)).ownsRow B 45 3 (.slice ia (n9+1) ic) PL.length (entL PL):=by rw [hin,HLN];exact ownsRow_setCell_other qi (row_ne_blkQ qi pX (by decide)) _
    have hM:=(HOQ.out _ hQ3 hn3).own hrow
    rw [HMP.out] at hM
    clear hQ3 hn3 hrow hQ hn qi
    refine tkz 11 (fun K hK=>?_)
    go_simp
    refine hK.out _ _ ?_ (fun hS11=>?_)
    ·exact ⟨pE3.cell 0,pE3.cell 1,pE3.cell 2⟩
    clear hK
    try simp only [Act.put,tka,tkb,tkc]
    refine wpAnyH_done (by kernel_rfl) ?_ _
    clear hS0 hS8 hS11 pX pE pE3 bw
    go_wp2
    go_ret
    exact ⟨PutR.mk9 pZ hM,bz⟩
  ·rw [decide_eq_false hrm]
   simp only [Bool.false_eq_true,if_false]
   go_enter Tryz.func74,Tryz.ntmps74
   go_wp2_with fail
   generalize (w.alloc (.cells #[.string ek,.slice e1 m1 d1,.slice e2 m2 d2] 45))=U at *
   have bd:Below w.heap.size w U.drew:=bel8 bw (by go_grown)
   clear bU
   refine wp_region_held_drew (S:=(fun w'=>w'.cell? ⟨X,0,none⟩=some (.slice va ln vc)∧w'.cell? ⟨w.heap.size,0,none⟩=some (.string ek)∧w'.cell? ⟨w.heap.size,1,none⟩=some (.slice e1 m1 d1)∧w'.cell? ⟨w.heap.size,2,none⟩=some (.slice e2 m2 d2))) (by kernel_rfl) ⟨pX.cell 0,pE.cell 0,pE.cell 1,pE.cell 2⟩ (fun hS0=>?_)
   refine tkx 0 10 (.pointer (some ⟨X,0,none⟩)) ?_ ?_
   ·(intro w' hSw;(try dsimp only at hSw);go_simp;first | done | rfl | omega | (intro h9;omega) | (rw [IntKind.wrap_i64];omega))
   simp only [Act.put,tka,tkb,tkc]
   refine tkx 1 11 (.pointer (some ⟨X,0,none⟩)) ?_ ?_
   ·(intro w' hSw;(try dsimp only at hSw);go_simp;first | done | rfl | omega | (intro h9;omega) | (rw [IntKind.wrap_i64];omega))
   simp only [Act.put,tka,tkb,tkc]
   refine tkx 2 12 (.agg #[.slice va ln vc]) ?_ ?_
   ·(intro w' hSw;(try dsimp only at hSw);go_simp;first | done | rfl | omega | (intro h9;omega) | (rw [IntKind.wrap_i64];omega))
   simp only [Act.put,tka,tkb,tkc]
   refine tkx 3 13 (.agg #[.string ek,.slice e1 m1 d1,.slice e2 m2 d2]) ?_ ?_
   ·(intro w' hSw;(try dsimp only at hSw);go_simp;first | done | rfl | omega | (intro h9;omega) | (rw [IntKind.wrap_i64];omega))
   simp only [Act.put,tka,tkb,tkc]
   refine tkx 4 14 (.iface 45 (.agg #[.string ek,.slice e1 m1 d1,.slice e2 m2 d2])) ?_ ?_
   ·(intro w' hSw;(try dsimp only at hSw);go_simp;first | done | rfl | omega | (intro h9;omega) | (rw [IntKind.wrap_i64];omega))
   simp only [Act.put,tka,tkb,tkc]
   refine tkr 5 15 (fun K hK=>?_)
   go_simp
   refine (kK _).mono ?_
   rintro e w5 ⟨rfl,hb5⟩
   go_wp2_with fail
   refine hK.out _ _ ?_ (fun hS5=>?_)
   ·exact ⟨cells_kept hb5 _ _ hS0.1,cells_kept hb5 _ _ hS0.2.1,cells_kept hb5 _ _ hS0.2.2.1,cells_kept hb5 _ _ hS0.2.2.2⟩
   clear hK
   refine tkr 6 16 (fun K hK=>?_)
   go_simp
   refine (kF _ (bel8 bd hb5)).mono ?_
   rintro e w6 ⟨rfl,hb6⟩
   go_wp2_with fail
   refine hK.out _ _ ?_ (fun hS6=>?_)
   ·exact ⟨cells_kept hb6 _ _ hS5.1,cells_kept hb6 _ _ hS5.2.1,cells_kept hb6 _ _ hS5.2.2.1,cells_kept hb6 _ _ hS5.2.2.2⟩
   clear hK
   refine tkx 7 9 (.tuple #[.int .i64 (p:Int),.bool false]) ?_ ?_
   ·(intro w' hSw;(try dsimp only at hSw);go_simp;first | done | rfl | omega | (intro h9;omega) | (rw [IntKind.wrap_i64];omega))
   simp only [Act.put,tka,tkb,tkc]
   refine tkx 8 17 (.int .i64 (p:Int)) ?_ ?_
   ·(intro w' hSw;(try dsimp only at hSw);go_simp;first | done | rfl | omega | (intro h9;omega) | (rw [IntKind.wrap_i64];omega))
   simp only [Act.put,tka,tkb,tkc]
   refine tkx 9 18 (.bool false) ?_ ?_
   ·(intro w' hSw;(try dsimp only at hSw);go_simp;first | done | rfl | omega | (intro h9;omega) | (rw [IntKind.wrap_i64];omega))
   simp only [Act.put,tka,tkb,tkc]
   refine tkx 10 7 (.int .i64 (p:Int)) ?_ ?_
   ·(intro w' hSw;(try dsimp only at hSw);go_simp;first | done | rfl | omega | (intro h9;omega) | (rw [IntKind.wrap_i64];omega))
   simp only [Act.put,tka,tkb,tkc]
   refine tkx 11 8 (.bool false) ?_ ?_
   ·(intro w' hSw;(try dsimp only at hSw);go_simp;first | done | rfl | omega | (intro h9;omega) | (rw [IntKind.wrap_i64];omega))
   simp only [Act.put,tka,tkb,tkc]
   refine wpAnyH_done (by kernel_rfl) ?_ _
   have b6:Below U.heap.size U w6:=bel8 (bel8 (show Below U.heap.size U U.drew by go_grown) hb5) hb6
   replace bw:=bel8 bw b6
   replace pX:=pX.below b6
   replace pE:=pE.below b6
   replace q:=owns8 q b6
   replace hQ:=hQ.below b6
   replace hn:=hn.below b6
   have hs6:w.heap.size<w6.heap.size:=pE.lt
   clear hS0 hS5 hS6 hb5 hb6 b6 bd kF kK
   have hM:=HOO.out _ _ hQ q
   have bz:=bw.mono hBw
   have hfl:¬ (ln:Int)<2000:=by omega
   have x0:=pX.cell 0
   simp only [List.getElem?_cons_zero] at x0
   go_wp2
   go_ret
   exact ⟨PutR.mk9 pX hM,bz⟩
 ·rw [hI] at kF HLN
  simp only [Bool.true_or,if_true] at HLN ⊢
  have hov:=HOV.out hI
  have hp9:=hpi hI
  clear HIN HOV hpi hI
  go_enter Tryz.func74,Tryz.ntmps74
  go_wp2_with fail
  generalize (w.alloc (.cells #[.string ek,.slice e1 m1 d1,.slice e2 m2 d2] 45))=U at *
  have bd:Below w.heap.size w U.drew:=bel8 bw (by go_grown)
  clear bU
  refine wp_region_held_drew (S:=(fun w'=>w'.cell? ⟨X,0,none⟩=some (.slice va ln vc)∧w'.cell? ⟨w.heap.size,0,none⟩=some (.string ek)∧w'.cell? ⟨w.heap.size,1,none⟩=some (.slice e1 m1 d1)∧w'.cell? ⟨w.heap.size,2,none⟩=some (.slice e2 m2 d2))) (by kernel_rfl) ⟨pX.cell 0,pE.cell 0,pE.cell 1,pE.cell 2⟩ (fun hS0=>?_)
  refine tkx 0 10 (.pointer (some ⟨X,0,none⟩)) ?_ ?_
  ·(intro w' hSw;(try dsimp only at hSw);go_simp;first | done | rfl | omega | (intro h9;omega) | (rw [IntKind.wrap_i64];omega))
  simp only [Act.put,tka,tkb,tkc]
  refine tkx 1 11 (.pointer (some ⟨X,0,none⟩)) ?_ ?_
  ·(intro w' hSw;(try dsimp only at hSw);go_simp;first | done | rfl | omega | (intro h9;omega) | (rw [IntKind.wrap_i64];omega))
  simp only [Act.put,tka,tkb,tkc]
  refine tkx 2 12 (.agg #[.slice va ln vc]) ?_ ?_
  ·(intro w' hSw;(try dsimp only at hSw);go_simp;first | done | rfl | omega | (intro h9;omega) | (rw [IntKind.wrap_i64];omega))
  simp only [Act.put,tka,tkb,tkc]
  refine tkx 3 13 (.agg #[.string ek,.slice e1 m1 d1,.slice e2 m2 d2]) ?_ ?_
  ·(intro w' hSw;(try dsimp only at hSw);go_simp;first | done | rfl | omega | (intro h9;omega) | (rw [IntKind.wrap_i64];omega))
  simp only [Act.put,tka,tkb,tkc]
  refine tkx 4 14 (.iface 45 (.agg #[.string ek,.slice e1 m1 d1,.slice e2 m2 d2])) ?_ ?_
  ·(intro w' hSw;(try dsimp only at hSw);go_simp;first | done | rfl | omega | (intro h9;omega) | (rw [IntKind.wrap_i64];omega))
  simp only [Act.put,tka,tkb,tkc]
  refine tkr 5 15 (fun K hK=>?_)
  go_simp
  refine (kK _).mono ?_
  rintro e w5 ⟨rfl,hb5⟩
  go_wp2_with fail
  refine hK.out _ _ ?_ (fun hS5=>?_)
  ·exact ⟨cells_kept hb5 _ _ hS0.1,cells_kept hb5 _ _ hS0.2.1,cells_kept hb5 _ _ hS0.2.2.1,cells_kept hb5 _ _ hS0.2.2.2⟩
  clear hK
  refine tkr 6 16 (fun K hK=>?_)
  go_simp
  refine (kF _ (bel8 bd hb5)).mono ?_
  rintro e w6 ⟨rfl,hb6⟩
  go_wp2_with fail
  refine hK.out _ _ ?_ (fun hS6=>?_)
  ·exact ⟨cells_kept hb6 _ _ hS5.1,cells_kept hb6 _ _ hS5.2.1,cells_kept hb6 _ _ hS5.2.2.1,cells_kept hb6 _ _ hS5.2.2.2⟩
  clear hK
  refine tkx 7 9 (.tuple #[.int .i64 (p:Int),.bool true]) ?_ ?_
  ·(intro w' hSw;(try dsimp only at hSw);go_simp;first | done | rfl | omega | (intro h9;omega) | (rw [IntKind.wrap_i64];omega))
  simp only [Act.put,tka,tkb,tkc]
  refine tkx 8 17 (.int .i64 (p:Int)) ?_ ?_
  ·(intro w' hSw;(try dsimp only at hSw);go_simp;first | done | rfl | omega | (intro h9;omega) | (rw [IntKind.wrap_i64];omega))
  simp only [Act.put,tka,tkb,tkc]
  refine tkx 9 18 (.bool true) ?_ ?_
  ·(intro w' hSw;(try dsimp only at hSw);go_simp;first | done | rfl | omega | (intro h9;omega) | (rw [IntKind.wrap_i64];omega))
  simp only [Act.put,tka,tkb,tkc]
  refine tkx 10 7 (.int .i64 (p:Int)) ?_ ?_
  ·(intro w' hSw;(try dsimp only at hSw);go_simp;first | done | rfl | omega | (intro h9;omega) | (rw [IntKind.wrap_i64];omega))
  simp only [Act.put,tka,tkb,tkc]
  refine tkx 11 8 (.bool true) ?_ ?_
  ·(intro w' hSw;(try dsimp only at hSw);go_simp;first | done | rfl | omega | (intro h9;omega) | (rw [IntKind.wrap_i64];omega))
  simp only [Act.put,tka,tkb,tkc]
  refine wpAnyH_done (by kernel_rfl) ?_ _
  have b6:Below U.heap.size U w6:=bel8 (bel8 (show Below U.heap.size U U.drew by go_grown) hb5) hb6
  replace bw:=bel8 bw b6
  replace pX:=pX.below b6
  replace pE:=pE.below b6
  replace q:=owns8 q b6
  replace hQ:=hQ.below b6
  replace hn:=hn.below b6
  have hs6:w.heap.size<w6.heap.size:=pE.lt
  clear hS0 hS5 hS6 hb5 hb6 b6 bd kF kK
  rcases q.2 with ⟨_,h0'⟩ | ⟨g,cap,cur,hv,hBg,hgr,hnc,_⟩
  ·omega
  injection hv with ea el ec
  subst ea el ec
  have hgl:=hqlt g rfl
  have hgX:g≠X:=fun e9=>row_ne_blkQ q pX (by decide) (by simp [Value.ownBlock];exact e9)
  have hgE:g≠w.heap.size:=by omega
  have b7:Below w6.heap.size w6 w6.drew:=by go_grown
  replace bw:=(bel8 bw b7).mono hBw
  replace pX:=pX.below b7
  replace pE:=pE.below b7
  replace q:=owns8 q b7
  replace hQ:=hQ.below b7
  replace hn:=hn.below b7
  have hcl:=q.1
  have f0:=q.frozenAt (p*3)
  have f1:=q.frozenAt (p*3+1)
  have f2:=q.frozenAt (p*3+2)
  obtain ⟨u0,hu0⟩:∃ u,w6.drew.cell? ⟨g,p*3,none⟩=some u:=⟨_,by rw [q.cellAt _ (by omega)];exact List.getElem?_eq_getElem (by omega)⟩
  obtain ⟨u1,hu1⟩:∃ u,w6.drew.cell? ⟨g,p*3+1,none⟩=some u:=⟨_,by rw [q.cellAt _ (by omega)];exact List.getElem?_eq_getElem (by omega)⟩
  obtain ⟨u2,hu2⟩:∃ u,w6.drew.cell? ⟨g,p*3+2,none⟩=some u:=⟨_,by rw [q.cellAt _ (by omega)];exact List.getElem?_eq_getElem (by omega)⟩
  have s1:=q.stored (p*3) (.string ek)
  have s2:=s1.1.stored (p*3+1) (.slice e1 m1 d1)
  have s3:=s2.1.stored (p*3+2) (.slice e2 m2 d2)
  have hQ3:=((hQ.kept9 s1.2 q).kept9 s2.2 s1.1).kept9 s3.2 s2.1
  have hn3:=((hn.kept9 s1.2 q).kept9 s2.2 s1.1).kept9 s3.2 s2.1
  have pX3:=((pX.off ⟨g,p*3,none⟩ (.string ek) (by simp;omega)).off ⟨g,p*3+1,none⟩ (.slice e1 m1 d1) (by simp;omega)).off ⟨g,p*3+2,none⟩ (.slice e2 m2 d2) (by simp;omega)
  have pE3:=((pE.off ⟨g,p*3,none⟩ (.string ek) (by simp;omega)).off ⟨g,p*3+1,none⟩ (.slice e1 m1 d1) (by simp;omega)).off ⟨g,p*3+2,none⟩ (.slice e2 m2 d2) (by simp;omega)
  have bz:=((bw.setCell (p:=⟨g,p*3,none⟩) hBg (.string ek)).setCell (p:=⟨g,p*3+1,none⟩) hBg (.slice e1 m1 d1)).setCell (p:=⟨g,p*3+2,none⟩) hBg (.slice e2 m2 d2)
  have hrow:(((w6.drew.setCell ⟨g,p*3,none⟩ (.string ek)).setCell ⟨g,p*3+1,none⟩ (.slice e1 m1 d1)).setCell ⟨g,p*3+2,none⟩ (.slice e2 m2 d2)).ownsRow B 45 3 (.slice (some ⟨g,0,none⟩) ln vc) PL.length (entL PL):=by
   rw [hov,HLN]
   have h9:=s3.1
   rw [set3_eq (by omega)] at h9
   exact h9
  have hM:=(HOQ.out _ hQ3 hn3).own hrow
  rw [HMP.out] at hM
  have hpn:(p:Int)<(ln:Int):=by omega
  have hp0:(0:Int)≤(p:Int):=by omega
  have x0:=pX.cell 0
  have y0:=pE.cell 0
  have y1:=pE.cell 1
  have y2:=pE.cell 2
  simp only [List.getElem?_cons_zero,List.getElem?_cons_succ] at x0 y0 y1 y2
  clear s1 s2 s3 hQ3 hn3 hrow hQ hn q
  go_wp2_with fail
  refine wp_region_held_drew (S:=(fun w'=>w'.cell? ⟨X,0,none⟩=some (.slice (some ⟨g,0,none⟩) ln vc)∧w'.cell? ⟨w.heap.size,0,none⟩=some (.string ek)∧w'.cell? ⟨w.heap.size,1,none⟩=some (.slice e1 m1 d1)∧w'.cell? ⟨w.heap.size,2,none⟩=some (.slice e2 m2 d2))) (by kernel_rfl) ⟨x0,y0,y1,y2⟩ (fun hS0=>?_)
  refine tkx 0 21 (.pointer (some ⟨X,0,none⟩)) ?_ ?_
  ·(intro w' hSw;(try dsimp only at hSw);go_simp;first | done | rfl | omega | (intro h9;omega) | (rw [IntKind.wrap_i64];omega))
  simp only [Act.put,tka,tkb,tkc]
  refine tkx 1 22 (.pointer (some ⟨X,0,none⟩)) ?_ ?_
  ·(intro w' hSw;(try dsimp only at hSw);go_simp;first | done | rfl | omega | (intro h9;omega) | (rw [IntKind.wrap_i64];omega))
  simp only [Act.put,tka,tkb,tkc]
  refine tkx 2 23 (.pointer (some ⟨X,0,none⟩)) ?_ ?_
  ·(intro w' hSw;(try dsimp only at hSw);go_simp;first | done | rfl | omega | (intro h9;omega) | (rw [IntKind.wrap_i64];omega))
  simp only [Act.put,tka,tkb,tkc]
  refine tkx 3 24 (.slice (some ⟨g,0,none⟩) ln vc) ?_ ?_
  ·(intro w' hSw;(try dsimp only at hSw);go_simp;first | done | rfl | omega | (intro h9;omega) | (rw [IntKind.wrap_i64];omega))
  simp only [Act.put,tka,tkb,tkc]
  refine tkx 4 25 (.int .i64 (p:Int)) ?_ ?_
  ·(intro w' hSw;(try dsimp only at hSw);go_simp;first | done | rfl | omega | (intro h9;omega) | (rw [IntKind.wrap_i64];omega))
  simp only [Act.put,tka,tkb,tkc]
  refine tkx 5 26 (.agg #[.string ek,.slice e1 m1 d1,.slice e2 m2 d2]) ?_ ?_
  ·(intro w' hSw;(try dsimp only at hSw);go_simp;first | done | rfl | omega | (intro h9;omega) | (rw [IntKind.wrap_i64];omega))
  simp only [Act.put,tka,tkb,tkc]
  refine tkx 6 27 (.pointer (some ⟨g,p*3,none⟩)) ?_ ?_
  ·(intro w' hSw;(try dsimp only at hSw);go_simp;first | done | rfl | omega | (intro h9;omega) | (rw [IntKind.wrap_i64];omega))
  simp only [Act.put,tka,tkb,tkc]
  generalize w6.drew=V at *
  refine tkz 7 (fun K hK=>?_)
  go_simp
  refine hK.out _ _ ?_ (fun hS7=>?_)
  ·exact ⟨pX3.cell 0,pE3.cell 0,pE3.cell 1,pE3.cell 2⟩
  clear hK
  try simp only [Act.put,tka,tkb,tkc]
  refine wpAnyH_done (by kernel_rfl) ?_ _
  clear hS0 hS7 pX pE pE3 bw
  go_wp2
  go_ret
  exact ⟨PutR.mk9 pX3 hM,bz⟩


theorem implPutEntry_is (a:Option Addr) (n c:Nat) (es:List E3) (e:E3) (s:Sl2) (w:World) (h:Ents w a n c es) (hE:Emem w s e) (hV:VmShape w) :
  Calls Tryz.prog 21 #[.agg #[.slice a n c],entV e.1 s] w fun x w'=>MemGotC x w' w.heap.size (ptM es e) (ptC es e)∧Below w.heap.size w w':=by
 have kM:=fun W (hb:Below w.heap.size w W)=>implMemoOK_is a n c es W (h.below hb) (hV.below hb)
 have kE:=fun W (hb:Below w.heap.size w W)=>implEntryOK_is e s W (hE.below hb) (hV.below hb)
 have kC:=fun (hok:memOk es=true) W (hb:Below w.heap.size w W)=>memoCopied_is a n c es W (h.below hb) hok
 have kD:=fun (heo:entOk e=true) W (hb:Below w.heap.size w W)=>copied_is e s W (hE.below hb) (by have:=entOk_bugs heo;omega) (by have:=entOk_foot heo;omega) (by have:=entOk_key heo;omega)
 have hfit:=h.fits
 have hef:=hE.fits
 unfold ptM ptC
 obtain ⟨ek,eb,ez⟩:=e
 obtain ⟨⟨e1,m1,d1⟩,⟨e2,m2,d2⟩⟩:=s
 unfold entV at kE kD ⊢
 simp only at *
 have bw:Below w.heap.size w (((w.alloc (.cells #[.slice a n c] 33)).alloc (.cells #[.string ek,.slice e1 m1 d1,.slice e2 m2 d2] 45)).alloc (.cells #[.slice none 0 0] 33)):=by go_grown
 have pM:Blk (((w.alloc (.cells #[.slice a n c] 33)).alloc (.cells #[.string ek,.slice e1 m1 d1,.slice e2 m2 d2] 45)).alloc (.cells #[.slice none 0 0] 33)) w.heap.size 33 [.slice a n c]:=blkOld _ (blkOld _ (blkAt _ _ _ rfl))
 have pE:Blk (((w.alloc (.cells #[.slice a n c] 33)).alloc (.cells #[.string ek,.slice e1 m1 d1,.slice e2 m2 d2] 45)).alloc (.cells #[.slice none 0 0] 33)) (w.heap.size+1) 45 [.string ek,.slice e1 m1 d1,.slice e2 m2 d2]:=blkOld _ (blkAt _ _ _ (by simp))
 have pR:Blk (((w.alloc (.cells #[.slice a n c] 33)).alloc (.cells #[.string ek,.slice e1 m1 d1,.slice e2 m2 d2] 45)).alloc (.cells #[.slice none 0 0] 33)) (w.heap.size+1+1) 33 [.slice none 0 0]:=blkAt _ _ _ (by simp)
 have x0:=pE.cell 0
 have x1:=pE.cell 1
 have x2:=pE.cell 2
 have g0:=pM.cell 0
 simp only [List.getElem?_cons_zero,List.getElem?_cons_succ] at x0 x1 x2 g0
 clear h hE hV
 cases hok:memOk es
 ·rw [if_neg (by simp),if_neg (by simp)]
  rw [hok] at kM
  clear kE kC kD hok
  go_enter Tryz.func21,Tryz.ntmps21
  go_wp2_with fail
  generalize (((w.alloc (.cells #[.slice a n c] 33)).alloc (.cells #[.string ek,.slice e1 m1 d1,.slice e2 m2 d2] 45)).alloc (.cells #[.slice none 0 0] 33))=U at *
  refine (kM _ bw).mono ?_
  rintro x w1 ⟨rfl,hb⟩
  replace bw:=bel8 bw hb
  replace pM:=pM.below hb
  replace pE:=pE.below hb
  replace pR:=pR.below hb
  replace x0:=pE.cell 0
  replace x1:=pE.cell 1
  replace x2:=pE.cell 2
  replace g0:=pM.cell 0
  simp only [List.getElem?_cons_zero,List.getElem?_cons_succ] at x0 x1 x2 g0
  clear hb kM
  clear x0 x1 x2 g0
  have r0:=pR.cell 0
  have fr0:=pR.frozen 0
  have pZ:=pR.set 0 (.slice none 0 0)
  simp only [List.set_cons_zero] at pZ
  have z0:=pZ.cell 0
  simp only [List.getElem?_cons_zero] at z0 r0
  have bz:=bw.setCell (p:=⟨w.heap.size+1+1,0,none⟩) (show w.heap.size≤w.heap.size+1+1 by omega) (.slice none 0 0)
  clear pZ pR pM pE
  go_wp2
  refine bodyPost_ret (by simp [results,Tryz.results21,go_sem,z0];try rfl) rfl ?_
  exact ⟨MemGotC.mk9 (OwnM.nil9 _ _),bz⟩
 ·rw [hok] at kM
  cases heo:entOk (ek,eb,ez)
  ·rw [if_neg (by simp),if_neg (by simp)]
   rw [heo] at kE
   clear kC kD hok heo
   go_enter Tryz.func21,Tryz.ntmps21
   go_wp2_with fail
   generalize (((w.alloc (.cells #[.slice a n c] 33)).alloc (.cells #[.string ek,.slice e1 m1 d1,.slice e2 m2 d2] 45)).alloc (.cells #[.slice none 0 0] 33))=U at *
   refine (kM _ bw).mono ?_
   rintro x w1 ⟨rfl,hb⟩
   replace bw:=bel8 bw hb
   replace pM:=pM.below hb
   replace pE:=pE.below hb
   replace pR:=pR.below hb
   replace x0:=pE.cell 0
   replace x1:=pE.cell 1
   replace x2:=pE.cell 2
   replace g0:=pM.cell 0
   simp only [List.getElem?_cons_zero,List.getElem?_cons_succ] at x0 x1 x2 g0
   clear hb kM
   go_wp2_with fail
   refine (kE _ bw).mono ?_
   rintro x w2 ⟨rfl,hb⟩
   replace bw:=bel8 bw hb
   replace pM:=pM.below hb
   replace pE:=pE.below hb
   replace pR:=pR.below hb
   replace x0:=pE.cell 0
   replace x1:=pE.cell 1
   replace x2:=pE.cell 2
   replace g0:=pM.cell 0
   simp only [List.getElem?_cons_zero,List.getElem?_cons_succ] at x0 x1 x2 g0
   clear hb kE
   clear x0 x1 x2 g0
   have r0:=pR.cell 0
   have fr0:=pR.frozen 0
   have pZ:=pR.set 0 (.slice none 0 0)
   simp only [List.set_cons_zero] at pZ
   have z0:=pZ.cell 0
   simp only [List.getElem?_cons_zero] at z0 r0
   have bz:=bw.setCell (p:=⟨w.heap.size+1+1,0,none⟩) (show w.heap.size≤w.heap.size+1+1 by omega) (.slice none 0 0)
   clear pZ pR pM pE
   go_wp2
   refine bodyPost_ret (by simp [results,Tryz.results21,go_sem,z0];try rfl) rfl ?_
   exact ⟨MemGotC.mk9 (OwnM.nil9 _ _),bz⟩
  ·rw [heo] at kE
   have hAA:(true=true∧true=true):=⟨rfl,rfl⟩
   rw [if_pos hAA,if_pos hAA]
   clear hAA
   replace kC:=kC hok
   replace kD:=kD heo
   have hn2:=memOk_len hok
   by_cases hfull:isE es ek=false∧es.length=2000
   ·rw [if_pos hfull,if_pos hfull]
    have HRB:(isE es ek || decide (es.length<2000))=false:=by rw [hfull.1,decide_eq_false (by omega)];rfl
    clear hfull heo
    go_enter Tryz.func21,Tryz.ntmps21
    go_wp2_with fail
    generalize (((w.alloc (.cells #[.slice a n c] 33)).alloc (.cells #[.string ek,.slice e1 m1 d1,.slice e2 m2 d2] 45)).alloc (.cells #[.slice none 0 0] 33))=U at *
    refine (kM _ bw).mono ?_
    rintro x w1 ⟨rfl,hb⟩
    replace bw:=bel8 bw hb
    replace pM:=pM.below hb
    replace pE:=pE.below hb
    replace pR:=pR.below hb
    replace x0:=pE.cell 0
    replace x1:=pE.cell 1
    replace x2:=pE.cell 2
    replace g0:=pM.cell 0
    simp only [List.getElem?_cons_zero,List.getElem?_cons_succ] at x0 x1 x2 g0
    clear hb kM
    go_wp2_with fail
    refine (kE _ bw).mono ?_
    rintro x w2 ⟨rfl,hb⟩
    replace bw:=bel8 bw hb
    replace pM:=pM.below hb
    replace pE:=pE.below hb
    replace pR:=pR.below hb
    replace x0:=pE.cell 0
    replace x1:=pE.cell 1
    replace x2:=pE.cell 2
    replace g0:=pM.cell 0
    simp only [List.getElem?_cons_zero,List.getElem?_cons_succ] at x0 x1 x2 g0
    clear hb kE
    go_wp2_with fail
    refine (kC _ bw).mono ?_
    rintro x w3 ⟨⟨v,rfl,hM⟩,hb⟩
    have hB2:w.heap.size+1+1<w2.heap.size:=pR.lt
    obtain ⟨L,hLm,hrow,hQ⟩:=hM.q9
    obtain ⟨va,vc,rfl⟩:=slice8 hrow
    replace bw:=bel8 bw hb
    replace pM:=pM.below hb
    replace pE:=pE.below hb
    replace pR:=pR.below hb
    replace x0:=pE.cell 0
    replace x1:=pE.cell 1
    replace x2:=pE.cell 2
    replace g0:=pM.cell 0
    simp only [List.getElem?_cons_zero,List.getElem?_cons_succ] at x0 x1 x2 g0
    have hs3:=hb.size
    clear hb kC hM
    go_wp2_with fail
    refine (memoTable_is va L.length vc _).mono ?_
    rintro x w4 ⟨rfl,hb⟩
    replace bw:=bel8 bw hb
    replace pM:=pM.below hb
    replace pE:=pE.below hb
    replace pR:=pR.below hb
    replace x0:=pE.cell 0
    replace x1:=pE.cell 1
    replace x2:=pE.cell 2
    replace g0:=pM.cell 0
    simp only [List.getElem?_cons_zero,List.getElem?_cons_succ] at x0 x1 x2 g0
    replace hrow:=owns8 hrow hb
    replace hQ:=hQ.below hb
    replace hs3:=Nat.le_trans hs3 hb.size
    clear hb
    have bX:Below w4.heap.size w4 (w4.alloc (.cells #[.slice va L.length vc] 114)):=by go_grown
    have pX:Blk (w4.alloc (.cells #[.slice va L.length vc] 114)) w4.heap.size 114 [.slice va L.length vc]:=blkAt _ _ _ rfl
    replace bw:=bel8 bw bX
    replace pM:=pM.below bX
    replace pE:=pE.below bX
    replace pR:=pR.below bX
    replace x0:=pE.cell 0
    replace x1:=pE.cell 1
    replace x2:=pE.cell 2
    replace g0:=pM.cell 0
    simp only [List.getElem?_cons_zero,List.getElem?_cons_succ] at x0 x1 x2 g0
    replace hrow:=owns8 hrow bX
    replace hQ:=hQ.below bX
    have hs4:w2.heap.size≤(w4.alloc (.cells #[.slice va L.length vc] 114)).heap.size:=Nat.le_trans hs3 bX.size
    clear bX
    go_wp2_with fail
    obtain ⟨X,hX⟩:∃ X,X=w4.heap.size:=⟨_,rfl⟩
    rw [← hX] at pX ⊢
    have hXB:w2.heap.size≤X:=by omega
    clear hX
    generalize w4.alloc (.cells #[.slice va L.length vc] 114)=W5 at *
    obtain ⟨ln,hln⟩:∃ ln,ln=L.length:=⟨_,rfl⟩
    rw [← hln] at pX ⊢
    refine (kD _ bw).mono ?_
    rintro x w6 ⟨⟨⟨⟨f1,i1,j1⟩,⟨f2,i2,j2⟩⟩,rfl,hO⟩,hb⟩
    have hQ6:=hQ.below hb
    have hrow6:=owns8 hrow hb
    have hrow7:w6.ownsRow w2.heap.size 45 3 (.slice va ln vc) L.length (entL L):=by rw [hln];exact hrow6
    replace pX:=pX.below hb
    replace bw:=bel8 bw hb
    replace pM:=pM.below hb
    replace pE:=pE.below hb
    replace pR:=pR.below hb
    clear hb kD x0 x1 x2 g0 hrow hrow6
    unfold entV
    simp only at hO ⊢
    have kP:=put_is X w2.heap.size va ln vc L (ek,eb,ez) ((f1,i1,j1),(f2,i2,j2)) W5 w6 pX hrow7 hln hQ6 hQ hO (fun x hx=>hfit _ (by rw [← hLm];exact List.mem_map_of_mem hx)) (by rw [hLm];exact hok) hs4 hXB
    unfold entV at kP
    simp only at kP
    have hLl:L.length=es.length:=by rw [← hLm,List.length_map]
    rw [hLm,hLl] at kP
    rw [HRB] at kP
    simp only [Bool.false_eq_true,if_false] at kP
    clear hQ hQ6 hO hrow7 hLl hln hLm pX
    go_wp2_with fail
    refine kP.mono ?_
    rintro x w7 ⟨⟨ra,rn,rc,rfl,pX7,hM7⟩,hb⟩
    have bz0:Below w.heap.size w w7:=bw.trans (hb.mono (by omega))
    have pR7:Blk w7 (w.heap.size+1+1) 33 [.slice none 0 0]:=(hb.block _ hB2).trans pR
    clear hb kP pR pM pE bw
    have y0:=pX7.cell 0
    have r0:=pR7.cell 0
    have fr0:=pR7.frozen 0
    have pZ:=pR7.set 0 (.slice ra rn rc)
    simp only [List.set_cons_zero] at pZ
    have z0:=pZ.cell 0
    simp only [List.getElem?_cons_zero] at z0 r0 y0
    have bz:=bz0.setCell (p:=⟨w.heap.size+1+1,0,none⟩) (show w.heap.size≤w.heap.size+1+1 by omega) (.slice ra rn rc)
    have hM9:=(hM7.low (p:=⟨w.heap.size+1+1,0,none⟩) (show w.heap.size+1+1<w2.heap.size from hB2) (.slice ra rn rc)).lower (show w.heap.size≤w2.heap.size by omega)
    clear pZ pR7 pX7 hM7 bz0
    go_wp2
    refine bodyPost_ret (by simp [results,Tryz.results21,go_sem,z0];try rfl) rfl ?_
    exact ⟨MemGotC.mk9 hM9,bz⟩
   ·rw [if_neg hfull,if_neg hfull]
    have HRB:(isE es ek || decide (es.length<2000))=true:=by
     cases hI:isE es ek
     ·rw [Bool.false_or,decide_eq_true_eq]
      have:¬ es.length=2000:=fun e9=>hfull ⟨hI,e9⟩
      omega
     ·rfl
    clear hfull heo
    skip
    go_enter Tryz.func21,Tryz.ntmps21
    go_wp2_with fail
    generalize (((w.alloc (.cells #[.slice a n c] 33)).alloc (.cells #[.string ek,.slice e1 m1 d1,.slice e2 m2 d2] 45)).alloc (.cells #[.slice none 0 0] 33))=U at *
    refine (kM _ bw).mono ?_
    rintro x w1 ⟨rfl,hb⟩
    replace bw:=bel8 bw hb
    replace pM:=pM.below hb
    replace pE:=pE.below hb
    replace pR:=pR.below hb
    replace x0:=pE.cell 0
    replace x1:=pE.cell 1
    replace x2:=pE.cell 2
    replace g0:=pM.cell 0
    simp only [List.getElem?_cons_zero,List.getElem?_cons_succ] at x0 x1 x2 g0
    clear hb kM
    go_wp2_with fail
    refine (kE _ bw).mono ?_
    rintro x w2 ⟨rfl,hb⟩
    replace bw:=bel8 bw hb
    replace pM:=pM.below hb
    replace pE:=pE.below hb
    replace pR:=pR.below hb
    replace x0:=pE.cell 0
    replace x1:=pE.cell 1
    replace x2:=pE.cell 2
    replace g0:=pM.cell 0
    simp only [List.getElem?_cons_zero,List.getElem?_cons_succ] at x0 x1 x2 g0
    clear hb kE
    go_wp2_with fail
    refine (kC _ bw).mono ?_
    rintro x w3 ⟨⟨v,rfl,hM⟩,hb⟩
    have hB2:w.heap.size+1+1<w2.heap.size:=pR.lt
    obtain ⟨L,hLm,hrow,hQ⟩:=hM.q9
    obtain ⟨va,vc,rfl⟩:=slice8 hrow
    replace bw:=bel8 bw hb
    replace pM:=pM.below hb
    replace pE:=pE.below hb
    replace pR:=pR.below hb
    replace x0:=pE.cell 0
    replace x1:=pE.cell 1
    replace x2:=pE.cell 2
    replace g0:=pM.cell 0
    simp only [List.getElem?_cons_zero,List.getElem?_cons_succ] at x0 x1 x2 g0
    have hs3:=hb.size
    clear hb kC hM
    go_wp2_with fail
    refine (memoTable_is va L.length vc _).mono ?_
    rintro x w4 ⟨rfl,hb⟩
    replace bw:=bel8 bw hb
    replace pM:=pM.below hb
    replace pE:=pE.below hb
    replace pR:=pR.below hb
    replace x0:=pE.cell 0
    replace x1:=pE.cell 1
    replace x2:=pE.cell 2
    replace g0:=pM.cell 0
    simp only [List.getElem?_cons_zero,List.getElem?_cons_succ] at x0 x1 x2 g0
    replace hrow:=owns8 hrow hb
    replace hQ:=hQ.below hb
    replace hs3:=Nat.le_trans hs3 hb.size
    clear hb
    have bX:Below w4.heap.size w4 (w4.alloc (.cells #[.slice va L.length vc] 114)):=by go_grown
    have pX:Blk (w4.alloc (.cells #[.slice va L.length vc] 114)) w4.heap.size 114 [.slice va L.length vc]:=blkAt _ _ _ rfl
    replace bw:=bel8 bw bX
    replace pM:=pM.below bX
    replace pE:=pE.below bX
    replace pR:=pR.below bX
    replace x0:=pE.cell 0
    replace x1:=pE.cell 1
    replace x2:=pE.cell 2
    replace g0:=pM.cell 0
    simp only [List.getElem?_cons_zero,List.getElem?_cons_succ] at x0 x1 x2 g0
    replace hrow:=owns8 hrow bX
    replace hQ:=hQ.below bX
    have hs4:w2.heap.size≤(w4.alloc (.cells #[.slice va L.length vc] 114)).heap.size:=Nat.le_trans hs3 bX.size
    clear bX
    go_wp2_with fail
    obtain ⟨X,hX⟩:∃ X,X=w4.heap.size:=⟨_,rfl⟩
    rw [← hX] at pX ⊢
    have hXB:w2.heap.size≤X:=by omega
    clear hX
    generalize w4.alloc (.cells #[.slice va L.length vc] 114)=W5 at *
    obtain ⟨ln,hln⟩:∃ ln,ln=L.length:=⟨_,rfl⟩
    rw [← hln] at pX ⊢
    refine (kD _ bw).mono ?_
    rintro x w6 ⟨⟨⟨⟨f1,i1,j1⟩,⟨f2,i2,j2⟩⟩,rfl,hO⟩,hb⟩
    have hQ6:=hQ.below hb
    have hrow6:=owns8 hrow hb
    have hrow7:w6.ownsRow w2.heap.size 45 3 (.slice va ln vc) L.length (entL L):=by rw [hln];exact hrow6
    replace pX:=pX.below hb
    replace bw:=bel8 bw hb
    replace pM:=pM.below hb
    replace pE:=pE.below hb
    replace pR:=pR.below hb
    clear hb kD x0 x1 x2 g0 hrow hrow6
    unfold entV
    simp only at hO ⊢
    have kP:=put_is X w2.heap.size va ln vc L (ek,eb,ez) ((f1,i1,j1),(f2,i2,j2)) W5 w6 pX hrow7 hln hQ6 hQ hO (fun x hx=>hfit _ (by rw [← hLm];exact List.mem_map_of_mem hx)) (by rw [hLm];exact hok) hs4 hXB
    unfold entV at kP
    simp only at kP
    have hLl:L.length=es.length:=by rw [← hLm,List.length_map]
    rw [hLm,hLl] at kP
    rw [HRB] at kP
    simp only [if_true] at kP
    clear hQ hQ6 hO hrow7 hLl hln hLm pX
    go_wp2_with fail
    refine kP.mono ?_
    rintro x w7 ⟨⟨ra,rn,rc,rfl,pX7,hM7⟩,hb⟩
    have bz0:Below w.heap.size w w7:=bw.trans (hb.mono (by omega))
    have pR7:Blk w7 (w.heap.size+1+1) 33 [.slice none 0 0]:=(hb.block _ hB2).trans pR
    clear hb kP pR pM pE bw
    have y0:=pX7.cell 0
    have r0:=pR7.cell 0
    have fr0:=pR7.frozen 0
    have pZ:=pR7.set 0 (.slice ra rn rc)
    simp only [List.set_cons_zero] at pZ
    have z0:=pZ.cell 0
    simp only [List.getElem?_cons_zero] at z0 r0 y0
    have bz:=bz0.setCell (p:=⟨w.heap.size+1+1,0,none⟩) (show w.heap.size≤w.heap.size+1+1 by omega) (.slice ra rn rc)
    have hM9:=(hM7.low (p:=⟨w.heap.size+1+1,0,none⟩) (show w.heap.size+1+1<w2.heap.size from hB2) (.slice ra rn rc)).lower (show w.heap.size≤w2.heap.size by omega)
    clear pZ pR7 pX7 hM7 bz0
    go_wp2
    refine bodyPost_ret (by simp [results,Tryz.results21,go_sem,z0];try rfl) rfl ?_
    exact ⟨MemGotC.mk9 hM9,bz⟩
end Go.Proofs.YtbdfbdbpjijcdaaGreatDoor
