/-
  Joined: EchI.
-/
import Derived.Test.YtifoggpohlegmaaGreatDoorE34
import Derived.Test.YtifoggpohlegmaaGreatDoorE44

namespace Go.Proofs.YtifoggpohlegmaaGreatDoor
set_option maxRecDepth 100000
set_option maxHeartbeats 16000000
open Go.RowKit
set_option linter.unusedVariables false
set_option linter.unusedSimpArgs false

noncomputable def tlF (rows:List (List I3)) (f:Nat) (m:V4) (ls:List Int) (i:Nat):List (List Int):=(((Zj rows m 3).take i).map fun k=>(rnF rows f (goM rows m k).1).map fun ks=>nfG rows (ls++[k]++ks)).flatten
theorem GJ {rows:List (List I3)} {f:Nat} {m:V4} {ls:List Int} {i:Nat} {k:Int} (h:(Zj rows m 3)[i]?=some k):tlF rows f m ls (i+1)=tlF rows f m ls i++(rnF rows f (goM rows m k).1).map fun ks=>nfG rows (ls++[k]++ks):=by
 unfold tlF
 rw [List.take_add_one,h]
 simp
theorem GI {rows:List (List I3)} {f:Nat} {m:V4} {ls:List Int} (i:Nat):(tlF rows f m ls i).length≤(tlF rows f m ls 3).length:=by
 have e:Zj rows m 3=(Zj rows m 3).take 3:=by rw [List.take_of_length_le (YF rows m 3)]
 unfold tlF
 rw [← e]
 conv=>rhs;rw [← List.take_append_drop i (Zj rows m 3)]
 rw [List.map_append,List.flatten_append,List.length_append]
 omega
theorem L4 {rows:List (List I3)} {f:Nat} {m:V4} {ls:List Int} {i:Nat} (hi:(Zj rows m 3).length≤i) (h:Zj rows m 3≠[]):tlF rows f m ls i=(rnF rows (f+1) m).map fun ks=>nfG rows (ls++ks):=by
 unfold tlF
 rw [List.take_of_length_le hi,rnF,if_neg h,List.map_flatten,List.map_map]
 congr 1
 refine List.map_congr_left (fun k _=>?_)
 simp [Function.comp_def]
theorem RG {rows:List (List I3)} {k:Int}:∀ (ks:List Int) (m:V4) (fs:List I3),(ZH rows m fs ks).2.2=0→YN rows m (ks++[k])=YN rows m ks++[ZB rows (ZH rows m fs ks).1 k.toNat]
 | [],m,fs,_=>rfl
 | j::ks,m,fs,h=>by
  by_cases hz:Zx rows m j=0
  ·rw [WW hz] at h ⊢
   show ZB rows m j.toNat::YN rows (goM rows m j).1 (ks++[k])=_
   rw [RG ks _ _ h]
   rfl
  exfalso
  have:(ZH rows m fs (j::ks)).2.2=Zx rows m j:=by
   show (if Zx rows m j=0 then _ else _:V4 × List I3 × Int).2.2=_
   rw [if_neg hz]
  rw [this] at h
  exact hz h
theorem MG {rows:List (List I3)} {ls:List Int} {m:V4} {k:Int} (h:V7 rows ls m) (hz:Zx rows m k=0):V7 rows (ls++[k]) (goM rows m k).1:=by
 obtain ⟨h1,h2⟩:=h
 unfold V7
 rw [Sr rows k ls Zl [] h1,h2,Me,if_pos hz]
 exact ⟨rfl,rfl⟩
theorem P1 {w:World} {B e s g n c:Nat} {xs ys:List Value} (h:w.ownsRow B e s (.slice (some ⟨g,0,none⟩) (n+1) c) (n+1) (xs++ys)) (hl:xs.length=n*s):w.ownsRow B e s (.slice (some ⟨g,0,none⟩) n c) n xs:=by
 refine ⟨hl,?_⟩
 rcases h.2 with ⟨h0,_⟩ | ⟨g',cap,cur,hv,hB,hg,hn,hc,hs,ht⟩
 ·cases h0
 cases hv
 refine .inr ⟨g,c,cur,rfl,hB,hg,by omega,hc,hs,?_⟩
 have e1:cur.toList.take (n*s)=(cur.toList.take ((n+1)*s)).take (n*s):=by
  rw [List.take_take,Nat.min_eq_left (Nat.mul_le_mul_right s (Nat.le_succ n))]
 rw [e1,ht,List.take_append_of_le_length (by omega),List.take_of_length_le (by omega)]
structure Kp8 (w w':World) (Eb nb:Nat) (ev:Value):Prop where
 os:w'.os=w.os
 tape:w'.tape=w.tape
 output:w'.output=w.output
 size:w.heap.size≤w'.heap.size
 block:∀ j,j<w.heap.size→j≠Eb→j≠nb→ev.ownBlock≠some j→w'.heap[j]?=w.heap[j]?
theorem Kp8.refl (w:World) (Eb nb:Nat) (ev:Value):Kp8 w w Eb nb ev:=⟨rfl,rfl,rfl,Nat.le_refl _,fun _ _ _ _ _=>rfl⟩
theorem Kp8.belowR {a b c:World} {Eb nb:Nat} {ev:Value} (h:Kp8 a b Eb nb ev) (k:Below b.heap.size b c):Kp8 a c Eb nb ev:=
 ⟨k.os.trans h.os,k.tape.trans h.tape,k.output.trans h.output,Nat.le_trans h.size k.size,fun j hj h1 h2 h3=>(k.block j (Nat.lt_of_lt_of_le hj h.size)).trans (h.block j hj h1 h2 h3)⟩
theorem Kp8.grE {a b c:World} {Eb nb:Nat} {ev:Value} (h:Kp8 a b Eb nb ev) (k:b.grownBy c (some Eb)):Kp8 a c Eb nb ev:=
 ⟨k.os.trans h.os,k.tape.trans h.tape,k.output.trans h.output,Nat.le_trans h.size k.size,fun j hj h1 h2 h3=>(k.block j (Nat.lt_of_lt_of_le hj h.size) (fun e=>h1 (by cases e;rfl))).trans (h.block j hj h1 h2 h3)⟩
theorem Kp8.grM {a b c:World} {Eb nb:Nat} {ev:Value} (h:Kp8 a b Eb nb ev) (k:b.grownBy c (some nb)):Kp8 a c Eb nb ev:=
 ⟨k.os.trans h.os,k.tape.trans h.tape,k.output.trans h.output,Nat.le_trans h.size k.size,fun j hj h1 h2 h3=>(k.block j (Nat.lt_of_lt_of_le hj h.size) (fun e=>h2 (by cases e;rfl))).trans (h.block j hj h1 h2 h3)⟩
theorem Kp8.grV {a b c:World} {Eb nb:Nat} {ev ev':Value} (h:Kp8 a b Eb nb ev) (hm:ZT a ev ev') (k:b.grownBy c ev'.ownBlock):Kp8 a c Eb nb ev:=
 ⟨k.os.trans h.os,k.tape.trans h.tape,k.output.trans h.output,Nat.le_trans h.size k.size,fun j hj h1 h2 h3=>(k.block j (Nat.lt_of_lt_of_le hj h.size) (fun e=>by
  rcases hm with hm | ⟨g,hg,hm⟩
  ·exact h3 (hm▸e.symm)
  rw [hm] at e;cases e;omega)).trans (h.block j hj h1 h2 h3)⟩
theorem Kp8.call {a b c:World} {Eb nb:Nat} {ev ev':Value} (h:Kp8 a b Eb nb ev) (hm:ZT a ev ev') (k:Kp8 b c Eb nb ev'):Kp8 a c Eb nb ev:=
 ⟨k.os.trans h.os,k.tape.trans h.tape,k.output.trans h.output,Nat.le_trans h.size k.size,fun j hj h1 h2 h3=>(k.block j (Nat.lt_of_lt_of_le hj h.size) h1 h2 (fun e=>by
  rcases hm with hm | ⟨g,hg,hm⟩
  ·exact h3 (hm▸e)
  rw [hm] at e;cases e;omega)).trans (h.block j hj h1 h2 h3)⟩
theorem Vp.blk {w:World} {nb g e:Nat} {fs:List (List Int)} {zs:List Value} (h:Vp w nb fs) (p:Blk w g e zs):g≠nb:=by
 obtain ⟨D,hm,_⟩:=h
 exact Wy hm p
theorem Vp.own {w:World} {nb B e s k:Nat} {fs:List (List Int)} {v:Value} {xs:List Value} (h:Vp w nb fs) (ho:w.ownsRow B e s v k xs):v.ownBlock≠some nb:=by
 obtain ⟨D,hm,_⟩:=h
 exact Wz hm ho
theorem Kp8.blk {w w':World} {Eb nb B n:Nat} {ev:Value} {xs ce:List Value} {fs:List (List Int)} (k:Kp8 w w' Eb nb ev) (er:w.ownsRow B 38 4 ev n xs) (eb:Blk w Eb 29 ce) (mp:Vp w nb fs) {g e:Nat} {zs:List Value} (p:Blk w g e zs) (h1:38≠e) (h2:29≠e):Blk w' g e zs:=
 (k.block g p.lt (fun e2=>ZK eb p h2 e2.symm) (mp.blk p) (Zg er p h1)).trans p
theorem Kp8.row {w w':World} {Eb nb B n:Nat} {ev:Value} {xs ce:List Value} {fs:List (List Int)} (k:Kp8 w w' Eb nb ev) (er:w.ownsRow B 38 4 ev n xs) (eb:Blk w Eb 29 ce) (mp:Vp w nb fs) {B' n':Nat} {v:Value} {zs:List Value} (ho:w.ownsRow B' 3 1 v n' zs):w'.ownsRow B' 3 1 v n' zs:=by
 have hlt:=fun g hg=>(ZN ho (g:=g) hg).2
 have hnE:=Zg ho eb (by decide)
 have hnM:=mp.own ho
 have hap:=Ap3.types ho er (by decide)
 refine ⟨ho.1,?_⟩
 rcases ho.2 with hn | ⟨g,cap,cur,rfl,hb9,hgg,rest⟩
 ·exact .inl hn
 exact .inr ⟨g,cap,cur,rfl,hb9,(k.block g (hlt g rfl) (fun e=>hnE (by rw [← e];rfl)) (fun e=>hnM (by rw [← e];rfl)) (hap g rfl)).trans hgg,rest⟩
theorem Kp8.below {a b:World} {Eb nb B:Nat} {ev:Value} (h:Kp8 a b Eb nb ev) (hE:B≤Eb) (hn:B≤nb) (hv:∀ k,ev.ownBlock=some k→B≤k) (hB:B≤a.heap.size):Below B a b:=
 ⟨h.os,h.tape,h.output,h.size,fun k hk=>h.block k (by omega) (by omega) (by omega) (fun e=>by have:=hv k e;omega)⟩
structure Qv (w:World) (B Tb Eb Vb Fb nb:Nat) (es:List I4) (ev:Value) (fs:List (List Int)):Prop where
 tb:Blk w Tb 147 [.func (.func 103) #[] #[.pointer (some ⟨Fb,0,none⟩)]]
 eb:Blk w Eb 29 [ev]
 vb:Blk w Vb 207 [.func (.func 155) #[] #[.pointer (some ⟨Tb,0,none⟩),.pointer (some ⟨Eb,0,none⟩),.pointer (some ⟨Vb,0,none⟩)]]
 fb:Blk w Fb 104 [.map (some nb)]
 er:w.ownsRow B 38 4 ev es.length (Yo es)
 mp:Vp w nb fs
theorem Qv.below {w w':World} {B Tb Eb Vb Fb nb:Nat} {es:List I4} {ev:Value} {fs:List (List Int)} (h:Qv w B Tb Eb Vb Fb nb es ev fs) (hb:Below w.heap.size w w'):Qv w' B Tb Eb Vb Fb nb es ev fs:=
 ⟨h.tb.below hb,h.eb.below hb,h.vb.below hb,h.fb.below hb,Zf h.er hb,h.mp.below hb⟩
def Pt (e:Ending) (w w':World) (B Tb Eb Vb Fb nb:Nat) (es:List I4) (ev:Value) (fs:List (List Int)):Prop:=e=.returned (.tuple #[])∧∃ ev',Qv w' B Tb Eb Vb Fb nb es ev' fs∧ZT w ev ev'∧Kp8 w w' Eb nb ev
def JL (rows:List (List I3)) (wb:World) (Tb Eb Vb Fb nb:Nat) (cs:Sl × Sl × Sl) (f:Nat):Prop:=∀ (m:V4) (ls:List Int) (fs:List (List Int)),Zk m=true→YE rows m<f→V7 rows ls m→ls.length+f≤60→fs.length+(rnF rows f m).length≤1200000000→∀ (w:World) (ev:Value),Below wb.heap.size wb w→Qv w wb.heap.size Tb Eb Vb Fb nb (YN rows Zl ls) ev fs →
  Calls Tryz.prog 155 #[.agg (Zh cs.1.val cs.2.1.val cs.2.2.val m).toArray,.pointer (some ⟨Tb,0,none⟩),.pointer (some ⟨Eb,0,none⟩),.pointer (some ⟨Vb,0,none⟩)] w fun e w'=>Pt e w w' wb.heap.size Tb Eb Vb Fb nb (YN rows Zl ls) ev (fs++(rnF rows f m).map fun ks=>nfG rows (ls++ks))
theorem Td {w W:World} {v v' u:Value} (h:ZT w v u) (hs:w.heap.size≤W.heap.size) (h':v'.ownBlock=u.ownBlock∨v'.ownBlock=some W.heap.size):ZT w v v':=
 h.trans hs (by rcases h' with h' | h';exact .inl h';exact .inr ⟨_,Nat.le_refl _,h'⟩)
structure JJ (rows:List (List I3)) (wb w wr:World) (Tb Eb Vb Fb nb g bL f:Nat) (cs:Sl × Sl × Sl) (m:V4) (ls:List Int) (ev:Value) (sl:Sl) (fs:List (List Int)) (i:Nat):Prop where
 rn:∃ evi,Qv wr wb.heap.size Tb Eb Vb Fb nb (YN rows Zl ls) evi (fs++tlF rows f m ls i)∧ZT w ev evi
 mc:Blk wr g 89 (Zh cs.1.val cs.2.1.val cs.2.2.val m)
 li:ZI wr bL sl (Zj rows m 3)
 kp:Kp8 w wr Eb nb ev
 bl:Below wb.heap.size wb wr

theorem Gb {rows:List (List I3)} {wb:World} {Tb Eb Vb Fb nb:Nat} {cs:Sl × Sl × Sl} (hp:Zn rows=true) (hI:∀ k,k<3→ZL wb (slK cs k).1 (slK cs k).2.1 (slK cs k).2.2 (Yn rows k)) (hBE:wb.heap.size≤Eb) (hBn:wb.heap.size≤nb) {f:Nat} (ih:JL rows wb Tb Eb Vb Fb nb cs f):JL rows wb Tb Eb Vb Fb nb cs (f+1):=by
 intro m ls fs hs hf hgo hlf hfl w ev b0 hV
 obtain ⟨i0,hi9,hz0,hz1,hz2⟩:=info_parts RM
 have hel:(YN rows Zl ls).length=ls.length:=RF rows ls Zl
 have h3:=WN ls Zl [] hgo.1
 have HSN:Hid (∀ k:Nat,YN rows Zl (ls++[(k:Int)])=YN rows Zl ls++[ZB rows m k]):=fun k=>by
  rw [RG ls Zl [] hgo.1,hgo.2,Int.toNat_natCast]
 obtain ⟨va,vc,rfl,hEv⟩:=Uv hV.er
 have hvc:(YN rows Zl ls).length≤vc:=by
  rcases hV.er.2 with ⟨h1,h2⟩ | ⟨gq,cq,cur,h1,_,_,h4,_⟩
  ·rw [h2];exact Nat.zero_le _
  cases h1;exact h4
 clear hEv
 have kE:=fun (W:World) (b:Below wb.heap.size wb W) (g:Nat) (h:Blk W g 89 (Zh cs.1.val cs.2.1.val cs.2.2.val m))=>VH g cs rows m W ⟨h,fun k hk=>(hI k hk).below b⟩ hp hs
 have hone:=RX cs.1 cs.2.1 cs.2.2 m
 obtain ⟨x0,x1,x2,x3,x4,x5,x6,x7,x8,x9,x10,x11,x12,x13,x14,x15,x16,x17,hMC⟩:∃ x0 x1 x2 x3 x4 x5 x6 x7 x8 x9 x10 x11 x12 x13 x14 x15 x16 x17:Value,Zh cs.1.val cs.2.1.val cs.2.2.val m=[x0,x1,x2,x3,x4,x5,x6,x7,x8,x9,x10,x11,x12,x13,x14,x15,x16,x17]:=⟨_,_,_,_,_,_,_,_,_,_,_,_,_,_,_,_,_,_,rfl⟩
 have HMC:Hid (Zh cs.1.val cs.2.1.val cs.2.2.val m=[x0,x1,x2,x3,x4,x5,x6,x7,x8,x9,x10,x11,x12,x13,x14,x15,x16,x17]):=hMC
 rw [hMC] at hone ⊢
 clear hMC
 simp only [List.all_cons,List.all_nil,Bool.and_true,Bool.and_eq_true] at hone
 obtain ⟨o0,o1,o2,o3,o4,o5,o6,o7,o8,o9,o10,o11,o12,o13,o14,o15,o16,o17⟩:=hone
 have bw1:Below w.heap.size w (w.alloc (.cells #[x0,x1,x2,x3,x4,x5,x6,x7,x8,x9,x10,x11,x12,x13,x14,x15,x16,x17] 89)):=by go_grown
 have pY1:Blk (w.alloc (.cells #[x0,x1,x2,x3,x4,x5,x6,x7,x8,x9,x10,x11,x12,x13,x14,x15,x16,x17] 89)) w.heap.size 89 [x0,x1,x2,x3,x4,x5,x6,x7,x8,x9,x10,x11,x12,x13,x14,x15,x16,x17]:=Zp _ _ _ rfl
 replace pY1:Blk (w.alloc (.cells #[x0,x1,x2,x3,x4,x5,x6,x7,x8,x9,x10,x11,x12,x13,x14,x15,x16,x17] 89)) w.heap.size 89 (Zh cs.1.val cs.2.1.val cs.2.2.val m):=by
  have h9:=pY1
  rw [HMC.out]
  exact h9
 have bl:=Zb b0 bw1
 have hV1:=hV.below bw1
 have kp:Kp8 w (w.alloc (.cells #[x0,x1,x2,x3,x4,x5,x6,x7,x8,x9,x10,x11,x12,x13,x14,x15,x16,x17] 89)) Eb nb (.slice va (YN rows Zl ls).length vc):=(Kp8.refl w Eb nb _).belowR bw1
 have kEx:=kE (w.alloc (.cells #[x0,x1,x2,x3,x4,x5,x6,x7,x8,x9,x10,x11,x12,x13,x14,x15,x16,x17] 89)) bl w.heap.size pY1
 clear hV b0 HMC bw1 kE
 obtain ⟨g,hg⟩:∃ g,g=w.heap.size:=⟨_,rfl⟩
 have HGZ:Hid (g=w.heap.size):=hg
 rw [← hg] at pY1 kEx
 clear hg
 generalize hes:YN rows Zl ls=es at *
 have hl60:es.length≤59:=by omega
 clear hel
 go_enter Tryz.func155,Tryz.ntmps155
 go_wp2_with fail
 rw [← HGZ.out]
 generalize (w.alloc (.cells #[x0,x1,x2,x3,x4,x5,x6,x7,x8,x9,x10,x11,x12,x13,x14,x15,x16,x17] 89))=w1 at *
 clear o0 o1 o2 o3 o4 o5 o6 o7 o8 o9 o10 o11 o12 o13 o14 o15 o16 o17
 refine kEx.mono ?_
 rintro e w2 ⟨⟨⟨la,ln,lc⟩,rfl,hL⟩,hb⟩
 have hLn:(Zj rows m 3).length=ln:=by have:=hL.1;simpa using this
 have hn3:ln≤3:=by rw [← hLn];exact YF rows m 3
 replace pY1:=pY1.below hb
 replace hV1:=hV1.below hb
 replace kp:=kp.belowR hb
 replace bl:=Zb bl hb
 generalize w1.heap.size=bL at *
 clear hb kEx
 by_cases hE:Zj rows m 3=[]
 ·obtain rfl:ln=0:=by rw [hE] at hLn;simpa using hLn.symm
  have HRN:Hid ((rnF rows (f+1) m).map (fun ks=>nfG rows (ls++ks))=[Uf es]):=by
   rw [Hid,rnF,if_pos hE]
   subst hes
   simp [nfG]
  have hfl2:fs.length≤1200000000:=by omega
  obtain ⟨tb,eb,vb,fb,er,mp⟩:=hV1
  obtain ⟨_,_,e9,hEv⟩:=Uv er
  cases e9
  have kT:=Fo va es.length vc Fb nb es fs w2 hEv (by omega) hvc h3 fb mp hfl2
  have cT:w2.cell? ⟨Tb,0,none⟩=some (.func (.func 103) #[] #[.pointer (some ⟨Fb,0,none⟩)]):=by simpa using tb.cell 0
  have cE:w2.cell? ⟨Eb,0,none⟩=some (.slice va es.length vc):=by simpa using eb.cell 0
  clear hEv hL hLn hE hfl2 hfl
  go_wp2_with fail
  refine kT.mono ?_
  rintro e w3 ⟨rfl,mp3,g3⟩
  have HG:Hid (Pt (.returned (.tuple #[])) w w3 wb.heap.size Tb Eb Vb Fb nb es (.slice va es.length vc) (fs++(rnF rows (f+1) m).map fun ks=>nfG rows (ls++ks))):=by
   rw [Hid,HRN.out]
   have n1:=mp.blk tb
   have n2:=mp.blk eb
   have n3:=mp.blk vb
   have n4:=mp.blk fb
   refine ⟨rfl,_,⟨tb.kept g3 (fun e=>n1 (by cases e;rfl)),eb.kept g3 (fun e=>n2 (by cases e;rfl)),vb.kept g3 (fun e=>n3 (by cases e;rfl)),fb.kept g3 (fun e=>n4 (by cases e;rfl)),er.kept g3 (.inr (mp.own er)),mp3⟩,ZT.refl _ _,kp.grM g3⟩
  clear kT cT cE tb eb vb fb er mp mp3 g3 kp bl HRN
  go_wp2_with fail
  go_loopw [18] (fun s18 wr=>s18=.int .i64 0∧w3=wr) (fun _ _=>0)
  case atStart=>exact ⟨rfl,rfl⟩
  case round =>
   obtain ⟨rfl,rfl⟩:=hrel
   go_wp2
   go_end0
   exact HG.out
 have hen1:((ln:Int) == 0)=false:=by
  have:0<ln:=by rw [← hLn];exact List.length_pos_iff.2 hE
  simp
  omega
 have HLN:Hid ((Zj rows m 3).length=ln):=hLn
 have HLM:Hid (∀ i,(tlF rows f m ls i).length≤(rnF rows (f+1) m).length):=fun i=>by
  have h1:=GI (rows:=rows) (f:=f) (m:=m) (ls:=ls) i
  rw [L4 (YF rows m 3) hE,List.length_map] at h1
  exact h1
 have HND:Hid (∀ i,ln≤i→tlF rows f m ls i=(rnF rows (f+1) m).map fun ks=>nfG rows (ls++ks)):=fun i hi=>L4 (by omega) hE
 have st0:JJ rows wb w w2 Tb Eb Vb Fb nb g bL f cs m ls (.slice va es.length vc) (la,ln,lc) fs 0:=⟨⟨_,by rw [show tlF rows f m ls 0=[] from rfl,List.append_nil,hes];exact hV1,ZT.refl _ _⟩,pY1,hL,kp,bl⟩
 clear hV1 pY1 hL kp bl hLn hE
 go_wp2_with fail
 go_loopw [18] (fun s18 wr=>∃ i:Nat,s18=.int .i64 i∧i≤ln∧JJ rows wb w wr Tb Eb Vb Fb nb g bL f cs m ls (.slice va es.length vc) (la,ln,lc) fs i) (fun s18 _=>ln - (Go.RowKit.intOf s18).toNat)
 case atStart=>exact ⟨0,rfl,Nat.zero_le _,st0⟩
 case round =>
  clear st0
  obtain ⟨i,rfl,hin,⟨evi,hV,mv⟩,mc,li,kp,bl⟩:=hrel
  rw [hes] at hV
  by_cases hlt:i<ln
  ·have hlt3:(i:Int)<(ln:Int):=by omega
   have hi0:(0:Int)≤(i:Int):=by omega
   have hkj:(Zj rows m 3)[i]?=some ((Zj rows m 3).getD i 0):=by rw [List.getD,List.getElem?_eq_getElem (by rw [HLN.out];omega)];rfl
   have hz:=Yb (List.mem_of_getElem? hkj)
   obtain ⟨h0k,h2k,hd,_⟩:=ZY hz
   obtain ⟨k,hk⟩:∃ k:Nat,(Zj rows m 3).getD i 0=(k:Int):=⟨_,(Int.toNat_of_nonneg h0k).symm⟩
   obtain ⟨lb,lo,rfl,hc,hlb⟩:=Xa li.ints (show i<ln from hlt)
   rw [hk] at hkj hz hd h0k h2k hc
   rw [Int.toNat_natCast] at hd
   have hk3:k<3:=by omega
   clear hk hlb
   have hx:=ZW hp hs hz
   have hlx:=Y4 hp hs hz
   have hg2:=MG hgo hz
   have HTS:Hid (tlF rows f m ls (i+1)=tlF rows f m ls i++(rnF rows f (goM rows m (k:Int)).1).map fun ks=>nfG rows (ls++[(k:Int)]++ks)):=GJ hkj
   have hbnd:(fs++tlF rows f m ls i).length+(rnF rows f (goM rows m (k:Int)).1).length≤1200000000:=by
    have h1:=HLM.out (i+1)
    rw [HTS.out,List.length_append,List.length_map] at h1
    rw [List.length_append]
    omega
   have kV:=ih (goM rows m (k:Int)).1 (ls++[(k:Int)]) (fs++tlF rows f m ls i) hx (by omega) hg2 (by rw [List.length_append];simp only [List.length_cons,List.length_nil];omega) hbnd
   rw [HSN.out k] at kV
   have kT:=fun (W:World) (N:Nat) (h:Yk W N cs rows m)=>LY h hp hs hk3 hd
   rw [← Wv] at kT
   have kA:=fun (W:World) (b:Below wb.heap.size wb W) (h:Blk W g 89 (Zh cs.1.val cs.2.1.val cs.2.2.val m))=>RE (⟨h,fun q hq=>(hI q hq).below b⟩:Yk W g cs rows m) hp hs hk3 hd
   generalize ZB rows m k=eM at *
   obtain ⟨e0,e1,e2,e3⟩:=eM
   simp only at kA kV
   have HEQ:Hid (∀ xs,(fs++tlF rows f m ls i)++((rnF rows f (goM rows m (k:Int)).1).map fun ks=>nfG rows (ls++[(k:Int)]++ks))=xs→xs=fs++tlF rows f m ls (i+1)):=fun xs h=>by rw [← h,HTS.out,List.append_assoc]
   generalize ((rnF rows f (goM rows m (k:Int)).1).map fun ks=>nfG rows (ls++[(k:Int)]++ks))=nw at *
   clear hbnd hlx hg2 hkj hz HTS
   generalize goM rows m (k:Int)=zf at *
   obtain ⟨z,fl⟩:=zf
   simp only at kT hx kV
   have pN:=Blk.new wr 89 [.slice none 0 0,.int .i64 0,.int .i64 0,.int .i64 0,.slice none 0 0,.int .i64 0,.int .i64 0,.int .i64 0,.slice none 0 0,.int .i64 0,.int .i64 0,.int .i64 0,.int .i64 0,.int .i64 0,.int .i64 0,.int .i64 0,.int .i64 0,.int .i64 0]
   have hbN:Below wr.heap.size wr (wr.alloc (.cells #[.slice none 0 0,.int .i64 0,.int .i64 0,.int .i64 0,.slice none 0 0,.int .i64 0,.int .i64 0,.int .i64 0,.slice none 0 0,.int .i64 0,.int .i64 0,.int .i64 0,.int .i64 0,.int .i64 0,.int .i64 0,.int .i64 0,.int .i64 0,.int .i64 0] 89)):=by go_grown
   go_wp2_with (first | refine Zc rfl 89 _ rfl g rfl mc _ Tryz.underlying89 rfl (by kernel_rfl) ?_ | refine Ze rfl 89 _ _ rfl wr.heap.size (Zh cs.1.val cs.2.1.val cs.2.2.val m) rfl rfl pN (by kernel_rfl) rfl rfl ?_)
   intro u1 p1 g1
   have pZ:=p1.out
   have bz:Below wr.heap.size wr u1:=hbN.grown g1 hbN.size (fun q e=>by cases e;exact Nat.le_refl _)
   clear p1 g1 hbN pN
   obtain ⟨N,hN⟩:∃ N,N=wr.heap.size:=⟨_,rfl⟩
   rw [← hN] at pZ ⊢
   have hZw:wr.heap.size≤N:=by omega
   clear hN
   have kTx:=kT u1 N ⟨pZ,fun q hq=>(hI q hq).below (Zb bl bz)⟩
   clear kT
   go_wp2_with fail
   refine kTx.mono ?_
   rintro e u2 ⟨rfl,pZ2,g2⟩
   have b2:Below wr.heap.size wr u2:=bz.grown g2 bz.size (fun q e=>by cases e;exact hZw)
   clear kTx pZ bz g2 hc
   replace hV:=hV.below b2
   replace mc:=mc.below b2
   replace li:=li.below b2
   replace kp:=kp.belowR b2
   replace bl:=Zb bl b2
   clear b2 hZw
   obtain ⟨va9,vc9,rfl,_⟩:=Uv hV.er
   have hEc:u2.cell? ⟨Eb,0,none⟩=some (.slice va9 es.length vc9):=by simpa using hV.eb.cell 0
   go_wp2_with fail
   have hdr:Below u2.heap.size u2 u2.drew:=by go_grown
   refine wp_region_held_drew (S:=(fun w'=>u2.heap.size≤w'.heap.size)) (by kernel_rfl) (Nat.le_refl _) (fun hS0=>?_)
   refine tkm 1 26 (.int .i64 (k:Int)) ?_
   replace hV:=hV.below hdr
   replace mc:=mc.below hdr
   replace li:=li.below hdr
   replace kp:=kp.belowR hdr
   replace bl:=Zb bl hdr
   replace pZ2:=pZ2.below hdr
   replace hEc:=Za hdr _ _ hEc
   clear hdr
   generalize u2.drew=D0 at *
   refine wpAnyH_ready (rs:=[0,2]) (by kernel_rfl) (by simp) ?_
   refine AllReadyH.cons (o:=⟨some 25,_,_,_,_,_⟩) rfl (fun K hK=>?_) (AllReadyH.cons (o:=⟨some 27,_,_,_,_,_⟩) rfl (fun K hK=>?_) AllReadyH.nil)
   ·go_simp
    refine hK.out _ _ hS0 (fun hS2=>?_)
    clear hK hS2
    try simp only [Act.put,tka,tkb,tkc]
    refine tkr 2 27 (fun K hK=>?_)
    have kAx:=kA D0 bl mc
    go_simp
    refine kAx.mono ?_
    rintro e D1 ⟨rfl,hb⟩
    replace hV:=hV.below hb
    replace mc:=mc.below hb
    replace li:=li.below hb
    replace kp:=kp.belowR hb
    replace bl:=Zb bl hb
    replace pZ2:=pZ2.below hb
    replace hEc:=Za hb _ _ hEc
    go_wp2_with fail
    refine hK.out _ _ (Nat.le_trans hS0 hb.size) (fun hS1=>?_)
    replace hS0:=hS1
    clear hK kAx hb hS1
    try simp only [Act.put,tka,tkb,tkc]
    refine tkr 3 28 (fun K hK=>?_)
    have hb:Below D1.heap.size D1 (D1.alloc (.cells #[.int .i64 e0,.int .i64 e1,.int .i64 e2,.int .i64 e3] 38)):=by go_grown
    have pG:Blk (D1.alloc (.cells #[.int .i64 e0,.int .i64 e1,.int .i64 e2,.int .i64 e3] 38)) D1.heap.size 38 [.int .i64 e0,.int .i64 e1,.int .i64 e2,.int .i64 e3]:=Zp _ _ _ rfl
    replace hV:=hV.below hb
    replace mc:=mc.below hb
    replace li:=li.below hb
    replace kp:=kp.belowR hb
    replace bl:=Zb bl hb
    replace pZ2:=pZ2.below hb
    replace hEc:=Za hb _ _ hEc
    go_simp
    refine hK.out _ _ (Nat.le_trans hS0 hb.size) (fun hS3=>?_)
    replace hS0:=hS3
    clear hK hb hS3
    generalize (D1.alloc (.cells #[.int .i64 e0,.int .i64 e1,.int .i64 e2,.int .i64 e3] 38))=D3 at *
    generalize D1.heap.size=G at *
    try simp only [Act.put,tka,tkb,tkc]
    clear hEc kA
    refine tkr 4 29 (fun K hK=>?_)
    have hbs:=bl.size
    have er:=hV.er
    refine Xv rfl _ _ 29 rfl wb.heap.size 38 i0 (.agg #[.int .i64 0,.int .i64 0,.int .i64 0,.int .i64 0]) 4 32 Tryz.underlying29 hi9 hz0 hz1 hz2 rfl (by decide) (.slice va9 es.length vc9) es.length (Yo es) rfl er ⟨G,0,none⟩ 1 1 [.int .i64 e0,.int .i64 e1,.int .i64 e2,.int .i64 e3] rfl rfl (X5 pG) (by simp [Value.oneCell']) (by unfold maxLen;omega) (by omega) hbs ?_
    intro v4 D4 q4 gr hob
    have q5:D4.ownsRow wb.heap.size 38 4 v4 (es++[(e0,e1,e2,e3)]).length (Yo (es++[(e0,e1,e2,e3)])):=by
     rw [Xo,List.length_append]
     exact q4
    have tb:=hV.tb.kept gr (Zg er hV.tb (by decide))
    have eb:=hV.eb.kept gr (Zg er hV.eb (by decide))
    have vb:=hV.vb.kept gr (Zg er hV.vb (by decide))
    have fb:=hV.fb.kept gr (Zg er hV.fb (by decide))
    have mp:=hV.mp.kept gr (hV.mp.own er)
    replace mc:=mc.kept gr (Zg er mc (by decide))
    replace pZ2:=pZ2.kept gr (Zg er pZ2 (by decide))
    replace li:ZI D4 bL (some ⟨lb,lo,none⟩,ln,lc) (Zj rows m 3):=World.ownsRow.kept li gr (Ap3.types li er (by decide)).or
    have mv4:=Td mv kp.size hob
    replace kp:=kp.grV mv gr
    replace bl:=bl.grown gr bl.size (fun q hq=>(ZN er hq).1)
    refine hK.out _ _ (Nat.le_trans hS0 gr.size) (fun hS4=>?_)
    replace hS0:=hS4
    clear hK hS4 q4 gr hob er hV mv pG hbs
    try simp only [Act.put,tka,tkb,tkc]
    refine tkz 5 (fun K hK=>?_)
    have cE4:D4.cell? ⟨Eb,0,none⟩=some (.slice va9 es.length vc9):=by simpa using eb.cell 0
    have fE4:=eb.frozen 0
    have gE:=Zv D4 Eb 0 v4
    have eb5:Blk (D4.setCell ⟨Eb,0,none⟩ v4) Eb 29 [v4]:=eb.set 0 v4
    have hV5:Qv (D4.setCell ⟨Eb,0,none⟩ v4) wb.heap.size Tb Eb Vb Fb nb (es++[(e0,e1,e2,e3)]) v4 (fs++tlF rows f m ls i):=by
     have n1:=ZK eb tb (by decide)
     have n3:=ZK eb vb (by decide)
     have n4:=ZK eb fb (by decide)
     have n5:=mp.blk eb
     exact ⟨tb.kept gE (by simp;exact n1),eb5,vb.kept gE (by simp;exact n3),fb.kept gE (by simp;exact n4),q5.kept gE (.inr (Zg q5 eb (by decide))),mp.kept gE (by simp;exact n5)⟩
    replace mc:=mc.kept gE (by simp;exact ZK eb mc (by decide))
    replace pZ2:=pZ2.kept gE (by simp;exact ZK eb pZ2 (by decide))
    replace li:ZI (D4.setCell ⟨Eb,0,none⟩ v4) bL (some ⟨lb,lo,none⟩,ln,lc) (Zj rows m 3):=World.ownsRow.kept li gE (.inr (Zg li eb (by decide)))
    replace kp:=kp.grE gE
    replace bl:=bl.grown gE bl.size (fun q e=>by cases e;exact hBE)
    obtain ⟨vg,vk,hv4⟩:=UR q5 (by simp)
    rw [show (es++[(e0,e1,e2,e3)]).length=es.length+1 by simp] at hv4
    subst hv4
    go_simp
    refine hK.out _ _ (Nat.le_trans hS0 gE.size) (fun hS5=>?_)
    clear hK hS5 hS0 cE4 fE4 gE eb5 tb eb vb fb mp q5
    generalize (D4.setCell ⟨Eb,0,none⟩ (.slice (some ⟨vg,0,none⟩) (es.length+1) vk))=D5 at *
    try simp only [Act.put,tka,tkb,tkc]
    refine wpAnyH_done (by kernel_rfl) ?_ _
    have cV:D5.cell? ⟨Vb,0,none⟩=some (.func (.func 155) #[] #[.pointer (some ⟨Tb,0,none⟩),.pointer (some ⟨Eb,0,none⟩),.pointer (some ⟨Vb,0,none⟩)]):=by simpa using hV5.vb.cell 0
    have kVx:=kV D5 _ bl hV5
    clear kV
    go_wp2_with (first | refine Zc rfl 89 _ rfl N rfl pZ2 _ Tryz.underlying89 rfl (by kernel_rfl) ?_)
    refine kVx.mono ?_
    rintro e D6 ⟨rfl,ev6,hV6,mv6,kp6⟩
    have mc6:=kp6.blk hV5.er hV5.eb hV5.mp mc (by decide) (by decide)
    have li6:ZI D6 bL (some ⟨lb,lo,none⟩,ln,lc) (Zj rows m 3):=kp6.row hV5.er hV5.eb hV5.mp li
    have bl6:Below wb.heap.size wb D6:=bl.trans (kp6.below hBE hBn (fun q hq=>(ZN hV5.er hq).1) bl.size)
    have kp7:=kp.call mv4 kp6
    have mv7:=mv4.trans kp.size mv6
    clear kVx cV mc li bl kp mv4 mv6 kp6 hV5 pZ2
    obtain ⟨xg,xk,rfl⟩:=UR hV6.er (by simp)
    have hln:(es++[(e0,e1,e2,e3)]).length=es.length+1:=by simp
    rw [HEQ.out _ rfl] at hV6
    obtain ⟨tb,eb,vb,fb,er,mp⟩:=hV6
    rw [hln] at eb er mv7
    rw [Xo] at er
    have er7:=P1 er (by rw [Uw])
    have cE6:D6.cell? ⟨Eb,0,none⟩=some (.slice (some ⟨xg,0,none⟩) (es.length+1) xk):=by simpa using eb.cell 0
    have fE6:=eb.frozen 0
    have hxk:es.length+1≤xk:=by
     rcases er.2 with ⟨h1,_⟩ | ⟨gq,cq,cur,h1,_,_,h4,_⟩
     ·cases h1
     cases h1;exact h4
    have hsl:∀ W,(Instr.slice 29 (.slice (some ⟨xg,0,none⟩) (es.length+1) xk) none (some (.int .i64 (es.length:Int))) none).run Tryz.prog W=.ok (.slice (some ⟨xg,0,none⟩) es.length xk) W:=fun W=>by
     have h8:(es.length:Int)≤(xk:Int):=by omega
     go_simp
     try omega
    have gE:=Zv D6 Eb 0 (.slice (some ⟨xg,0,none⟩) es.length xk)
    have st9:JJ rows wb w (D6.setCell ⟨Eb,0,none⟩ (.slice (some ⟨xg,0,none⟩) es.length xk)) Tb Eb Vb Fb nb g bL f cs m ls (.slice va es.length vc) (some ⟨lb,lo,none⟩,ln,lc) fs (i+1):=by
     refine ⟨⟨.slice (some ⟨xg,0,none⟩) es.length xk,?_,?_⟩,mc6.kept gE (by simp;exact ZK eb mc6 (by decide)),World.ownsRow.kept li6 gE (.inr (Zg li6 eb (by decide))),kp7.grE gE,bl6.grown gE bl6.size (fun q e=>by cases e;exact hBE)⟩
     ·rw [hes]
      have n1:=ZK eb tb (by decide)
      have n3:=ZK eb vb (by decide)
      have n4:=ZK eb fb (by decide)
      have n5:=mp.blk eb
      exact ⟨tb.kept gE (by simp;exact n1),eb.set 0 _,vb.kept gE (by simp;exact n3),fb.kept gE (by simp;exact n4),er7.kept gE (.inr (Zg er7 eb (by decide))),mp.kept gE (by simp;exact n5)⟩
     rcases mv7 with h9 | ⟨q,hq,h9⟩
     ·exact .inl (by rw [← h9];rfl)
     exact .inr ⟨q,hq,by rw [← h9];rfl⟩
    have hl8:((es.length:Int)+1 - 1)=(es.length:Int):=by omega
    have hl7:(es.length:Int)≤60:=by omega
    clear tb eb vb fb er mp er7 mc6 li6 bl6 kp7 mv7 HEQ hln gE hxk
    go_wp2
    go_roundw
    case rel=>exact ⟨i+1,by go_num,by omega,st9⟩
    case measure=>simp [Go.RowKit.intOf];omega
   have kAx:=kA D0 bl mc
   go_simp
   refine kAx.mono ?_
   rintro e D1 ⟨rfl,hb⟩
   replace hV:=hV.below hb
   replace mc:=mc.below hb
   replace li:=li.below hb
   replace kp:=kp.belowR hb
   replace bl:=Zb bl hb
   replace pZ2:=pZ2.below hb
   replace hEc:=Za hb _ _ hEc
   go_wp2_with fail
   refine hK.out _ _ (Nat.le_trans hS0 hb.size) (fun hS1=>?_)
   replace hS0:=hS1
   clear hK kAx hb hS1
   try simp only [Act.put,tka,tkb,tkc]
   refine wpAnyH_ready (rs:=[0,3]) (by kernel_rfl) (by simp) ?_
   refine AllReadyH.cons (o:=⟨some 25,_,_,_,_,_⟩) rfl (fun K hK=>?_) (AllReadyH.cons (o:=⟨some 28,_,_,_,_,_⟩) rfl (fun K hK=>?_) AllReadyH.nil)
   ·go_simp
    refine hK.out _ _ hS0 (fun hS2=>?_)
    clear hK hS2
    try simp only [Act.put,tka,tkb,tkc]
    refine tkr 3 28 (fun K hK=>?_)
    have hb:Below D1.heap.size D1 (D1.alloc (.cells #[.int .i64 e0,.int .i64 e1,.int .i64 e2,.int .i64 e3] 38)):=by go_grown
    have pG:Blk (D1.alloc (.cells #[.int .i64 e0,.int .i64 e1,.int .i64 e2,.int .i64 e3] 38)) D1.heap.size 38 [.int .i64 e0,.int .i64 e1,.int .i64 e2,.int .i64 e3]:=Zp _ _ _ rfl
    replace hV:=hV.below hb
    replace mc:=mc.below hb
    replace li:=li.below hb
    replace kp:=kp.belowR hb
    replace bl:=Zb bl hb
    replace pZ2:=pZ2.below hb
    replace hEc:=Za hb _ _ hEc
    go_simp
    refine hK.out _ _ (Nat.le_trans hS0 hb.size) (fun hS3=>?_)
    replace hS0:=hS3
    clear hK hb hS3
    generalize (D1.alloc (.cells #[.int .i64 e0,.int .i64 e1,.int .i64 e2,.int .i64 e3] 38))=D3 at *
    generalize D1.heap.size=G at *
    try simp only [Act.put,tka,tkb,tkc]
    clear hEc kA
    refine tkr 4 29 (fun K hK=>?_)
    have hbs:=bl.size
    have er:=hV.er
    refine Xv rfl _ _ 29 rfl wb.heap.size 38 i0 (.agg #[.int .i64 0,.int .i64 0,.int .i64 0,.int .i64 0]) 4 32 Tryz.underlying29 hi9 hz0 hz1 hz2 rfl (by decide) (.slice va9 es.length vc9) es.length (Yo es) rfl er ⟨G,0,none⟩ 1 1 [.int .i64 e0,.int .i64 e1,.int .i64 e2,.int .i64 e3] rfl rfl (X5 pG) (by simp [Value.oneCell']) (by unfold maxLen;omega) (by omega) hbs ?_
    intro v4 D4 q4 gr hob
    have q5:D4.ownsRow wb.heap.size 38 4 v4 (es++[(e0,e1,e2,e3)]).length (Yo (es++[(e0,e1,e2,e3)])):=by
     rw [Xo,List.length_append]
     exact q4
    have tb:=hV.tb.kept gr (Zg er hV.tb (by decide))
    have eb:=hV.eb.kept gr (Zg er hV.eb (by decide))
    have vb:=hV.vb.kept gr (Zg er hV.vb (by decide))
    have fb:=hV.fb.kept gr (Zg er hV.fb (by decide))
    have mp:=hV.mp.kept gr (hV.mp.own er)
    replace mc:=mc.kept gr (Zg er mc (by decide))
    replace pZ2:=pZ2.kept gr (Zg er pZ2 (by decide))
    replace li:ZI D4 bL (some ⟨lb,lo,none⟩,ln,lc) (Zj rows m 3):=World.ownsRow.kept li gr (Ap3.types li er (by decide)).or
    have mv4:=Td mv kp.size hob
    replace kp:=kp.grV mv gr
    replace bl:=bl.grown gr bl.size (fun q hq=>(ZN er hq).1)
    refine hK.out _ _ (Nat.le_trans hS0 gr.size) (fun hS4=>?_)
    replace hS0:=hS4
    clear hK hS4 q4 gr hob er hV mv pG hbs
    try simp only [Act.put,tka,tkb,tkc]
    refine tkz 5 (fun K hK=>?_)
    have cE4:D4.cell? ⟨Eb,0,none⟩=some (.slice va9 es.length vc9):=by simpa using eb.cell 0
    have fE4:=eb.frozen 0
    have gE:=Zv D4 Eb 0 v4
    have eb5:Blk (D4.setCell ⟨Eb,0,none⟩ v4) Eb 29 [v4]:=eb.set 0 v4
    have hV5:Qv (D4.setCell ⟨Eb,0,none⟩ v4) wb.heap.size Tb Eb Vb Fb nb (es++[(e0,e1,e2,e3)]) v4 (fs++tlF rows f m ls i):=by
     have n1:=ZK eb tb (by decide)
     have n3:=ZK eb vb (by decide)
     have n4:=ZK eb fb (by decide)
     have n5:=mp.blk eb
     exact ⟨tb.kept gE (by simp;exact n1),eb5,vb.kept gE (by simp;exact n3),fb.kept gE (by simp;exact n4),q5.kept gE (.inr (Zg q5 eb (by decide))),mp.kept gE (by simp;exact n5)⟩
    replace mc:=mc.kept gE (by simp;exact ZK eb mc (by decide))
    replace pZ2:=pZ2.kept gE (by simp;exact ZK eb pZ2 (by decide))
    replace li:ZI (D4.setCell ⟨Eb,0,none⟩ v4) bL (some ⟨lb,lo,none⟩,ln,lc) (Zj rows m 3):=World.ownsRow.kept li gE (.inr (Zg li eb (by decide)))
    replace kp:=kp.grE gE
    replace bl:=bl.grown gE bl.size (fun q e=>by cases e;exact hBE)
    obtain ⟨vg,vk,hv4⟩:=UR q5 (by simp)
    rw [show (es++[(e0,e1,e2,e3)]).length=es.length+1 by simp] at hv4
    subst hv4
    go_simp
    refine hK.out _ _ (Nat.le_trans hS0 gE.size) (fun hS5=>?_)
    clear hK hS5 hS0 cE4 fE4 gE eb5 tb eb vb fb mp q5
    generalize (D4.setCell ⟨Eb,0,none⟩ (.slice (some ⟨vg,0,none⟩) (es.length+1) vk))=D5 at *
    try simp only [Act.put,tka,tkb,tkc]
    refine wpAnyH_done (by kernel_rfl) ?_ _
    have cV:D5.cell? ⟨Vb,0,none⟩=some (.func (.func 155) #[] #[.pointer (some ⟨Tb,0,none⟩),.pointer (some ⟨Eb,0,none⟩),.pointer (some ⟨Vb,0,none⟩)]):=by simpa using hV5.vb.cell 0
    have kVx:=kV D5 _ bl hV5
    clear kV
    go_wp2_with (first | refine Zc rfl 89 _ rfl N rfl pZ2 _ Tryz.underlying89 rfl (by kernel_rfl) ?_)
    refine kVx.mono ?_
    rintro e D6 ⟨rfl,ev6,hV6,mv6,kp6⟩
    have mc6:=kp6.blk hV5.er hV5.eb hV5.mp mc (by decide) (by decide)
    have li6:ZI D6 bL (some ⟨lb,lo,none⟩,ln,lc) (Zj rows m 3):=kp6.row hV5.er hV5.eb hV5.mp li
    have bl6:Below wb.heap.size wb D6:=bl.trans (kp6.below hBE hBn (fun q hq=>(ZN hV5.er hq).1) bl.size)
    have kp7:=kp.call mv4 kp6
    have mv7:=mv4.trans kp.size mv6
    clear kVx cV mc li bl kp mv4 mv6 kp6 hV5 pZ2
    obtain ⟨xg,xk,rfl⟩:=UR hV6.er (by simp)
    have hln:(es++[(e0,e1,e2,e3)]).length=es.length+1:=by simp
    rw [HEQ.out _ rfl] at hV6
    obtain ⟨tb,eb,vb,fb,er,mp⟩:=hV6
    rw [hln] at eb er mv7
    rw [Xo] at er
    have er7:=P1 er (by rw [Uw])
    have cE6:D6.cell? ⟨Eb,0,none⟩=some (.slice (some ⟨xg,0,none⟩) (es.length+1) xk):=by simpa using eb.cell 0
    have fE6:=eb.frozen 0
    have hxk:es.length+1≤xk:=by
     rcases er.2 with ⟨h1,_⟩ | ⟨gq,cq,cur,h1,_,_,h4,_⟩
     ·cases h1
     cases h1;exact h4
    have hsl:∀ W,(Instr.slice 29 (.slice (some ⟨xg,0,none⟩) (es.length+1) xk) none (some (.int .i64 (es.length:Int))) none).run Tryz.prog W=.ok (.slice (some ⟨xg,0,none⟩) es.length xk) W:=fun W=>by
     have h8:(es.length:Int)≤(xk:Int):=by omega
     go_simp
     try omega
    have gE:=Zv D6 Eb 0 (.slice (some ⟨xg,0,none⟩) es.length xk)
    have st9:JJ rows wb w (D6.setCell ⟨Eb,0,none⟩ (.slice (some ⟨xg,0,none⟩) es.length xk)) Tb Eb Vb Fb nb g bL f cs m ls (.slice va es.length vc) (some ⟨lb,lo,none⟩,ln,lc) fs (i+1):=by
     refine ⟨⟨.slice (some ⟨xg,0,none⟩) es.length xk,?_,?_⟩,mc6.kept gE (by simp;exact ZK eb mc6 (by decide)),World.ownsRow.kept li6 gE (.inr (Zg li6 eb (by decide))),kp7.grE gE,bl6.grown gE bl6.size (fun q e=>by cases e;exact hBE)⟩
     ·rw [hes]
      have n1:=ZK eb tb (by decide)
      have n3:=ZK eb vb (by decide)
      have n4:=ZK eb fb (by decide)
      have n5:=mp.blk eb
      exact ⟨tb.kept gE (by simp;exact n1),eb.set 0 _,vb.kept gE (by simp;exact n3),fb.kept gE (by simp;exact n4),er7.kept gE (.inr (Zg er7 eb (by decide))),mp.kept gE (by simp;exact n5)⟩
     rcases mv7 with h9 | ⟨q,hq,h9⟩
     ·exact .inl (by rw [← h9];rfl)
     exact .inr ⟨q,hq,by rw [← h9];rfl⟩
    have hl8:((es.length:Int)+1 - 1)=(es.length:Int):=by omega
    have hl7:(es.length:Int)≤60:=by omega
    clear tb eb vb fb er mp er7 mc6 li6 bl6 kp7 mv7 HEQ hln gE hxk
    go_wp2
    go_roundw
    case rel=>exact ⟨i+1,by go_num,by omega,st9⟩
    case measure=>simp [Go.RowKit.intOf];omega
   have hb:Below D1.heap.size D1 (D1.alloc (.cells #[.int .i64 e0,.int .i64 e1,.int .i64 e2,.int .i64 e3] 38)):=by go_grown
   have pG:Blk (D1.alloc (.cells #[.int .i64 e0,.int .i64 e1,.int .i64 e2,.int .i64 e3] 38)) D1.heap.size 38 [.int .i64 e0,.int .i64 e1,.int .i64 e2,.int .i64 e3]:=Zp _ _ _ rfl
   replace hV:=hV.below hb
   replace mc:=mc.below hb
   replace li:=li.below hb
   replace kp:=kp.belowR hb
   replace bl:=Zb bl hb
   replace pZ2:=pZ2.below hb
   replace hEc:=Za hb _ _ hEc
   go_simp
   refine hK.out _ _ (Nat.le_trans hS0 hb.size) (fun hS3=>?_)
   replace hS0:=hS3
   clear hK hb hS3
   generalize (D1.alloc (.cells #[.int .i64 e0,.int .i64 e1,.int .i64 e2,.int .i64 e3] 38))=D3 at *
   generalize D1.heap.size=G at *
   try simp only [Act.put,tka,tkb,tkc]
   refine tkr 0 25 (fun K hK=>?_)
   go_simp
   refine hK.out _ _ hS0 (fun hS2=>?_)
   clear hK hS2
   try simp only [Act.put,tka,tkb,tkc]
   clear hEc kA
   refine tkr 4 29 (fun K hK=>?_)
   have hbs:=bl.size
   have er:=hV.er
   refine Xv rfl _ _ 29 rfl wb.heap.size 38 i0 (.agg #[.int .i64 0,.int .i64 0,.int .i64 0,.int .i64 0]) 4 32 Tryz.underlying29 hi9 hz0 hz1 hz2 rfl (by decide) (.slice va9 es.length vc9) es.length (Yo es) rfl er ⟨G,0,none⟩ 1 1 [.int .i64 e0,.int .i64 e1,.int .i64 e2,.int .i64 e3] rfl rfl (X5 pG) (by simp [Value.oneCell']) (by unfold maxLen;omega) (by omega) hbs ?_
   intro v4 D4 q4 gr hob
   have q5:D4.ownsRow wb.heap.size 38 4 v4 (es++[(e0,e1,e2,e3)]).length (Yo (es++[(e0,e1,e2,e3)])):=by
    rw [Xo,List.length_append]
    exact q4
   have tb:=hV.tb.kept gr (Zg er hV.tb (by decide))
   have eb:=hV.eb.kept gr (Zg er hV.eb (by decide))
   have vb:=hV.vb.kept gr (Zg er hV.vb (by decide))
   have fb:=hV.fb.kept gr (Zg er hV.fb (by decide))
   have mp:=hV.mp.kept gr (hV.mp.own er)
   replace mc:=mc.kept gr (Zg er mc (by decide))
   replace pZ2:=pZ2.kept gr (Zg er pZ2 (by decide))
   replace li:ZI D4 bL (some ⟨lb,lo,none⟩,ln,lc) (Zj rows m 3):=World.ownsRow.kept li gr (Ap3.types li er (by decide)).or
   have mv4:=Td mv kp.size hob
   replace kp:=kp.grV mv gr
   replace bl:=bl.grown gr bl.size (fun q hq=>(ZN er hq).1)
   refine hK.out _ _ (Nat.le_trans hS0 gr.size) (fun hS4=>?_)
   replace hS0:=hS4
   clear hK hS4 q4 gr hob er hV mv pG hbs
   try simp only [Act.put,tka,tkb,tkc]
   refine tkz 5 (fun K hK=>?_)
   have cE4:D4.cell? ⟨Eb,0,none⟩=some (.slice va9 es.length vc9):=by simpa using eb.cell 0
   have fE4:=eb.frozen 0
   have gE:=Zv D4 Eb 0 v4
   have eb5:Blk (D4.setCell ⟨Eb,0,none⟩ v4) Eb 29 [v4]:=eb.set 0 v4
   have hV5:Qv (D4.setCell ⟨Eb,0,none⟩ v4) wb.heap.size Tb Eb Vb Fb nb (es++[(e0,e1,e2,e3)]) v4 (fs++tlF rows f m ls i):=by
    have n1:=ZK eb tb (by decide)
    have n3:=ZK eb vb (by decide)
    have n4:=ZK eb fb (by decide)
    have n5:=mp.blk eb
    exact ⟨tb.kept gE (by simp;exact n1),eb5,vb.kept gE (by simp;exact n3),fb.kept gE (by simp;exact n4),q5.kept gE (.inr (Zg q5 eb (by decide))),mp.kept gE (by simp;exact n5)⟩
   replace mc:=mc.kept gE (by simp;exact ZK eb mc (by decide))
   replace pZ2:=pZ2.kept gE (by simp;exact ZK eb pZ2 (by decide))
   replace li:ZI (D4.setCell ⟨Eb,0,none⟩ v4) bL (some ⟨lb,lo,none⟩,ln,lc) (Zj rows m 3):=World.ownsRow.kept li gE (.inr (Zg li eb (by decide)))
   replace kp:=kp.grE gE
   replace bl:=bl.grown gE bl.size (fun q e=>by cases e;exact hBE)
   obtain ⟨vg,vk,hv4⟩:=UR q5 (by simp)
   rw [show (es++[(e0,e1,e2,e3)]).length=es.length+1 by simp] at hv4
   subst hv4
   go_simp
   refine hK.out _ _ (Nat.le_trans hS0 gE.size) (fun hS5=>?_)
   clear hK hS5 hS0 cE4 fE4 gE eb5 tb eb vb fb mp q5
   generalize (D4.setCell ⟨Eb,0,none⟩ (.slice (some ⟨vg,0,none⟩) (es.length+1) vk))=D5 at *
   try simp only [Act.put,tka,tkb,tkc]
   refine wpAnyH_done (by kernel_rfl) ?_ _
   have cV:D5.cell? ⟨Vb,0,none⟩=some (.func (.func 155) #[] #[.pointer (some ⟨Tb,0,none⟩),.pointer (some ⟨Eb,0,none⟩),.pointer (some ⟨Vb,0,none⟩)]):=by simpa using hV5.vb.cell 0
   have kVx:=kV D5 _ bl hV5
   clear kV
   go_wp2_with (first | refine Zc rfl 89 _ rfl N rfl pZ2 _ Tryz.underlying89 rfl (by kernel_rfl) ?_)
   refine kVx.mono ?_
   rintro e D6 ⟨rfl,ev6,hV6,mv6,kp6⟩
   have mc6:=kp6.blk hV5.er hV5.eb hV5.mp mc (by decide) (by decide)
   have li6:ZI D6 bL (some ⟨lb,lo,none⟩,ln,lc) (Zj rows m 3):=kp6.row hV5.er hV5.eb hV5.mp li
   have bl6:Below wb.heap.size wb D6:=bl.trans (kp6.below hBE hBn (fun q hq=>(ZN hV5.er hq).1) bl.size)
   have kp7:=kp.call mv4 kp6
   have mv7:=mv4.trans kp.size mv6
   clear kVx cV mc li bl kp mv4 mv6 kp6 hV5 pZ2
   obtain ⟨xg,xk,rfl⟩:=UR hV6.er (by simp)
   have hln:(es++[(e0,e1,e2,e3)]).length=es.length+1:=by simp
   rw [HEQ.out _ rfl] at hV6
   obtain ⟨tb,eb,vb,fb,er,mp⟩:=hV6
   rw [hln] at eb er mv7
   rw [Xo] at er
   have er7:=P1 er (by rw [Uw])
   have cE6:D6.cell? ⟨Eb,0,none⟩=some (.slice (some ⟨xg,0,none⟩) (es.length+1) xk):=by simpa using eb.cell 0
   have fE6:=eb.frozen 0
   have hxk:es.length+1≤xk:=by
    rcases er.2 with ⟨h1,_⟩ | ⟨gq,cq,cur,h1,_,_,h4,_⟩
    ·cases h1
    cases h1;exact h4
   have hsl:∀ W,(Instr.slice 29 (.slice (some ⟨xg,0,none⟩) (es.length+1) xk) none (some (.int .i64 (es.length:Int))) none).run Tryz.prog W=.ok (.slice (some ⟨xg,0,none⟩) es.length xk) W:=fun W=>by
    have h8:(es.length:Int)≤(xk:Int):=by omega
    go_simp
    try omega
   have gE:=Zv D6 Eb 0 (.slice (some ⟨xg,0,none⟩) es.length xk)
   have st9:JJ rows wb w (D6.setCell ⟨Eb,0,none⟩ (.slice (some ⟨xg,0,none⟩) es.length xk)) Tb Eb Vb Fb nb g bL f cs m ls (.slice va es.length vc) (some ⟨lb,lo,none⟩,ln,lc) fs (i+1):=by
    refine ⟨⟨.slice (some ⟨xg,0,none⟩) es.length xk,?_,?_⟩,mc6.kept gE (by simp;exact ZK eb mc6 (by decide)),World.ownsRow.kept li6 gE (.inr (Zg li6 eb (by decide))),kp7.grE gE,bl6.grown gE bl6.size (fun q e=>by cases e;exact hBE)⟩
    ·rw [hes]
     have n1:=ZK eb tb (by decide)
     have n3:=ZK eb vb (by decide)
     have n4:=ZK eb fb (by decide)
     have n5:=mp.blk eb
     exact ⟨tb.kept gE (by simp;exact n1),eb.set 0 _,vb.kept gE (by simp;exact n3),fb.kept gE (by simp;exact n4),er7.kept gE (.inr (Zg er7 eb (by decide))),mp.kept gE (by simp;exact n5)⟩
    rcases mv7 with h9 | ⟨q,hq,h9⟩
    ·exact .inl (by rw [← h9];rfl)
    exact .inr ⟨q,hq,by rw [← h9];rfl⟩
   have hl8:((es.length:Int)+1 - 1)=(es.length:Int):=by omega
   have hl7:(es.length:Int)≤60:=by omega
   clear tb eb vb fb er mp er7 mc6 li6 bl6 kp7 mv7 HEQ hln gE hxk
   go_wp2
   go_roundw
   case rel=>exact ⟨i+1,by go_num,by omega,st9⟩
   case measure=>simp [Go.RowKit.intOf];omega
  have hge:¬ (i:Int)<(ln:Int):=by omega
  have HG:Hid (Pt (.returned (.tuple #[])) w wr wb.heap.size Tb Eb Vb Fb nb es (.slice va es.length vc) (fs++(rnF rows (f+1) m).map fun ks=>nfG rows (ls++ks))):=by
   rw [Hid,← HND.out i (by omega)]
   exact ⟨rfl,evi,hV,mv,kp⟩
  clear hV mv mc li kp bl
  go_wp2
  go_end0
  exact HG.out
theorem No {rows:List (List I3)} {wb:World} {Tb Eb Vb Fb nb:Nat} {cs:Sl × Sl × Sl} (hp:Zn rows=true) (hI:∀ k,k<3→ZL wb (slK cs k).1 (slK cs k).2.1 (slK cs k).2.2 (Yn rows k)) (hBE:wb.heap.size≤Eb) (hBn:wb.heap.size≤nb):∀ f,JL rows wb Tb Eb Vb Fb nb cs f
 | 0=>fun m ls fs hs hf=>by omega
 | f+1=>Gb hp hI hBE hBn (No hp hI hBE hBn f)
end Go.Proofs.YtifoggpohlegmaaGreatDoor
