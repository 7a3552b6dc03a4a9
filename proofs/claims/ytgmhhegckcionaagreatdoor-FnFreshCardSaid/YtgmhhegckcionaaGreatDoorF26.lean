/-
  Joined: RunS, SpGo, SpcO, ItmI, LokI, SetP, FotP.
-/
import Derived.Carry
import Derived.Test.YtgmhhegckcionaaGreatDoorF24
import Derived.Test.YtgmhhegckcionaaGreatDoorF25

namespace Go.Proofs.YtgmhhegckcionaaGreatDoor
set_option maxRecDepth 100000
set_option maxHeartbeats 16000000
open Go.RowKit
set_option linter.unusedVariables false
set_option linter.unusedSimpArgs false

theorem PW {rows:List (List I3)} {m:V4} {k:Int} (hp:Zf rows=true) (hs:Zc m=true) (hz:XO rows m k=0):(∀ x ∈ Xx rows m k,okB x=true)∧(Xx rows m k).length≤2:=by
 have h1:=Jq hp hs hz
 have h2:=Li rows m k
 unfold Xx
 split
 ·refine ⟨fun x hx=>?_,?_⟩
  ·rw [WS] at hx
   rcases hx with hx | hx
   ·exact h1 x hx
   subst hx;rfl
  have:=SR (Xg rows m k) (14,0,0)
  omega
 exact ⟨h1,by omega⟩
theorem Gh {xs ys:List I3} (h:∀ x ∈ xs,okB x=true) (k:∀ x ∈ ys,okB x=true):∀ x ∈ ZK xs ys,okB x=true:=fun x hx=>by
 rw [YF] at hx
 exact hx.elim (h x) (k x)

theorem Uv {w:World} {a:Option Addr} {n c:Nat} {ks:List Int} (h:Yn .i64 w a n c ks) {i:Nat} (hi:i<n):∃ b off,a=some ⟨b,off,none⟩∧w.cell? ⟨b,off+i,none⟩=some (.int .i64 (ks.getD i 0))∧b<w.heap.size:=by
 obtain ⟨h1,h2,h3,h4⟩:=h
 rcases h4 with h4 | ⟨b,off,ha,hl,hc⟩
 ·omega
 exact ⟨b,off,ha,hc i hi,hl⟩


theorem Hf:(Tryz.prog.info? 194).map (fun i=>(i.zero,i.size,i.bytes))=some (some (.agg #[.int .i64 0,.int .i64 0,.int .i64 0,.int .i64 0]),4,32):=by kernel_rfl
theorem Z9 {w:World} {B e s n:Nat} {v:Value} {xs:List Value} (h:w.ownsRow B e s v n xs):∃ a k c,v=.slice a k c:=by
 rcases h.2 with ⟨h1,h2⟩ | ⟨gq,cq,cur,h1,_⟩
 ·exact ⟨none,0,0,h1⟩
 exact ⟨_,_,_,h1⟩
theorem FR (i:Nat) (S:List (Zz V4)) (ts:List (Int × V4)) (t:Int × V4):onS i S (ts++[t])=WW i (onS i S ts) t:=by simp [onS,List.foldl_append]
theorem D3 (i:Nat) (S:List (Zz V4)) (ts us:List (Int × V4)):onS i S (ts++us)=onS i (onS i S ts) us:=by simp [onS,List.foldl_append]
theorem DN {rows:List (List I3)} {F S:List (Zz V4)} {at9 j:Nat} {m:V4} {k:Int} (hk:(Zm rows m 3)[j]?=some k) (hF:onS at9 S (nxM rows m) <+: F) :
  onS at9 S ((nxM rows m).take (j+1))=WW at9 (onS at9 S ((nxM rows m).take j)) (k,(goM rows m k).1) ∧
  (Yv rows F m).take (j+1)=(Yv rows F m).take j++[((goM rows m k).2,k,m.1.getD k.toNat 0,(ixS (WW at9 (onS at9 S ((nxM rows m).take j)) (k,(goM rows m k).1)) (goM rows m k).1:Int))]:=by
 have e1:(nxM rows m).take (j+1)=(nxM rows m).take j++[(k,(goM rows m k).1)]:=by
  rw [List.take_add_one]
  unfold nxM
  rw [List.getElem?_map,hk]
  rfl
 have e2:onS at9 S ((nxM rows m).take (j+1))=WW at9 (onS at9 S ((nxM rows m).take j)) (k,(goM rows m k).1):=by rw [e1,FR]
 refine ⟨e2,?_⟩
 have hpre:WW at9 (onS at9 S ((nxM rows m).take j)) (k,(goM rows m k).1) <+: F:=by
  rw [← e2]
  refine List.IsPrefix.trans ?_ hF
  have e3:=UC at9 ((nxM rows m).drop (j+1)) (onS at9 S ((nxM rows m).take (j+1)))
  rw [← D3,List.take_append_drop] at e3
  exact e3
 have hm:(goM rows m k).1 ∈ (WW at9 (onS at9 S ((nxM rows m).take j)) (k,(goM rows m k).1)).map (·.1):=Ls at9 _ (k,(goM rows m k).1)
 rw [List.take_add_one]
 unfold Yv
 rw [List.getElem?_map,hk]
 simp only [Option.map_some,Option.toList_some]
 unfold C2
 rw [DS hpre hm]
theorem Xr {w:World} {g t:Nat} {cs:List Value} (h:Blk w g t cs):w.rangeAt g 0 cs:=fun j v hj=>by rw [Nat.zero_add,h.cell];exact hj
theorem KJ {w:World} {g o:Nat} {cs:Sl × Sl × Sl} {r:Zz V4} {mv:Value} (h:w.rangeAt g o (rcC cs r mv)):w.rangeAt g (o+1) (Zi cs.1.val cs.2.1.val cs.2.2.val r.1):=fun j v hj=>by
 have hl:j<18:=(List.getElem?_eq_some_iff.1 hj).1
 have:=h (j+1) v (by
  show (Zi cs.1.val cs.2.1.val cs.2.2.val r.1++_)[j]?=some v
  rw [List.getElem?_append_left hl]
  exact hj)
 rw [show o+1+j=o+(j+1) by omega]
 exact this
theorem Xc.belowK {w0 w w':World} {X nb d:Nat} {vs:Value} {cs:Sl × Sl × Sl} {M:V4→List I4} {L:List (Zz V4 × Value)} (h:Xc w w0.heap.size nb vs cs M L d) (k:Yu w w' X nb vs) (hX:w0.heap.size≤X) (b0:Below w0.heap.size w0 w):Below w0.heap.size w0 w':=
 b0.trans (k.below hX h.low (fun j e=>(Yc h.row e).1) b0.size)
theorem Lr (i:Nat) (L:List (Zz V4 × Value)) (k:Int) (z:V4):L <+: VW i L k z:=by
 unfold VW
 split
 ·exact List.prefix_rfl
 exact List.prefix_append _ _
theorem Lq (i:Nat) (L:List (Zz V4 × Value)) (k:Int) (z:V4):(VW i L k z).length≤L.length+1:=by
 unfold VW
 split
 ·omega
 simp
def G0 (e:Ending) (w0 w w':World) (X nb:Nat) (vs:Value) (cs:Sl × Sl × Sl) (rows:List (List I3)) (F:List (Zz V4)) (L:List (Zz V4 × Value)) (at9:Nat) (m:V4):Prop:=
 ∃ vs' L',e=.returned (.tuple #[])∧Xc w' w0.heap.size nb vs' cs (Yv rows F) L' (at9+1)∧Blk w' X 84 [vs',.map (some nb)]∧L'.map (·.1)=onS at9 (L.map (·.1)) (nxM rows m)∧Xl (L'.map (·.1))∧L'.length≤L.length+3∧Yu w w' X nb vs∧XY w vs vs'
structure G1 (w0 w wr:World) (X nb Y bL:Nat) (vs vs' v5:Value) (cs:Sl × Sl × Sl) (rows:List (List I3)) (F:List (Zz V4)) (L L':List (Zz V4 × Value)) (at9 j:Nat) (m:V4) (sl:Sl):Prop where
 sp:Xc wr w0.heap.size nb vs' cs (Yv rows F) L' at9
 bx:Blk wr X 84 [vs',.map (some nb)]
 mc:Blk wr Y 98 (Zi cs.1.val cs.2.1.val cs.2.2.val m)
 ls:Z0 wr bL sl (Zm rows m 3)
 st:L'.map (·.1)=onS at9 (L.map (·.1)) ((nxM rows m).take j)
 sh:Xl (L'.map (·.1))
 pr:L <+: L'
 ln:L'.length≤L.length+j
 mv:wr.ownsRow w0.heap.size 194 4 v5 ((Yv rows F m).take j).length (We ((Yv rows F m).take j))
 kp:Yu w wr X nb vs
 mo:XY w vs vs'
 bl:Below w0.heap.size w0 wr
 fr:∀ q,v5.ownBlock=some q→w.heap.size≤q
theorem Xc.mvgrown {W W':World} {B B' nb d N n:Nat} {vs v:Value} {cs:Sl × Sl × Sl} {M:V4→List I4} {L L':List (Zz V4 × Value)} {xs:List Value} (h:Xc W B nb vs cs M L' d) (pr:L <+: L') (hd:d≤L.length) (hold:∀ i r mv,i<d→L[i]?=some (r,mv)→∀ q,mv.ownBlock=some q→q<N) (mv:W.ownsRow B' 194 4 v n xs) (fr:∀ q,v.ownBlock=some q→N≤q) (gr:W.grownBy W' v.ownBlock):Xc W' B nb vs cs M L' d:=by
 obtain ⟨D,hm,hn⟩:=h.map
 refine ⟨h.row.kept gr (Ap3.types h.row mv (by decide)).or,⟨D,hm.kept gr (fun e=>Uz hm mv e.symm),hn⟩,fun i r mv' hi hr=>?_,h.nil,h.low⟩
 refine (h.mvs i r mv' hi hr).kept gr ?_
 have hap:Ap3 mv' v:=fun q hq h2=>by
  obtain ⟨U,rfl⟩:=pr
  rw [List.getElem?_append_left (by omega)] at hr
  have:=hold i r mv' hi hr q hq
  have:=fr q h2
  omega
 exact hap.or
theorem Yu.mvgrown {w W W':World} {X nb:Nat} {vs v:Value} (k:Yu w W X nb vs) (gr:W.grownBy W' v.ownBlock) (fr:∀ q,v.ownBlock=some q→w.heap.size≤q):Yu w W' X nb vs:=
 ⟨gr.os.trans k.os,gr.tape.trans k.tape,gr.output.trans k.output,Nat.le_trans k.size gr.size,fun j hj h1 h2 h3=>(gr.block j (Nat.lt_of_lt_of_le hj k.size) (fun e=>by have:=fr j e.symm;omega)).trans (k.block j hj h1 h2 h3)⟩
theorem G1.fin {w0 w wr:World} {X nb Y bL g c:Nat} {vs v5:Value} {cs:Sl × Sl × Sl} {rows:List (List I3)} {F:List (Zz V4)} {L L':List (Zz V4 × Value)} {at9 j:Nat} {r:Zz V4} {sl:Sl}
  (h:G1 w0 w wr X nb Y bL vs (.slice (some ⟨g,0,none⟩) L'.length c) v5 cs rows F L L' at9 j r.1 sl) (hr:L[at9]?=some (r,.slice none 0 0)) (hj:(Zm rows r.1 3).length≤j) (hj3:j≤3) :
  G0 (.returned (.tuple #[])) w0 w (wr.setCell ⟨g,at9*22+21,none⟩ v5) X nb vs cs rows F L at9 r.1:=by
 have hl':at9<L.length:=(List.getElem?_eq_some_iff.1 hr).1
 obtain ⟨U,rfl⟩:=h.pr
 have hr':(L++U)[at9]?=some (r,.slice none 0 0):=by rw [List.getElem?_append_left hl'];exact hr
 have gN:wr.grownBy (wr.setCell ⟨g,at9*22+21,none⟩ v5) (some g):=Y3 wr g _ v5
 have hset:((L++U).set at9 (r,v5)).map (·.1)=(L++U).map (·.1):=by
  rw [List.map_set]
  apply List.ext_getElem?
  intro q
  rw [List.getElem?_set]
  split
  ·rename_i e
   subst e
   rw [List.getElem?_map,hr']
   simp
   omega
  rfl
 have hrow:=(h.sp.row.stored (at9*22+21) v5).1
 rw [Ju cs (L++U) at9 r (.slice none 0 0) v5 hr'] at hrow
 obtain ⟨D,hm,hN⟩:=h.sp.map
 have hfull:(Yv rows F r.1).take j=Yv rows F r.1:=List.take_of_length_le (by unfold Yv;simpa using hj)
 have hfn:(nxM rows r.1).take j=nxM rows r.1:=List.take_of_length_le (by unfold nxM;simpa using hj)
 refine ⟨_,(L++U).set at9 (r,v5),rfl,⟨by simpa using hrow,⟨D,?_,?_⟩,?_,?_,h.sp.low⟩,?_,?_,?_,?_,?_,h.mo⟩
 ·have:=hm.kept gN (fun e=>Uz hm h.sp.row (by cases e;rfl))
  simpa using this
 ·rw [hset];exact hN
 ·intro q r' mv hq hrq
  by_cases e:q=at9
  ·subst e
   rw [List.getElem?_set_self (by simp;omega)] at hrq
   cases hrq
   have hmv:=h.mv
   rw [hfull] at hmv
   exact hmv.kept gN (Ap3.types hmv h.sp.row (by decide)).or
  rw [List.getElem?_set_ne (Ne.symm e)] at hrq
  have hmv:=h.sp.mvs q r' mv (by omega) hrq
  exact hmv.kept gN (Ap3.types hmv h.sp.row (by decide)).or
 ·intro q r' mv hq hrq
  rw [List.getElem?_set_ne (by omega)] at hrq
  exact h.sp.nil q r' mv (by omega) hrq
 ·exact h.bx.kept gN (Zk h.sp.row h.bx (by decide))
 ·rw [hset,h.st,hfn]
 ·rw [hset];exact h.sh
 ·have:=h.ln;simp at this ⊢;omega
 have k2:Yu wr (wr.setCell ⟨g,at9*22+21,none⟩ v5) X nb (.slice (some ⟨g,0,none⟩) (L++U).length c):=⟨gN.os,gN.tape,gN.output,gN.size,fun q hq _ _ h3=>gN.block q hq (fun e=>h3 (by rw [e];rfl))⟩
 exact h.kp.trans h.mo k2

theorem DM {w0 w:World} {X nb at9:Nat} {vs:Value} {cs:Sl × Sl × Sl} {rows:List (List I3)} {F:List (Zz V4)} {L:List (Zz V4 × Value)} {r:Zz V4} (hS:Xc w w0.heap.size nb vs cs (Yv rows F) L at9) (hX:Blk w X 84 [vs,.map (some nb)]) (hBX:w0.heap.size≤X) (b0:Below w0.heap.size w0 w) (hr:L[at9]?=some (r,.slice none 0 0)) (hsh:Xl (L.map (·.1))) (hp:Zf rows=true) (hV:ZN w0) (hI:∀ k,k<3→Zr w0 (slK cs k).1 (slK cs k).2.1 (slK cs k).2.2 (Yg rows k)) (hF:onS at9 (L.map (·.1)) (nxM rows r.1) <+: F) (hl:L.length≤90000) :
  Calls Tryz.prog 81 #[.pointer (some ⟨X,0,none⟩),.int .i64 at9] w fun e w'=>G0 e w0 w w' X nb vs cs rows F L at9 r.1:=by
 obtain ⟨i0,hi9,hz0,hz1,hz2⟩:=info_parts Hf
 have hla:at9<L.length:=(List.getElem?_eq_some_iff.1 hr).1
 have hs:Zc r.1=true:=hsh r (List.mem_map.2 ⟨_,List.mem_of_getElem? hr,rfl⟩)
 have HR:Hid (L[at9]?=some (r,.slice none 0 0)):=hr
 obtain ⟨g,c,rfl,hg,hrg⟩:=hS.at9 hr
 have hrm:=KJ hrg
 have cX0:w.cell? ⟨X,0,none⟩=some (.slice (some ⟨g,0,none⟩) L.length c):=by simpa using hX.cell 0
 obtain ⟨m,hm⟩:∃ m,m=r.1:=⟨_,rfl⟩
 have hlt:(at9:Int)<(L.length:Int):=by omega
 have ha0:(0:Int)≤(at9:Int):=by omega
 have HF:Hid (onS at9 (L.map (·.1)) (nxM rows r.1) <+: F):=hF
 have pN:=Blk.new w 98 [.slice none 0 0,.int .i64 0,.int .i64 0,.int .i64 0,.slice none 0 0,.int .i64 0,.int .i64 0,.int .i64 0,.slice none 0 0,.int .i64 0,.int .i64 0,.int .i64 0,.int .i64 0,.int .i64 0,.int .i64 0,.int .i64 0,.int .i64 0,.int .i64 0]
 have hbN:Below w.heap.size w (w.alloc (.cells #[.slice none 0 0,.int .i64 0,.int .i64 0,.int .i64 0,.slice none 0 0,.int .i64 0,.int .i64 0,.int .i64 0,.slice none 0 0,.int .i64 0,.int .i64 0,.int .i64 0,.int .i64 0,.int .i64 0,.int .i64 0,.int .i64 0,.int .i64 0,.int .i64 0] 98)):=by go_grown
 clear hF hr hrg hg
 go_enter Tryz.func81,Tryz.ntmps81
 go_wp2_with (first | refine wpList_load_mid rfl 98 _ rfl g (at9*22+1) rfl (Zi cs.1.val cs.2.1.val cs.2.2.val r.1) _ hrm Tryz.underlying98 rfl (by kernel_rfl) ?_ | refine Ze rfl 98 _ _ rfl w.heap.size (Zi cs.1.val cs.2.1.val cs.2.2.val r.1) rfl rfl pN (by kernel_rfl) rfl rfl ?_)
 intro w1 p1 g1
 have pY:=p1.out
 have b1:Below w.heap.size w w1:=hbN.grown g1 hbN.size (fun k e=>by cases e;exact Nat.le_refl _)
 clear p1 g1 hbN pN hrm cX0
 obtain ⟨Y,hY⟩:∃ Y,Y=w.heap.size:=⟨_,rfl⟩
 rw [← hY] at pY ⊢
 have hYw:w.heap.size≤Y:=by omega
 clear hY
 have b01:=Zb b0 b1
 have kE:=Vx Y cs rows r.1 w1 ⟨pY,fun k hk=>(hI k hk).below b01⟩ hp hs
 go_wp2_with fail
 refine kE.mono ?_
 rintro e w2 ⟨⟨⟨la,ln,lc⟩,rfl,hL⟩,hb⟩
 have hLn:(Zm rows r.1 3).length=ln:=by have:=hL.1;simpa using this
 have hn3:ln≤3:=by rw [← hLn];exact YM rows r.1 3
 have b2:=Zb b1 hb
 have st:G1 w0 w w2 X nb Y w1.heap.size (.slice (some ⟨g,0,none⟩) L.length c) (.slice (some ⟨g,0,none⟩) L.length c) (.slice none 0 0) cs rows F L L at9 0 r.1 (la,ln,lc):=
  ⟨hS.below b2,hX.below b2,pY.below hb,hL,rfl,hsh,List.prefix_rfl,by omega,World.ownsRow_nil _ _ _ _,Yu.of_below X nb _ b2,XY.refl _ _,Zb b0 b2,fun q hq=>by simp [Value.ownBlock] at hq⟩
 have HOLD:Hid (∀ i r mv,i<at9→L[i]?=some (r,mv)→∀ q,mv.ownBlock=some q→q<w.heap.size):=fun i r mv h1 h2 q hq=>(Yc (hS.mvs i r mv h1 h2) hq).2
 generalize w1.heap.size=bL at *
 clear hb kE hL b1 b2 b01 pY hX hS b0 hsh
 go_wp2_with fail
 go_loopw [5,20] (fun s5 s20 wr=>∃ (j:Nat) (vs':Value) (L':List (Zz V4 × Value)),s20=.int .i64 j∧j≤ln∧G1 w0 w wr X nb Y bL (.slice (some ⟨g,0,none⟩) L.length c) vs' s5 cs rows F L L' at9 j r.1 (la,ln,lc)) (fun _ s20 _=>ln - (intOf s20).toNat)
 case atStart=>exact ⟨0,_,_,rfl,Nat.zero_le _,st⟩
 case round =>
  clear st
  obtain ⟨j,vs',L',rfl,hjn,hO⟩:=hrel
  obtain ⟨va,vn,vc,rfl⟩:=Z9 hO.mv
  by_cases hlt2:j<ln
  ·have hkj:(Zm rows r.1 3)[j]?=some ((Zm rows r.1 3).getD j 0):=by rw [List.getD,List.getElem?_eq_getElem (by omega)];rfl
   have hz:=Xe (List.mem_of_getElem? hkj)
   obtain ⟨h0k,h2k,hd,_⟩:=XB hz
   obtain ⟨k,hk⟩:∃ k:Nat,(Zm rows r.1 3).getD j 0=(k:Int):=⟨_,(Int.toNat_of_nonneg h0k).symm⟩
   obtain ⟨lb,lo,rfl,hc,hlb⟩:=Uv hO.ls.ints (show j<ln from hlt2)
   rw [hk] at hkj hz hd h0k h2k hc
   rw [Int.toNat_natCast] at hd
   have hk3:k<3:=by omega
   clear hk hlb
   have hx:=Vm hp hs hz
   obtain ⟨hst,hmvs⟩:=DN hkj HF.out
   rw [Int.toNat_natCast] at hmvs
   have kT:=fun (W:World) (q:Nat) (h:ZO W q cs rows r.1)=>JF h hp hs hk3 hd
   rw [← Sv] at kT
   generalize goM rows r.1 (k:Int)=zf at *
   obtain ⟨z,f⟩:=zf
   simp only at kT hx hst hmvs
   have HST:Hid (onS at9 (L.map (·.1)) ((nxM rows r.1).take (j+1))=WW at9 (onS at9 (L.map (·.1)) ((nxM rows r.1).take j)) ((k:Int),z)):=hst
   have HMV:Hid ((Yv rows F r.1).take (j+1)=(Yv rows F r.1).take j++[(f,(k:Int),r.1.1.getD k 0,(ixS (WW at9 (onS at9 (L.map (·.1)) ((nxM rows r.1).take j)) ((k:Int),z)) z:Int))]):=hmvs
   have hlt3:(j:Int)<(ln:Int):=by omega
   have hj0:(0:Int)≤(j:Int):=by omega
   have hj9:j<3:=by omega
   generalize r.1.1.getD k 0=pc at *
   clear hst hmvs hkj hz hd
   have pM:=hO.mc
   have pN:=Blk.new wr 98 [.slice none 0 0,.int .i64 0,.int .i64 0,.int .i64 0,.slice none 0 0,.int .i64 0,.int .i64 0,.int .i64 0,.slice none 0 0,.int .i64 0,.int .i64 0,.int .i64 0,.int .i64 0,.int .i64 0,.int .i64 0,.int .i64 0,.int .i64 0,.int .i64 0]
   have hbN:Below wr.heap.size wr (wr.alloc (.cells #[.slice none 0 0,.int .i64 0,.int .i64 0,.int .i64 0,.slice none 0 0,.int .i64 0,.int .i64 0,.int .i64 0,.slice none 0 0,.int .i64 0,.int .i64 0,.int .i64 0,.int .i64 0,.int .i64 0,.int .i64 0,.int .i64 0,.int .i64 0,.int .i64 0] 98)):=by go_grown
   replace pM:=pM.below hbN
   have bI:=Zb hO.bl hbN
   go_wp2_with (first | refine Zd rfl 98 _ rfl Y rfl hO.mc _ Tryz.underlying98 rfl (by kernel_rfl) ?_ | refine Zd rfl 98 _ rfl Y rfl pM _ Tryz.underlying98 rfl (by kernel_rfl) ?_ | refine Ze rfl 98 _ _ rfl wr.heap.size (Zi cs.1.val cs.2.1.val cs.2.2.val r.1) rfl rfl pN (by kernel_rfl) rfl rfl ?_)
   intro u1 p1 g1
   have pZ:=p1.out
   have bz:Below wr.heap.size wr u1:=hbN.grown g1 hbN.size (fun q e=>by cases e;exact Nat.le_refl _)
   clear p1 g1 hbN pN pM bI hc
   obtain ⟨Z,hZ⟩:∃ Z,Z=wr.heap.size:=⟨_,rfl⟩
   rw [← hZ] at pZ ⊢
   have hZw:wr.heap.size≤Z:=by omega
   clear hZ
   have kTx:=kT u1 Z ⟨pZ,fun q hq=>(hI q hq).below (Zb hO.bl bz)⟩
   clear kT
   go_wp2_with fail
   refine kTx.mono ?_
   rintro e u2 ⟨rfl,pZ2,g2⟩
   have b2:Below wr.heap.size wr u2:=bz.grown g2 bz.size (fun q e=>by cases e;exact hZw)
   clear kTx pZ bz g2
   have pN:=Blk.new u2 103 [.int .i64 0,.int .i64 0,.int .i64 0]
   have hbN:Below u2.heap.size u2 (u2.alloc (.cells #[.int .i64 0,.int .i64 0,.int .i64 0] 103)):=by go_grown
   go_wp2_with (refine Ze rfl 103 _ _ rfl u2.heap.size [.int .i64 f,.int .i64 (k:Int),.int .i64 pc] rfl rfl pN (by kernel_rfl) rfl rfl ?_)
   intro u3 p3 g3
   have pG:=p3.out
   have b3:Below u2.heap.size u2 u3:=hbN.grown g3 hbN.size (fun q e=>by cases e;exact Nat.le_refl _)
   replace pZ2:=pZ2.below b3
   have bz:=Zb b2 b3
   clear p3 g3 hbN pN b2 b3
   generalize u2.heap.size=G at *
   have sp:=hO.sp.below bz
   have bx:=hO.bx.below bz
   have mc:=hO.mc.below bz
   have ls:=hO.ls.below bz
   have mv:=Zs hO.mv bz
   have kp:=hO.kp.belowR bz
   have bl:=Zb hO.bl bz
   have hmo:=hO.mo
   have hfr:=hO.fr
   obtain ⟨st,sh,pr,hln⟩:L'.map (·.1)=onS at9 (L.map (·.1)) ((nxM rows r.1).take j)∧Xl (L'.map (·.1))∧L <+: L'∧L'.length≤L.length+j:=⟨hO.st,hO.sh,hO.pr,hO.ln⟩
   have HPR:Hid (L <+: L'):=pr
   have HS9:Hid (L'.map (·.1)=onS at9 (L.map (·.1)) ((nxM rows r.1).take j)):=st
   clear hO bz st pr
   go_wp2_with fail
   have hdr:Below u3.heap.size u3 u3.drew:=by go_grown
   refine wp_region_held_drew (S:=(fun w'=>w'.rangeAt G 0 [.int .i64 f,.int .i64 (k:Int),.int .i64 pc]∧w'.rangeAt Z 0 (Zi cs.1.val cs.2.1.val cs.2.2.val z))) (by kernel_rfl) ⟨Xr pG,Xr pZ2⟩ (fun hS0=>?_)
   refine tkm 0 27 (.slice va vn vc) ?_
   refine wpAnyH_take (i:=1) (oi:=⟨some 28,_,_,_,_,_⟩) (v:=.agg ([.int .i64 f,.int .i64 (k:Int),.int .i64 pc]).toArray) rfl (by kernel_rfl) (by kernel_rfl) (by kernel_rfl) (fun _ _ _ h=>h) (yieldsIf_load_mid (by rfl) 103 _ rfl G 0 rfl ([.int .i64 f,.int .i64 (k:Int),.int .i64 pc]) _ (fun _ h=>h.1) Tryz.underlying103 rfl (by kernel_rfl)) (by assumption) ?_
   simp only [Act.put,tka,tkb,tkc]
   refine tkm 2 29 (.pointer (some ⟨X,0,none⟩)) ?_
   refine wpAnyH_take (i:=3) (oi:=⟨some 30,_,_,_,_,_⟩) (v:=.agg (Zi cs.1.val cs.2.1.val cs.2.2.val z).toArray) rfl (by kernel_rfl) (by kernel_rfl) (by kernel_rfl) (fun _ _ _ h=>h) (yieldsIf_load_mid (by rfl) 98 _ rfl Z 0 rfl (Zi cs.1.val cs.2.1.val cs.2.2.val z) _ (fun _ h=>h.2) Tryz.underlying98 rfl (by kernel_rfl)) (by assumption) ?_
   simp only [Act.put,tka,tkb,tkc]
   refine tkm 4 31 (.int .i64 (at9:Int)) ?_
   refine tkm 5 32 (.int .i64 (k:Int)) ?_
   replace sp:=sp.below hdr
   replace bx:=bx.below hdr
   replace mc:=mc.below hdr
   replace ls:=ls.below hdr
   replace mv:=Zs mv hdr
   replace kp:=kp.belowR hdr
   replace bl:=Zb bl hdr
   replace pG:=pG.below hdr
   replace pZ2:=pZ2.below hdr
   clear hdr
   generalize u3.drew=V at *
   have kM:=Jf sp bx bl.size (by have:=HPR.out.length_le;omega) sh (hV.below bl) hx (by omega) at9 (k:Int)
   refine tkr 6 33 (fun K hK=>?_)
   go_simp
   refine kM.mono ?_
   rintro e V1 ⟨vs2,rfl,sp2,bx2,k2,m2⟩
   replace mc:=k2.blk sp bx mc (by decide) (by decide)
   replace pG:=k2.blk sp bx pG (by decide) (by decide)
   replace pZ2:=k2.blk sp bx pZ2 (by decide) (by decide)
   replace ls:=k2.ownI sp bx ls
   replace mv:=k2.row sp bx mv (by decide) (by decide)
   replace bl:=sp.belowK k2 hBX bl
   have hmo0:=hmo
   have kp2:=kp.trans hmo0 k2
   replace hmo:=hmo.trans kp.size m2
   clear hmo0
   clear kp sp bx k2 m2 kM
   go_wp2_with fail
   refine hK.out _ _ ⟨Xr pG,Xr pZ2⟩ (fun hS1=>?_)
   clear hK
   try simp only [Act.put,tka,tkb,tkc]
   have HIX:Hid (ixS (WW at9 (onS at9 (L.map (·.1)) ((nxM rows r.1).take j)) ((k:Int),z)) z=ixS ((VW at9 L' (k:Int) z).map (·.1)) z):=by rw [Hid,Tj,HS9.out]
   generalize ixS ((VW at9 L' (k:Int) z).map (·.1)) z=ix at *
   refine tkm 7 34 (.agg #[.int .i64 f,.int .i64 (k:Int),.int .i64 pc,.int .i64 (ix:Int)]) ?_
   refine tkr 8 35 (fun K hK=>?_)
   have hal:Below V1.heap.size V1 (V1.alloc (.cells #[.int .i64 f,.int .i64 (k:Int),.int .i64 pc,.int .i64 (ix:Int)] 194)):=by go_grown
   have pQ:Blk (V1.alloc (.cells #[.int .i64 f,.int .i64 (k:Int),.int .i64 pc,.int .i64 (ix:Int)] 194)) V1.heap.size 194 [.int .i64 f,.int .i64 (k:Int),.int .i64 pc,.int .i64 (ix:Int)]:=Zj _ _ _ rfl
   replace sp2:=sp2.below hal
   replace bx2:=bx2.below hal
   replace mc:=mc.below hal
   replace pG:=pG.below hal
   replace pZ2:=pZ2.below hal
   replace ls:=ls.below hal
   replace mv:=Zs mv hal
   replace bl:=Zb bl hal
   replace kp2:=kp2.belowR hal
   go_simp
   refine hK.out _ _ ⟨Xr pG,Xr pZ2⟩ (fun hS2=>?_)
   clear hK hal
   generalize (V1.alloc (.cells #[.int .i64 f,.int .i64 (k:Int),.int .i64 pc,.int .i64 (ix:Int)] 194))=V2 at *
   generalize V1.heap.size=q1 at *
   try simp only [Act.put,tka,tkb,tkc]
   refine tkr 9 36 (fun K hK=>?_)
   have hml:((Yv rows F r.1).take j).length≤3:=by have:=List.length_take_le j (Yv rows F r.1);omega
   refine Xi rfl _ _ 99 rfl w0.heap.size 194 i0 _ 4 32 Tryz.underlying99 hi9 hz0 hz1 hz2 rfl (by decide) (.slice va vn vc) _ _ rfl mv ⟨q1,0,none⟩ 1 1 [.int .i64 f,.int .i64 (k:Int),.int .i64 pc,.int .i64 (ix:Int)] rfl rfl (TD pQ) (fun u hu=>by simp only [List.mem_cons,List.not_mem_nil,or_false] at hu;rcases hu with rfl | rfl | rfl | rfl<;>rfl) (by unfold maxLen;omega) (by omega) bl.size ?_
   intro v5 V3 q5 gr at5
   have mvne:=fun {e:Nat} {gg:Nat} {cc:List Value} (hB:Blk V2 gg e cc) (he:194≠e)=>Zk mv hB he
   replace bx2:=bx2.kept gr (mvne bx2 (by decide))
   replace mc:=mc.kept gr (mvne mc (by decide))
   replace pG:=pG.kept gr (mvne pG (by decide))
   replace pZ2:=pZ2.kept gr (mvne pZ2 (by decide))
   replace ls:Z0 V3 bL (some ⟨lb,lo,none⟩,ln,lc) (Zm rows r.1 3):=World.ownsRow.kept ls gr (Ap3.types ls mv (by decide)).or
   replace bl:=bl.grown gr bl.size (fun q e=>(Yc mv e).1)
   have hfr2:∀ q,v5.ownBlock=some q→w.heap.size≤q:=fun q hq=>by
    rcases at5 with e9 | e9
    ·exact hfr q (e9▸hq)
    rw [e9] at hq;cases hq;exact kp2.size
   have sp3:=sp2.mvgrown (HPR.out.trans (Lr _ _ _ _)) (by omega) HOLD.out mv hfr gr
   have kp3:=kp2.mvgrown gr hfr
   have HMV2:(Yv rows F r.1).take (j+1)=(Yv rows F r.1).take j++[(f,(k:Int),pc,(ix:Int))]:=by rw [HMV.out,HIX.out]
   have q6:V3.ownsRow w0.heap.size 194 4 v5 ((Yv rows F r.1).take (j+1)).length (We ((Yv rows F r.1).take (j+1))):=by
    rw [HMV2,Ki,List.length_append]
    exact q5
   have st9:G1 w0 w V3 X nb Y bL (.slice (some ⟨g,0,none⟩) L.length c) vs2 v5 cs rows F L (VW at9 L' (k:Int) z) at9 (j+1) r.1 (some ⟨lb,lo,none⟩,ln,lc):=
    ⟨sp3,bx2,mc,ls,by rw [Tj,HS9.out,HST.out],by rw [Tj];exact Tl sh hx,HPR.out.trans (Lr _ _ _ _),by have:=Lq at9 L' (k:Int) z;omega,q6,kp3,hmo,bl,hfr2⟩
   refine hK.out _ _ ⟨Xr pG,Xr pZ2⟩ (fun hS3=>?_)
   clear hK
   try simp only [Act.put,tka,tkb,tkc]
   refine tkm 10 5 v5 ?_
   refine wpAnyH_done (by kernel_rfl) ?_ _
   clear sp3 bx2 mc ls q6 q5 kp3 kp2 hmo bl hfr2 hfr sp2 mv gr at5 mvne pG pZ2 pQ hS0 hS1 hS2 hS3 HMV HMV2 HIX HST HS9 HPR sh
   go_wp2
   go_roundw
   case rel=>exact ⟨j+1,_,_,by go_num,by omega,st9⟩
   case measure=>simp [intOf];omega
  have hpre:=hO.pr
  have hr2:L'[at9]?=some (r,.slice none 0 0):=by
   obtain ⟨U,rfl⟩:=hpre
   rw [List.getElem?_append_left hla]
   exact HR.out
  have hla2:(at9:Int)<(L'.length:Int):=by have:=hpre.length_le;omega
  obtain ⟨g2,c2,rfl,hg2,hrg2⟩:=hO.sp.at9 hr2
  have HFin:Hid (G0 (.returned (.tuple #[])) w0 w (wr.setCell ⟨g2,at9*22+21,none⟩ (.slice va vn vc)) X nb (.slice (some ⟨g,0,none⟩) L.length c) cs rows F L at9 r.1):=hO.fin HR.out (by omega) (by omega)
  have cX0:wr.cell? ⟨X,0,none⟩=some (.slice (some ⟨g2,0,none⟩) L'.length c2):=by simpa using hO.bx.cell 0
  have cM:=hrg2 21 (.slice none 0 0) rfl
  have fM:=hO.sp.row.frozenAt (at9*22+21)
  clear hrg2 hO hpre hr2 HR
  go_wp2
  go_end0
  exact HFin.out


theorem VE {w:World} {a:Option Addr} {len cap:Nat} {rows:List (List I3)} (hC:YT w a len cap rows) (hp:Zf rows=true):∃ cs,Yi w a cs rows:=(hC.rowsAt hp).2
def YJ (rows:List (List I3)) (z:V4):List (Zz V4):=Ul (nxM rows) 2000 0 [(z,0,0)]
def Qg (e:Ending) (w w':World) (a:Option Addr) (rows:List (List I3)) (F:List (Zz V4)):Prop:=
 ∃ vs nb cs L,e=.returned (.tuple #[.agg #[vs,.map (some nb)],.int .i64 0])∧Xc w' w.heap.size nb vs cs (Yv rows F) L L.length∧L.map (·.1)=F∧Yi w a cs rows∧Below w.heap.size w w'
structure NO (w wr:World) (X R nb:Nat) (vs:Value) (cs:Sl × Sl × Sl) (rows:List (List I3)) (z0:V4) (L:List (Zz V4 × Value)) (at9:Nat):Prop where
 sp:Xc wr w.heap.size nb vs cs (Yv rows (YJ rows z0)) L at9
 bx:Blk wr X 84 [vs,.map (some nb)]
 br:Blk wr R 84 [.slice none 0 0,.map none]
 sh:Xl (L.map (·.1))
 rn:Ul (nxM rows) (2000 - at9) at9 (L.map (·.1))=YJ rows z0
 ln:L.length≤1+3*at9
 le:at9≤L.length
 a2:at9≤2000
 bl:Below w.heap.size w wr
theorem NO.fin {w wr:World} {X R nb:Nat} {vs:Value} {cs:Sl × Sl × Sl} {rows:List (List I3)} {z0:V4} {L:List (Zz V4 × Value)} {at9:Nat} (h:NO w wr X R nb vs cs rows z0 L at9) (hx:at9=L.length∨at9=2000):L.map (·.1)=YJ rows z0:=by
 have e:=h.rn
 rcases hx with hx | hx
 ·rw [LF (by simp;omega)] at e
  exact e
 subst hx
 exact e
theorem NO.go {w wr w':World} {X R nb:Nat} {vs vs':Value} {cs:Sl × Sl × Sl} {rows:List (List I3)} {z0:V4} {L L':List (Zz V4 × Value)} {at9:Nat} {r:Zz V4} {mv:Value} (h:NO w wr X R nb vs cs rows z0 L at9) (hr:L[at9]?=some (r,mv)) (hRX:R≠X) (hBX:w.heap.size≤X) (ha:at9<2000)
  (sp:Xc w' w.heap.size nb vs' cs (Yv rows (YJ rows z0)) L' (at9+1)) (bx:Blk w' X 84 [vs',.map (some nb)]) (st:L'.map (·.1)=onS at9 (L.map (·.1)) (nxM rows r.1)) (sh:Xl (L'.map (·.1))) (ln:L'.length≤L.length+3) (kp:Yu wr w' X nb vs):NO w w' X R nb vs' cs rows z0 L' (at9+1):=by
 have hl:at9<L.length:=(List.getElem?_eq_some_iff.1 hr).1
 have hlm:at9<(L.map (·.1)).length:=by simpa using hl
 have hat:((L.map (·.1))[at9]'hlm)=r:=by
  have e:=(List.getElem?_eq_some_iff.1 hr).2
  simp [e]
 obtain ⟨D,hm,_⟩:=h.sp.map
 refine ⟨sp,bx,(kp.block R h.br.lt hRX (Uy hm h.br) (Zk h.sp.row h.br (by decide))).trans h.br,sh,?_,by have:=h.ln;omega,?_,by omega,h.sp.belowK kp hBX h.bl⟩
 ·have e:=h.rn
  rw [show 2000 - at9=(1999 - at9)+1 by omega,Mq hlm,hat,← st] at e
  rw [show 2000 - (at9+1)=1999 - at9 by omega]
  exact e
 have h2:=(UC at9 (nxM rows r.1) (L.map (·.1))).length_le
 rw [← st] at h2
 simp at h2
 omega
theorem NO.pre {w wr:World} {X R nb:Nat} {vs:Value} {cs:Sl × Sl × Sl} {rows:List (List I3)} {z0:V4} {L:List (Zz V4 × Value)} {at9:Nat} {r:Zz V4} {mv:Value} (h:NO w wr X R nb vs cs rows z0 L at9) (hr:L[at9]?=some (r,mv)) (ha:at9<2000):onS at9 (L.map (·.1)) (nxM rows r.1) <+: YJ rows z0:=by
 have hl:at9<L.length:=(List.getElem?_eq_some_iff.1 hr).1
 have hlm:at9<(L.map (·.1)).length:=by simpa using hl
 have hat:((L.map (·.1))[at9]'hlm)=r:=by
  have e:=(List.getElem?_eq_some_iff.1 hr).2
  simp [e]
 have e:=h.rn
 rw [show 2000 - at9=(1999 - at9)+1 by omega,Mq hlm,hat] at e
 rw [← e]
 exact SY _ _ _ _

theorem LE (a:Option Addr) (len cap:Nat) (rows:List (List I3)) (s:S4) (z0:V4) (w:World) (hC:YT w a len cap rows) (h:Xd w s z0) (hV:ZN w) (hp:Zf rows=true) (hz:Zc z0=true) :
  Calls Tryz.prog 42 #[.agg #[.slice a len cap],s.val] w fun e w'=>if (YJ rows z0).length≤2000 then Qg e w w' a rows (YJ rows z0) else (e=.returned (.tuple #[.agg #[.slice none 0 0,.map none],.int .i64 15])∧Below w.heap.size w w'):=by
 have kM:=fun W hC h hV=>Ux a len cap rows s z0 W hC h hV hp hz
 have hM:=fun (W:World) (hb:Below w.heap.size w W)=>h.below hb
 obtain ⟨cs,hR⟩:=VE hC hp
 have hI:∀ k,k<3→Zr w (slK cs k).1 (slK cs k).2.1 (slK cs k).2.2 (Yg rows k):=by
  obtain ⟨b,off,_,_,hk⟩:=hR
  exact fun k h3=>(hk k h3).2
 obtain ⟨⟨a0,n0,c0⟩,⟨a1,n1,c1⟩,⟨a2,n2,c2⟩,⟨a3,n3,c3⟩⟩:=s
 have uA:S4.val ((a0,n0,c0),(a1,n1,c1),(a2,n2,c2),(a3,n3,c3))=.agg #[.slice a0 n0 c0,.slice a1 n1 c1,.slice a2 n2 c2,.slice a3 n3 c3]:=rfl
 rw [uA] at kM ⊢
 clear uA h
 have bw:Below w.heap.size w (((w.alloc (.cells #[.slice a len cap] 25)).alloc (.cells #[.slice a0 n0 c0,.slice a1 n1 c1,.slice a2 n2 c2,.slice a3 n3 c3] 88)).alloc (.cells #[.slice none 0 0,.map none] 84)):=by go_grown
 have pP:Blk (((w.alloc (.cells #[.slice a len cap] 25)).alloc (.cells #[.slice a0 n0 c0,.slice a1 n1 c1,.slice a2 n2 c2,.slice a3 n3 c3] 88)).alloc (.cells #[.slice none 0 0,.map none] 84)) w.heap.size 25 [.slice a len cap]:=Zl _ (Zl _ (Zj _ _ _ rfl))
 have pS:Blk (((w.alloc (.cells #[.slice a len cap] 25)).alloc (.cells #[.slice a0 n0 c0,.slice a1 n1 c1,.slice a2 n2 c2,.slice a3 n3 c3] 88)).alloc (.cells #[.slice none 0 0,.map none] 84)) (w.heap.size+1) 88 [.slice a0 n0 c0,.slice a1 n1 c1,.slice a2 n2 c2,.slice a3 n3 c3]:=Zl _ (Zj _ _ _ (by simp))
 have pR:Blk (((w.alloc (.cells #[.slice a len cap] 25)).alloc (.cells #[.slice a0 n0 c0,.slice a1 n1 c1,.slice a2 n2 c2,.slice a3 n3 c3] 88)).alloc (.cells #[.slice none 0 0,.map none] 84)) (w.heap.size+2) 84 [.slice none 0 0,.map none]:=Zj _ _ _ (by simp)
 have hmm:=@run_makeMap Tryz.prog
 go_enter Tryz.func42,Tryz.ntmps42
 go_wp2_with fail
 generalize (((w.alloc (.cells #[.slice a len cap] 25)).alloc (.cells #[.slice a0 n0 c0,.slice a1 n1 c1,.slice a2 n2 c2,.slice a3 n3 c3] 88)).alloc (.cells #[.slice none 0 0,.map none] 84))=U at *
 have kMx:=kM U (hC.below bw) (hM _ bw) (hV.below bw)
 have hRU:=hR.below bw
 clear kM hM hC
 go_wp2_with (first | refine Zd rfl 25 _ rfl w.heap.size rfl pP _ Tryz.underlying25 rfl (by kernel_rfl) ?_ | refine Zd rfl 88 _ rfl (w.heap.size+1) rfl pS _ Tryz.underlying88 rfl (by kernel_rfl) ?_)
 refine kMx.mono ?_
 rintro e w1 ⟨⟨cs',rfl,hR'⟩,hb⟩
 obtain rfl:=hRU.uniq hR'
 replace bw:=Zb bw hb
 replace pR:=pR.below hb
 clear hb kMx pP pS hR' hRU
 have pN:=Blk.new w1 98 [.slice none 0 0,.int .i64 0,.int .i64 0,.int .i64 0,.slice none 0 0,.int .i64 0,.int .i64 0,.int .i64 0,.slice none 0 0,.int .i64 0,.int .i64 0,.int .i64 0,.int .i64 0,.int .i64 0,.int .i64 0,.int .i64 0,.int .i64 0,.int .i64 0]
 have hbN:Below w1.heap.size w1 (w1.alloc (.cells #[.slice none 0 0,.int .i64 0,.int .i64 0,.int .i64 0,.slice none 0 0,.int .i64 0,.int .i64 0,.int .i64 0,.slice none 0 0,.int .i64 0,.int .i64 0,.int .i64 0,.int .i64 0,.int .i64 0,.int .i64 0,.int .i64 0,.int .i64 0,.int .i64 0] 98)):=by go_grown
 go_wp2_with (refine Ze rfl 98 _ _ rfl w1.heap.size (Zi cs.1.val cs.2.1.val cs.2.2.val z0) rfl rfl pN (by kernel_rfl) rfl rfl ?_)
 intro w2 p2 g2
 have pM:=p2.out
 have b2:Below w1.heap.size w1 w2:=hbN.grown g2 hbN.size (fun k e=>by cases e;exact Nat.le_refl _)
 replace bw:=Zb bw b2
 replace pR:=pR.below b2
 clear p2 g2 hbN pN b2
 generalize w1.heap.size=Y at *
 have hN0:TY (.map []) ([]:List (Zz V4)):=TY.start
 have hbs:=bw.size
 have hRlt:=pR.lt
 have pX:=Blk.new (w2.alloc (.map #[] 0)) 84 [.slice none 0 0,.map none]
 have hm0:((w2.alloc (.map #[] 0)).alloc (.cells #[.slice none 0 0,.map none] 84)).ownsMap Tryz.prog 9 (plainElem Tryz.prog 3) w2.heap.size 0 (.map []:DataW Unit):=(World.ownsMap_made (H:=Unit) w2 Tryz.prog 9 (plainElem Tryz.prog 3)).alloc _
 have hbM:Below w2.heap.size w2 (w2.alloc (.map #[] 0)):=⟨rfl,rfl,rfl,by simp,fun k hk=>Below.heap_alloc w2 _ k hk⟩
 have hbX:Below w2.heap.size w2 ((w2.alloc (.map #[] 0)).alloc (.cells #[.slice none 0 0,.map none] 84)):=Zb hbM ⟨rfl,rfl,rfl,by simp,fun k hk=>Below.heap_alloc _ _ k hk⟩
 simp only [World.size_alloc] at pX
 go_wp2_with (refine Ze rfl 84 _ _ rfl (w2.heap.size+1) [.slice none 0 0,.map (some w2.heap.size)] rfl rfl pX (by kernel_rfl) rfl rfl ?_)
 intro w3 p3 g3
 have bx:=p3.out
 have hm3:=hm0.kept g3 (by simp)
 have b3:Below w2.heap.size w2 w3:=hbX.grown g3 hbX.size (fun k e=>by cases e;omega)
 replace bw:=Zb bw b3
 replace pR:=pR.below b3
 replace pM:=pM.below b3
 clear p3 g3 hbX hbM hm0 pX b3 hmm
 have sp0:Xc w3 w.heap.size w2.heap.size (.slice none 0 0) cs (Yv rows (YJ rows z0)) [] 0:=⟨World.ownsRow_nil _ _ _ _,⟨_,hm3,hN0⟩,fun i r mv hi=>by omega,fun i r mv _ hr=>by simp at hr,hbs⟩
 have kT:=Jf sp0 bx bw.size (Nat.le_refl 0) (fun r hr=>by simp at hr) (hV.below bw) hz (by decide) 0 0
 have hXB:w.heap.size≤w2.heap.size+1:=by omega
 have hRX:w.heap.size+2≠w2.heap.size+1:=by omega
 go_wp2_with (refine Zd rfl 98 _ rfl Y rfl pM _ Tryz.underlying98 rfl (by kernel_rfl) ?_)
 refine kT.mono ?_
 rintro e w4 ⟨vs,rfl,sp,bx4,k4,m4⟩
 have st:NO w w4 (w2.heap.size+1) (w.heap.size+2) w2.heap.size vs cs rows z0 (VW 0 [] 0 z0) 0:=by
  refine ⟨sp,bx4,?_,?_,?_,?_,Nat.zero_le _,by decide,sp0.belowK k4 hXB bw⟩
  ·exact (k4.block _ pR.lt hRX (Uy hm3 pR) (Zk sp0.row pR (by decide))).trans pR
  ·rw [Tj];exact Tl (fun r hr=>by simp at hr) hz
  ·rw [Tj];rfl
  exact Lq 0 [] 0 z0
 generalize w2.heap.size+1=X at *
 generalize w2.heap.size=nb at *
 have hRB9:w.heap.size≤w.heap.size+2:=by omega
 generalize w.heap.size+2=R at *
 generalize VW 0 [] 0 z0=L0 at *
 clear kT sp bx4 k4 m4 sp0 bx bw pR pM hm3 hN0 hRlt hbs
 go_wp2_with fail
 go_loopw [24] (fun s24 wr=>∃ (at9:Nat) (vs:Value) (L:List (Zz V4 × Value)),s24=.int .i64 at9∧NO w wr X R nb vs cs rows z0 L at9) (fun s24 _=>2000 - (intOf s24).toNat)
 case atStart=>exact ⟨0,_,_,rfl,st⟩
 case round =>
  clear st vs
  obtain ⟨at9,vs,L,rfl,hO⟩:=hrel
  obtain ⟨va,vn,vc,rfl⟩:∃ va vn vc,vs=.slice va vn vc:=Z9 hO.sp.row
  obtain rfl:vn=L.length:=by
   rcases hO.sp.row.2 with ⟨h1,h2⟩ | ⟨gq,cq,cur,h1,_⟩
   ·cases h1;exact h2.symm
   cases h1;rfl
  have cX0:wr.cell? ⟨X,0,none⟩=some (.slice va L.length vc):=by simpa using hO.bx.cell 0
  by_cases hlt:at9<2000
  ·have hlt1:(at9:Int)<2000:=by omega
   by_cases hel:at9=L.length
   ·have hxl:at9=L.length∨at9=2000:=.inl hel
    have hF:=hO.fin hxl
    have hq1:((at9:Int) == (L.length:Int))=true:=by rw [hel];simp
    have hq2:decide ((at9:Int)=(L.length:Int))=true:=by rw [hel];simp
    clear hel
    have hfl:(YJ rows z0).length=L.length:=by rw [← hF];simp
    by_cases hbig:2000<L.length
    ·omega
    have hif:(YJ rows z0).length≤2000:=by omega
    have hb1:¬ (2000:Int)<(L.length:Int):=by omega
    have pR:=hO.br
    have bw:=hO.bl
    have bx:=hO.bx
    have hRB:w.heap.size≤R:=hRB9
    have sp:=hO.sp
    obtain rfl:at9=L.length:=by have:=hO.le;omega
    clear hO hfl hbig hxl
    go_wp2_with (first | refine Zd rfl 84 _ rfl X rfl bx _ Tryz.underlying84 rfl (by kernel_rfl) ?_ | refine Ze rfl 84 _ _ rfl R [.slice va L.length vc,.map (some nb)] rfl rfl pR (by kernel_rfl) rfl rfl ?_)
    intro w9 p9 g9
    replace bw:=bw.grown g9 bw.size (fun k e=>by cases e;exact hRB)
    replace sp:=sp.grown g9 pR (by decide) (by decide)
    have HG:Hid (Qg (.returned (.tuple #[.agg #[.slice va L.length vc,.map (some nb)],.int .i64 0])) w w9 a rows (YJ rows z0)):=⟨_,_,_,_,rfl,sp,hF,hR,bw⟩
    clear g9 pR sp bx bw hF
    go_wp2_with fail
    refine bodyPost_ret (ZF Tryz.results42 _ _ _ _ _ _ rfl p9.out Tryz.underlying84 rfl (by kernel_rfl)) rfl ?_
    exact HG.out
   have hal:at9<L.length:=by have:=hO.le;omega
   have hq1:((at9:Int) == (L.length:Int))=false:=beq_false_of_ne (by omega)
   have hq2:decide ((at9:Int)=(L.length:Int))=false:=decide_eq_false (by omega)
   obtain ⟨r,mv,hr⟩:∃ r mv,L[at9]?=some (r,mv):=⟨L[at9].1,L[at9].2,by rw [List.getElem?_eq_getElem hal]⟩
   obtain rfl:=hO.sp.nil at9 r mv (Nat.le_refl _) hr
   have kG:=DM hO.sp hO.bx hXB hO.bl hr hO.sh hp hV hI (hO.pre hr hlt) (by have:=hO.ln;omega)
   have HGo:=fun (w5:World) (vs5:Value) (L5:List (Zz V4 × Value))=>hO.go (w':=w5) (vs':=vs5) (L':=L5) hr hRX hXB hlt
   clear hel hal hr
   go_wp2_with fail
   refine kG.mono ?_
   rintro e w5 ⟨vs5,L5,rfl,sp5,bx5,st5,sh5,ln5,k5,m5⟩
   have st9:=HGo w5 vs5 L5 sp5 bx5 st5 sh5 ln5 k5
   clear kG HGo sp5 bx5 st5 sh5 ln5 k5 m5 hO cX0
   go_wp2
   go_roundw
   case rel=>exact ⟨at9+1,_,_,by go_num,st9⟩
   case measure=>simp [intOf];omega
  have hlt1:¬ (at9:Int)<2000:=by omega
  have hxl:at9=L.length∨at9=2000:=.inr (by have:=hO.a2;omega)
  have hF:=hO.fin hxl
  have hfl:(YJ rows z0).length=L.length:=by rw [← hF];simp
  by_cases hbig:2000<L.length
  ·have hif:¬ (YJ rows z0).length≤2000:=by omega
   have hb1:(2000:Int)<(L.length:Int):=by omega
   have pR:=hO.br
   have bw:=hO.bl
   have hRB:w.heap.size≤R:=hRB9
   clear hF hfl hO hbig
   go_wp2_with (refine Ze rfl 84 _ _ rfl R [.slice none 0 0,.map none] rfl rfl pR (by kernel_rfl) rfl rfl ?_)
   intro w9 p9 g9
   replace bw:=bw.grown g9 bw.size (fun k e=>by cases e;exact hRB)
   clear g9 pR
   go_wp2_with fail
   refine bodyPost_ret (ZF Tryz.results42 _ _ _ _ _ _ rfl p9.out Tryz.underlying84 rfl (by kernel_rfl)) rfl ?_
   exact ⟨rfl,bw⟩
  have hif:(YJ rows z0).length≤2000:=by omega
  have hb1:¬ (2000:Int)<(L.length:Int):=by omega
  have pR:=hO.br
  have bw:=hO.bl
  have bx:=hO.bx
  have hRB:w.heap.size≤R:=hRB9
  have sp:=hO.sp
  obtain rfl:at9=L.length:=by have:=hO.le;omega
  clear hO hfl hbig hxl
  go_wp2_with (first | refine Zd rfl 84 _ rfl X rfl bx _ Tryz.underlying84 rfl (by kernel_rfl) ?_ | refine Ze rfl 84 _ _ rfl R [.slice va L.length vc,.map (some nb)] rfl rfl pR (by kernel_rfl) rfl rfl ?_)
  intro w9 p9 g9
  replace bw:=bw.grown g9 bw.size (fun k e=>by cases e;exact hRB)
  replace sp:=sp.grown g9 pR (by decide) (by decide)
  have HG:Hid (Qg (.returned (.tuple #[.agg #[.slice va L.length vc,.map (some nb)],.int .i64 0])) w w9 a rows (YJ rows z0)):=⟨_,_,_,_,rfl,sp,hF,hR,bw⟩
  clear g9 pR sp bx bw hF
  go_wp2_with fail
  refine bodyPost_ret (ZF Tryz.results42 _ _ _ _ _ _ rfl p9.out Tryz.underlying84 rfl (by kernel_rfl)) rfl ?_
  exact HG.out
theorem KP (a:Option Addr) (len cap:Nat) (rows:List (List I3)) (s:S4) (w:World) (hC:YT w a len cap rows) (h:Xd w s Zu) (hV:ZN w) (hp:Zf rows=true) :
  Calls Tryz.prog 42 #[.agg #[.slice a len cap],s.val] w fun e w'=>if (ZL rows).length≤2000 then Qg e w w' a rows (ZL rows) else (e=.returned (.tuple #[.agg #[.slice none 0 0,.map none],.int .i64 15])∧Below w.heap.size w w'):=
 LE a len cap rows s Zu w hC h hV hp ZJ


def WQ (n a b:Int):Bool:=decide (a≤n∧n≤b)
theorem Xs {n a b:Int}:WQ n a b=true↔a≤n∧n≤b:=by simp [WQ]
theorem Uu {n a b:Int}:WQ n a b=false↔¬ (a≤n∧n≤b):=by simp only [WQ,decide_eq_false_iff_not]
theorem P2 (n:Int) (w:World):Calls Tryz.prog 95 #[.int .i64 n] w fun e w'=>e=.returned (.bool (WQ n 0 2))∧w=w':=by
 cases h:WQ n 0 2
 ·rw [Uu] at h
  by_cases h1:0≤n
  ·have h2:decide (n<3)=false:=by simp;omega
   clear h
   go_enter Tryz.func95,Tryz.ntmps95
   go_wp2
   go_ret
   exact ⟨rfl,rfl⟩
  clear h
  go_enter Tryz.func95,Tryz.ntmps95
  go_wp2
  go_ret
  exact ⟨rfl,rfl⟩
 rw [Xs] at h
 obtain ⟨h1,h3⟩:=h
 have h2:decide (n<3)=true:=by simp;omega
 clear h3
 go_enter Tryz.func95,Tryz.ntmps95
 go_wp2
 go_ret
 exact ⟨by simp_all,rfl⟩

theorem MV (n:Int) (w:World):Calls Tryz.prog 96 #[.int .i64 n] w fun e w'=>e=.returned (.bool (WQ n 0 6))∧w=w':=by
 cases h:WQ n 0 6
 ·rw [Uu] at h
  by_cases h1:0≤n
  ·have h2:decide (n≤6)=false:=by simp;omega
   clear h
   go_enter Tryz.func96,Tryz.ntmps96
   go_wp2
   go_ret
   exact ⟨rfl,rfl⟩
  clear h
  go_enter Tryz.func96,Tryz.ntmps96
  go_wp2
  go_ret
  exact ⟨rfl,rfl⟩
 rw [Xs] at h
 obtain ⟨h1,h3⟩:=h
 have h2:decide (n≤6)=true:=by simp;omega
 clear h3
 go_enter Tryz.func96,Tryz.ntmps96
 go_wp2
 go_ret
 exact ⟨by simp_all,rfl⟩

def Ja (k pc:Int):Value:=if WQ k 0 2=true∧WQ pc 0 6=true then .tuple #[.int .i64 (8*k+pc),.int .i64 0] else .tuple #[.int .i64 0,.int .i64 4]
theorem TF {k pc:Int} (h1:WQ k 0 2=true) (h2:WQ pc 0 6=true):Ja k pc=.tuple #[.int .i64 (8*k+pc),.int .i64 0]:=if_pos ⟨h1,h2⟩
theorem Hs {k pc:Int} (h1:WQ k 0 2=false):Ja k pc=.tuple #[.int .i64 0,.int .i64 4]:=if_neg (by rw [h1];simp)
theorem Ht {k pc:Int} (h2:WQ pc 0 6=false):Ja k pc=.tuple #[.int .i64 0,.int .i64 4]:=if_neg (by rw [h2];simp)

theorem VS (k pc:Int) (w:World):Calls Tryz.prog 60 #[.int .i64 k,.int .i64 pc] w fun e w'=>e=.returned (Ja k pc)∧w=w':=by
 have kT:=P2 k
 have kP:=MV pc
 cases hA:WQ k 0 2
 ·rw [Hs hA]
  rw [hA] at kT
  clear hA
  go_enter Tryz.func60,Tryz.ntmps60
  go_wp2_with fail
  refine (kT _).mono ?_
  rintro e w1 ⟨rfl,rfl⟩
  go_wp2
  go_ret2
  exact ⟨rfl,rfl⟩
 cases hB:WQ pc 0 6
 ·rw [Ht hB]
  rw [hA] at kT
  rw [hB] at kP
  clear hA hB
  go_enter Tryz.func60,Tryz.ntmps60
  go_wp2_with fail
  refine (kT _).mono ?_
  rintro e w1 ⟨rfl,rfl⟩
  go_wp2_with fail
  refine (kP _).mono ?_
  rintro e w1 ⟨rfl,rfl⟩
  go_wp2
  go_ret2
  exact ⟨rfl,rfl⟩
 rw [TF hA hB]
 rw [hA] at kT
 rw [hB] at kP
 obtain ⟨a1,a2⟩:=Xs.1 hA
 obtain ⟨b1,b2⟩:=Xs.1 hB
 clear hA hB
 have q1:IntKind.i64.wrap (8*k)=8*k:=by rw [IntKind.wrap_i64];omega
 have q2:IntKind.i64.wrap (8*k+pc)=8*k+pc:=by rw [IntKind.wrap_i64];omega
 go_enter Tryz.func60,Tryz.ntmps60
 go_wp2_with fail
 refine (kT _).mono ?_
 rintro e w1 ⟨rfl,rfl⟩
 go_wp2_with fail
 refine (kP _).mono ?_
 rintro e w1 ⟨rfl,rfl⟩
 go_wp2
 go_ret2
 exact ⟨rfl,rfl⟩

theorem Ks (k pc:Int) (w:World) (h1:WQ k 0 2=true) (h2:WQ pc 0 6=true):Calls Tryz.prog 151 #[.int .i64 k,.int .i64 pc] w fun e w'=>e=.returned (.int .i64 (8*k+pc))∧w=w':=by
 obtain ⟨a1,a2⟩:=Xs.1 h1
 obtain ⟨b1,b2⟩:=Xs.1 h2
 clear h1 h2
 have q1:IntKind.i64.wrap (8*k)=8*k:=by rw [IntKind.wrap_i64];omega
 have q2:IntKind.i64.wrap (8*k+pc)=8*k+pc:=by rw [IntKind.wrap_i64];omega
 go_enter Tryz.func151,Tryz.ntmps151
 go_wp2
 go_ret
 exact ⟨rfl,rfl⟩

def Wj (n:Int):Bool:=decide (0≤n∧n≤22∧n % 8≤6)
def atV (n:Int):Value:=if Wj n=true then .tuple #[.int .i64 (n / 8),.int .i64 (n % 8),.int .i64 0] else .tuple #[.int .i64 0,.int .i64 0,.int .i64 4]
theorem K0 {n:Int} (h:Wj n=true):atV n=.tuple #[.int .i64 (n / 8),.int .i64 (n % 8),.int .i64 0]:=if_pos h
theorem L1 {n:Int} (h:Wj n=false):atV n=.tuple #[.int .i64 0,.int .i64 0,.int .i64 4]:=if_neg (by rw [h];simp)

theorem Br (n:Int) (h:-9223372036854775808≤n∧n≤9223372036854775807):∃ q r:Int,n.tdiv 8=q∧n.tmod 8=r∧IntKind.i64.wrap q=q∧IntKind.i64.wrap r=r∧Wj n=(WQ q 0 2 && WQ r 0 6)∧(Wj n=true→q=n / 8∧r=n % 8)∧(0≤n→q=n / 8∧r=n % 8):=by
 rcases Int.lt_or_le n 0 with hn | hn
 ·have e1:n.tdiv 8=- ((-n) / 8):=by
   have:n=- (- n):=by omega
   rw [this,Int.neg_tdiv,Int.tdiv_eq_ediv_of_nonneg (by omega)];omega
  have e2:n.tmod 8=- ((-n) % 8):=by
   have:n=- (- n):=by omega
   rw [this,Int.neg_tmod,Int.tmod_eq_emod_of_nonneg (by omega)];omega
  refine ⟨_,_,e1,e2,by rw [IntKind.wrap_i64];omega,by rw [IntKind.wrap_i64];omega,?_,?_,by omega⟩
  ·have hz:Wj n=false:=by simp only [Wj,decide_eq_false_iff_not];omega
   rw [hz]
   symm
   rw [Bool.and_eq_false_iff]
   rcases Int.lt_or_le ((-n) / 8) 1 with h1 | h1
   ·right;rw [Uu];omega
   left;rw [Uu];omega
  intro hz
  simp only [Wj,decide_eq_true_eq] at hz
  omega
 have e1:n.tdiv 8=n / 8:=Int.tdiv_eq_ediv_of_nonneg hn
 have e2:n.tmod 8=n % 8:=Int.tmod_eq_emod_of_nonneg hn
 refine ⟨_,_,e1,e2,by rw [IntKind.wrap_i64];omega,by rw [IntKind.wrap_i64];omega,?_,fun _=>⟨rfl,rfl⟩,fun _=>⟨rfl,rfl⟩⟩
 rw [Bool.eq_iff_iff,Bool.and_eq_true,Xs,Xs]
 simp only [Wj,decide_eq_true_eq]
 omega

theorem Pr (n:Int) (hn:-9223372036854775808≤n∧n≤9223372036854775807) (w:World):Calls Tryz.prog 99 #[.int .i64 n] w fun e w'=>e=.returned (atV n)∧w=w':=by
 obtain ⟨q,r,e1,e2,u1,u2,hOk,hYes,_⟩:=Br n hn
 clear hn
 have kT:=P2 q
 have kP:=MV r
 cases hA:WQ q 0 2
 ·rw [L1 (by rw [hOk,hA];rfl)]
  rw [hA] at kT
  clear hA hOk hYes
  go_enter Tryz.func99,Tryz.ntmps99
  go_wp2_with fail
  refine (kT _).mono ?_
  rintro e w1 ⟨rfl,rfl⟩
  go_wp2
  go_ret3
  exact ⟨rfl,rfl⟩
 cases hB:WQ r 0 6
 ·rw [L1 (by rw [hOk,hA,hB];rfl)]
  rw [hA] at kT
  rw [hB] at kP
  clear hA hB hOk hYes
  go_enter Tryz.func99,Tryz.ntmps99
  go_wp2_with fail
  refine (kT _).mono ?_
  rintro e w1 ⟨rfl,rfl⟩
  go_wp2_with fail
  refine (kP _).mono ?_
  rintro e w1 ⟨rfl,rfl⟩
  go_wp2
  go_ret3
  exact ⟨rfl,rfl⟩
 have hz:Wj n=true:=by rw [hOk,hA,hB];rfl
 rw [K0 hz]
 obtain ⟨f1,f2⟩:=hYes hz
 rw [hA] at kT
 rw [hB] at kP
 rw [← f1,← f2]
 clear hA hB hOk hYes hz f1 f2
 go_enter Tryz.func99,Tryz.ntmps99
 go_wp2_with fail
 refine (kT _).mono ?_
 rintro e w1 ⟨rfl,rfl⟩
 go_wp2_with fail
 refine (kP _).mono ?_
 rintro e w1 ⟨rfl,rfl⟩
 go_wp2
 go_ret3
 exact ⟨rfl,rfl⟩

theorem Hr (n:Int) (hn:-9223372036854775808≤n∧n≤9223372036854775807) (w:World):Calls Tryz.prog 62 #[.int .i64 n] w fun e w'=>e=.returned (.bool (Wj n))∧w=w':=by
 have kO:=Pr n hn
 clear hn
 cases hA:Wj n
 ·rw [L1 hA] at kO
  clear hA
  go_enter Tryz.func62,Tryz.ntmps62
  go_wp2_with fail
  refine (kO _).mono ?_
  rintro e w1 ⟨rfl,rfl⟩
  go_wp2
  go_ret
  exact ⟨rfl,rfl⟩
 rw [K0 hA] at kO
 clear hA
 go_enter Tryz.func62,Tryz.ntmps62
 go_wp2_with fail
 refine (kO _).mono ?_
 rintro e w1 ⟨rfl,rfl⟩
 go_wp2
 go_ret
 exact ⟨rfl,rfl⟩

theorem CW {n:Int} (h:(Lit.int .i64 n).wf=true):-9223372036854775808≤n∧n≤9223372036854775807:=by
 have h1:IntKind.i64.min=-9223372036854775808:=by decide
 have h2:IntKind.i64.max=9223372036854775807:=by decide
 simp [Lit.wf,h1,h2] at h
 omega


def Zx (m:V4):List Int:=[m.1.getD 0 0,8+m.1.getD 1 0,16+m.1.getD 2 0]
theorem look_ok {m:V4} (hs:Zc m=true):∀ z ∈ Zx m,Wj z=true:=by
 obtain ⟨h,_⟩:=Ym hs
 obtain ⟨hl,_⟩:=ZS hs
 have hp:∀ k,k<3→0≤m.1.getD k 0∧m.1.getD k 0≤6:=fun k hk=>h _ (by simp [List.getD,List.getElem?_eq_getElem (show k<m.1.length by omega)])
 have p0:=hp 0 (by omega)
 have p1:=hp 1 (by omega)
 have p2:=hp 2 (by omega)
 intro z hz
 simp only [Zx,List.mem_cons,List.not_mem_nil,or_false] at hz
 simp only [Wj,decide_eq_true_eq]
 rcases hz with rfl | rfl | rfl<;>omega
theorem Mi {m:V4} (hs:Zc m=true) {k:Nat} (hk:k<3):WQ (m.1.getD k 0) 0 6=true:=by
 obtain ⟨h,_⟩:=Ym hs
 obtain ⟨hl,_⟩:=ZS hs
 exact Xs.2 (h _ (by simp [List.getD,List.getElem?_eq_getElem (show k<m.1.length by omega)]))
def Jd (p0 p1 p2:Int) (k:Nat):List Int:=[p0,8+p1,16+p2].take k
theorem Ge (g o:Nat) (a0 a1 a2:Option Addr) (n0 d0 n1 d1 n2 d2:Nat) (p0 x0 y0 p1 x1 y1 p2 x2 y2:Int) (w:World) (h:w.rangeAt g o [.slice a0 n0 d0,.int .i64 p0,.int .i64 x0,.int .i64 y0,.slice a1 n1 d1,.int .i64 p1,.int .i64 x1,.int .i64 y1,.slice a2 n2 d2,.int .i64 p2,.int .i64 x2,.int .i64 y2]) (f0:WQ p0 0 6=true) (f1:WQ p1 0 6=true) (f2:WQ p2 0 6=true) :
  Calls Tryz.prog 132 #[.pointer (some ⟨g,o,none⟩)] w fun e w'=>S9 e w' w.heap.size [p0,8+p1,16+p2]∧Below w.heap.size w w':=by
 obtain ⟨i0,hi,hz0,hz1,hz2⟩:=info_parts XQ
 have k0:=@Fw
 have k1:=@Fx
 have k2:=@Fy
 go_enter Tryz.func132,Tryz.ntmps132
 go_wp2_with (refine wpList_load_mid rfl 95 _ rfl g o rfl [.slice a0 n0 d0,.int .i64 p0,.int .i64 x0,.int .i64 y0,.slice a1 n1 d1,.int .i64 p1,.int .i64 x1,.int .i64 y1,.slice a2 n2 d2,.int .i64 p2,.int .i64 x2,.int .i64 y2] _ h Tryz.underlying95 rfl (by kernel_rfl) ?_)
 clear h
 go_loopw [3,12] (fun so si wr=>∃ (k:Nat) (v:Value),v=so∧k≤3∧si=.int .i64 k∧wr.ownsRow w.heap.size 3 1 v k ((Jd p0 p1 p2 k).map (Value.int .i64))∧Below w.heap.size w wr) (fun _ si _=>3 - (Go.RowKit.intOf si).toNat)
 case atStart=>exact ⟨0,_,rfl,by omega,rfl,World.ownsRow_nil _ _ _ _,Below.refl _ _⟩
 case round =>
  obtain ⟨k,so,rfl,hk,rfl,q,bw⟩:=hrel
  have hk4:k=0∨k=1∨k=2∨k=3:=by omega
  rcases hk4 with rfl | rfl | rfl | rfl
  ·clear k1 k2
   have pN:=Blk.new wr 94 [.slice none 0 0,.int .i64 0,.int .i64 0,.int .i64 0]
   have bN:Below wr.heap.size wr (wr.alloc (.cells #[.slice none 0 0,.int .i64 0,.int .i64 0,.int .i64 0] 94)):=by go_grown
   have kI:=VS 0 p0
   rw [TF (by decide) f0,show 8*(0:Int)+p0=p0 by omega] at kI
   go_wp2_with (refine Ze rfl 94 _ _ rfl wr.heap.size [.slice a0 n0 d0,.int .i64 p0,.int .i64 x0,.int .i64 y0] rfl rfl pN (by kernel_rfl) rfl rfl ?_)
   intro w2 p2x g2
   have pM:=p2x.out
   have b2:Below wr.heap.size wr w2:=bN.grown g2 bN.size (fun k e=>by cases e;exact Nat.le_refl _)
   have q2:=Z1 q b2
   have bw2:=Zo bw b2
   have hc1:w2.cell? ⟨wr.heap.size,1,none⟩=some (.int .i64 p0):=by simpa using pM.cell 1
   have hsz:=bw2.size
   clear p2x g2 bN pN b2 q pM bw
   generalize wr.heap.size=G at *
   go_wp2_with fail
   refine (kI _).mono ?_
   rintro e w3 ⟨rfl,rfl⟩
   clear kI
   go_wp2_with (at_builtin;refine wpList_append_own _ rfl _ _ 36 rfl w.heap.size 3 i0 (.int .i64 0) 1 8 Tryz.underlying36 hi hz0 hz1 hz2 rfl (by decide) _ _ _ rfl (q2.alloc _) ⟨w2.heap.size,0,none⟩ 1 1 [.int .i64 p0] rfl rfl (cell_one_new _ _ _) (by simp [Value.oneCell']) ?c3 ?c4 ?c5 ?_)
   case c3=>unfold maxLen;omega
   case c4=>omega
   case c5=>simp;omega
   intro v' wn hown' hgrow _
   have bn:Below w.heap.size w wn:=(bw2.alloc hsz _).grown hgrow (by simp;omega) (fun k hk=>(q2.lt k hk).1)
   clear hgrow q2 bw2 hc1
   go_wp2
   go_roundw
   case rel =>
    have R9:wn.ownsRow w.heap.size 3 1 v' 1 ((Jd p0 p1 p2 1).map (Value.int .i64)):=by exact hown'
    first | exact ⟨1,_,rfl,by omega,by go_num,R9,bn⟩ | exact ⟨_,_,_,_,_,_,_,_,_,_,_,_,_,_,_,_,_,_,_,_,_,⟨1,_,rfl,by omega,by go_num,R9,bn⟩,rfl⟩
   case measure=>first | (simp [Go.RowKit.intOf];done) | decide
  ·clear k0 k2
   have pN:=Blk.new wr 94 [.slice none 0 0,.int .i64 0,.int .i64 0,.int .i64 0]
   have bN:Below wr.heap.size wr (wr.alloc (.cells #[.slice none 0 0,.int .i64 0,.int .i64 0,.int .i64 0] 94)):=by go_grown
   have kI:=VS 1 p1
   rw [TF (by decide) f1,show 8*(1:Int)+p1=8+p1 by omega] at kI
   go_wp2_with (refine Ze rfl 94 _ _ rfl wr.heap.size [.slice a1 n1 d1,.int .i64 p1,.int .i64 x1,.int .i64 y1] rfl rfl pN (by kernel_rfl) rfl rfl ?_)
   intro w2 p2x g2
   have pM:=p2x.out
   have b2:Below wr.heap.size wr w2:=bN.grown g2 bN.size (fun k e=>by cases e;exact Nat.le_refl _)
   have q2:=Z1 q b2
   have bw2:=Zo bw b2
   have hc1:w2.cell? ⟨wr.heap.size,1,none⟩=some (.int .i64 p1):=by simpa using pM.cell 1
   have hsz:=bw2.size
   clear p2x g2 bN pN b2 q pM bw
   generalize wr.heap.size=G at *
   go_wp2_with fail
   refine (kI _).mono ?_
   rintro e w3 ⟨rfl,rfl⟩
   clear kI
   generalize hzz:8+p1=zz at *
   go_wp2_with (at_builtin;refine wpList_append_own _ rfl _ _ 36 rfl w.heap.size 3 i0 (.int .i64 0) 1 8 Tryz.underlying36 hi hz0 hz1 hz2 rfl (by decide) _ _ _ rfl (q2.alloc _) ⟨w2.heap.size,0,none⟩ 1 1 [.int .i64 zz] rfl rfl (cell_one_new _ _ _) (by simp [Value.oneCell']) ?c3 ?c4 ?c5 ?_)
   case c3=>unfold maxLen;omega
   case c4=>omega
   case c5=>simp;omega
   intro v' wn hown' hgrow _
   have bn:Below w.heap.size w wn:=(bw2.alloc hsz _).grown hgrow (by simp;omega) (fun k hk=>(q2.lt k hk).1)
   clear hgrow q2 bw2 hc1
   go_wp2
   go_roundw
   case rel =>
    have R9:wn.ownsRow w.heap.size 3 1 v' 2 ((Jd p0 p1 p2 2).map (Value.int .i64)):=by subst hzz;exact hown'
    first | exact ⟨2,_,rfl,by omega,by go_num,R9,bn⟩ | exact ⟨_,_,_,_,_,_,_,_,_,_,_,_,_,_,_,_,_,_,_,_,_,⟨2,_,rfl,by omega,by go_num,R9,bn⟩,rfl⟩
   case measure=>first | (simp [Go.RowKit.intOf];done) | decide
  ·clear k0 k1
   have pN:=Blk.new wr 94 [.slice none 0 0,.int .i64 0,.int .i64 0,.int .i64 0]
   have bN:Below wr.heap.size wr (wr.alloc (.cells #[.slice none 0 0,.int .i64 0,.int .i64 0,.int .i64 0] 94)):=by go_grown
   have kI:=VS 2 p2
   rw [TF (by decide) f2,show 8*(2:Int)+p2=16+p2 by omega] at kI
   go_wp2_with (refine Ze rfl 94 _ _ rfl wr.heap.size [.slice a2 n2 d2,.int .i64 p2,.int .i64 x2,.int .i64 y2] rfl rfl pN (by kernel_rfl) rfl rfl ?_)
   intro w2 p2x g2
   have pM:=p2x.out
   have b2:Below wr.heap.size wr w2:=bN.grown g2 bN.size (fun k e=>by cases e;exact Nat.le_refl _)
   have q2:=Z1 q b2
   have bw2:=Zo bw b2
   have hc1:w2.cell? ⟨wr.heap.size,1,none⟩=some (.int .i64 p2):=by simpa using pM.cell 1
   have hsz:=bw2.size
   clear p2x g2 bN pN b2 q pM bw
   generalize wr.heap.size=G at *
   go_wp2_with fail
   refine (kI _).mono ?_
   rintro e w3 ⟨rfl,rfl⟩
   clear kI
   generalize hzz:16+p2=zz at *
   go_wp2_with (at_builtin;refine wpList_append_own _ rfl _ _ 36 rfl w.heap.size 3 i0 (.int .i64 0) 1 8 Tryz.underlying36 hi hz0 hz1 hz2 rfl (by decide) _ _ _ rfl (q2.alloc _) ⟨w2.heap.size,0,none⟩ 1 1 [.int .i64 zz] rfl rfl (cell_one_new _ _ _) (by simp [Value.oneCell']) ?c3 ?c4 ?c5 ?_)
   case c3=>unfold maxLen;omega
   case c4=>omega
   case c5=>simp;omega
   intro v' wn hown' hgrow _
   have bn:Below w.heap.size w wn:=(bw2.alloc hsz _).grown hgrow (by simp;omega) (fun k hk=>(q2.lt k hk).1)
   clear hgrow q2 bw2 hc1
   go_wp2
   go_roundw
   case rel =>
    have R9:wn.ownsRow w.heap.size 3 1 v' 3 ((Jd p0 p1 p2 3).map (Value.int .i64)):=by subst hzz;exact hown'
    first | exact ⟨3,_,rfl,by omega,by go_num,R9,bn⟩ | exact ⟨_,_,_,_,_,_,_,_,_,_,_,_,_,_,_,_,_,_,_,_,_,⟨3,_,rfl,by omega,by go_num,R9,bn⟩,rfl⟩
   case measure=>first | (simp [Go.RowKit.intOf];done) | decide
  obtain ⟨ga,gc,rfl⟩:=RR q (by omega)
  clear k0 k1 k2
  go_wp2
  go_ret
  exact ⟨⟨_,rfl,q⟩,bw⟩
theorem FH (g o:Nat) (cs:Sl × Sl × Sl) (m:V4) (w:World) (h:w.rangeAt g o (Zi cs.1.val cs.2.1.val cs.2.2.val m)) (hs:Zc m=true) :
  Calls Tryz.prog 132 #[.pointer (some ⟨g,o,none⟩)] w fun e w'=>S9 e w' w.heap.size (Zx m)∧Below w.heap.size w w':=by
 obtain ⟨⟨a0,n0,d0⟩,⟨a1,n1,d1⟩,⟨a2,n2,d2⟩⟩:=cs
 refine Ge g o a0 a1 a2 n0 d0 n1 d1 n2 d2 (m.1.getD 0 0) (m.2.2.2.getD 0 0) (m.2.2.2.getD 1 0) (m.1.getD 1 0) (m.2.2.2.getD 2 0) (m.2.2.2.getD 3 0) (m.1.getD 2 0) (m.2.2.2.getD 4 0) (m.2.2.2.getD 5 0) w (fun j v hj=>?_) (Mi hs (by omega)) (Mi hs (by omega)) (Mi hs (by omega))
 refine h j v ?_
 have hl:=(List.getElem?_eq_some_iff.1 hj).1
 simp only [List.length_cons,List.length_nil] at hl
 match j,hl with
 | 0,_=>exact hj
 | 1,_=>exact hj
 | 2,_=>exact hj
 | 3,_=>exact hj
 | 4,_=>exact hj
 | 5,_=>exact hj
 | 6,_=>exact hj
 | 7,_=>exact hj
 | 8,_=>exact hj
 | 9,_=>exact hj
 | 10,_=>exact hj
 | 11,_=>exact hj


def Yt:List Int→Int→List Int
 | [],n=>[n]
 | x::xs,n=>if x<n then x::Yt xs n else if x=n then x::xs else n::x::xs
def Yx (xs:List Int):List Int:=xs.foldl Yt []
theorem Uk:∀ (xs:List Int) (n y:Int),y ∈ Yt xs n↔y=n∨y ∈ xs
 | [],n,y=>by simp [Yt]
 | x::xs,n,y=>by
  unfold Yt
  split
  ·simp only [List.mem_cons,Uk xs n y]
   constructor
   ·rintro (h | h | h)
    ·exact .inr (.inl h)
    ·exact .inl h
    exact .inr (.inr h)
   rintro (h | h | h)
   ·exact .inr (.inl h)
   ·exact .inl h
   exact .inr (.inr h)
  split
  ·rename_i h
   subst h
   simp
  simp
theorem QY:∀ (xs:List Int) (n:Int),xs.Pairwise (· < ·)→(Yt xs n).Pairwise (· < ·)
 | [],n,_=>by simp [Yt]
 | x::xs,n,h=>by
  obtain ⟨h1,h2⟩:=List.pairwise_cons.1 h
  unfold Yt
  split
  ·rename_i hx
   refine List.pairwise_cons.2 ⟨fun y hy=>?_,QY xs n h2⟩
   rcases (Uk xs n y).1 hy with rfl | hy
   ·exact hx
   exact h1 y hy
  split
  ·exact h
  refine List.pairwise_cons.2 ⟨fun y hy=>?_,h⟩
  rcases List.mem_cons.1 hy with rfl | hy
  ·omega
  have:=h1 y hy
  omega
theorem T3:∀ (xs acc:List Int),acc.Pairwise (· < ·)→(xs.foldl Yt acc).Pairwise (· < ·)∧∀ y,y ∈ xs.foldl Yt acc↔y ∈ acc∨y ∈ xs
 | [],acc,h=>⟨h,fun y=>by simp⟩
 | x::xs,acc,h=>by
  obtain ⟨h1,h2⟩:=T3 xs (Yt acc x) (QY acc x h)
  refine ⟨h1,fun y=>?_⟩
  rw [List.foldl_cons,h2,Uk,List.mem_cons]
  constructor
  ·rintro ((h | h) | h)
   ·exact .inr (.inl h)
   ·exact .inl h
   exact .inr (.inr h)
  rintro (h | h | h)
  ·exact .inl (.inr h)
  ·exact .inl (.inl h)
  exact .inr h
theorem YQ (xs:List Int):(Yx xs).Pairwise (· < ·):=(T3 xs [] List.Pairwise.nil).1
theorem XV (xs:List Int) (y:Int):y ∈ Yx xs↔y ∈ xs:=by
 have:=(T3 xs [] List.Pairwise.nil).2 y
 simpa [Yx] using this
theorem VR {xs:List Int} (h:xs.Pairwise (· < ·)):xs.Nodup:=h.imp (fun h e=>by subst e;exact absurd h (by omega))
theorem Q5 {xs ys:List Int} (h:xs.Pairwise (· < ·)) (h':ys.Pairwise (· < ·)) (hm:∀ y,y ∈ xs↔y ∈ ys):xs=ys:=by
 have hp:xs.Perm ys:=(List.perm_ext_iff_of_nodup (VR h) (VR h')).2 hm
 exact hp.eq_of_pairwise (le:=fun a b=>a<b) (fun a b _ _ h1 h2=>absurd h1 (by omega)) h h'
theorem FV (xs:List Int) (n:Int):(Yt xs n).length≤xs.length+1:=by
 induction xs with
 | nil=>simp [Yt]
 | cons x xs ih =>
  unfold Yt
  split
  ·simp;omega
  split<;>simp
theorem Wr:∀ (xs acc:List Int),(xs.foldl Yt acc).length≤acc.length+xs.length
 | [],acc=>by simp
 | x::xs,acc=>by
  have:=Wr xs (Yt acc x)
  have:=FV acc x
  simp
  omega
theorem FN (xs:List Int):(Yx xs).length≤xs.length:=by simpa [Yx] using Wr xs []
theorem Js:∀ (xs:List Int) (n:Int) (k:Nat),k≤xs.length→(∀ i,i<k→xs.getD i 0<n)→(k=xs.length∨¬ xs.getD k 0<n)→Yt xs n=if k<xs.length∧xs.getD k 0=n then xs else xs.take k++[n]++xs.drop k
 | [],n,k,hk,_,_=>by
  have:k=0:=by simpa using hk
  subst this
  simp [Yt]
 | x::xs,n,0,_,_,h=>by
  have hx:¬ x<n:=by simpa using h
  unfold Yt
  rw [if_neg hx]
  simp
 | x::xs,n,k+1,hk,hl,h=>by
  have hx:x<n:=by simpa using hl 0 (by omega)
  unfold Yt
  rw [if_pos hx]
  have ih:=Js xs n k (by simpa using hk) (fun i hi=>by simpa using hl (i+1) (by omega)) (by simpa using h)
  rw [ih]
  simp only [List.length_cons,Nat.add_lt_add_iff_right,List.getD_cons_succ,List.take_succ_cons,List.drop_succ_cons]
  split<;>simp


theorem N1 {rows:List (List I3)} (hp:Zf rows=true) {m:V4} (hs:Zc m=true):Xl (YJ rows m):=Tt hp _ _ _ (fun r hr=>by simp at hr;subst hr;exact hs)
theorem Qv (rows:List (List I3)) (m:V4):(YJ rows m)[0]?=some (m,0,0):=by
 have h:=SY (nxM rows) 2000 0 [(m,0,0)]
 obtain ⟨t,ht⟩:=h
 unfold YJ
 rw [← ht]
 rfl
theorem ML (rows:List (List I3)) (m:V4):((YJ rows m).map (·.1)).Nodup:=Sb _ _ _ (by simp)
theorem Kk (rows:List (List I3)) (m:V4):NK (nxM rows) (YJ rows m):=Ru _ _ _ (fun j r hj hr=>by
 have:=(List.getElem?_eq_some_iff.1 hr).1
 simp at this
 omega)
theorem N0 {rows:List (List I3)} {m:V4} (h:(YJ rows m).length≤2000):∀ r ∈ YJ rows m,∀ t ∈ nxM rows r.1,t.2 ∈ (YJ rows m).map (·.1):=
 Ts 2000 0 [(m,0,0)] (fun j r hj=>by omega) (by simp) (by rw [Nat.zero_add];exact h)
theorem PX {rows:List (List I3)} {m:V4} (C:V4→Prop) (h0:C m) (hC:∀ x,C x→∀ t ∈ nxM rows x,C t.2):∀ r ∈ YJ rows m,C r.1:=by
 have hh:=Qv rows m
 have hc:=Kk rows m
 have key:∀ (n j:Nat) (r:Zz V4),j≤n→(YJ rows m)[j]?=some r→C r.1:=by
  intro n
  induction n with
  | zero =>
   intro j r hj hr
   have:j=0:=by omega
   subst this
   rw [hh] at hr
   cases hr
   exact h0
  | succ n ih =>
   intro j r hj hr
   rcases Nat.eq_zero_or_pos j with rfl | hp
   ·rw [hh] at hr
    cases hr
    exact h0
   obtain ⟨h1,q,h2,h3⟩:=hc j r hp hr
   exact hC q.1 (ih _ q (by omega) h2) _ h3
 intro r hr
 obtain ⟨j,hj,e⟩:=List.getElem_of_mem hr
 exact key j j r (Nat.le_refl _) (by rw [List.getElem?_eq_getElem hj,e])
end Go.Proofs.YtgmhhegckcionaaGreatDoor
