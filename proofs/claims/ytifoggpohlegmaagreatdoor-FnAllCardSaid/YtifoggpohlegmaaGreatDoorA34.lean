/-
  Joined: RunS, SpGo.
-/
import Derived.Test.YtifoggpohlegmaaGreatDoorA33

namespace Go.Proofs.YtifoggpohlegmaaGreatDoor
set_option maxRecDepth 100000
set_option maxHeartbeats 16000000
open Go.RowKit
set_option linter.unusedVariables false
set_option linter.unusedSimpArgs false

theorem foundM_ok {rows:List (List I3)} {m:V4} {k:Int} (hp:progOk rows=true) (hs:shapeOk m=true) (hz:haltM rows m k=0):(∀ x ∈ foundM rows m k,okB x=true)∧(foundM rows m k).length≤2:=by
 have h1:=ownM_ok hp hs hz
 have h2:=ownM_len rows m k
 unfold foundM
 split
 ·refine ⟨fun x hx=>?_,?_⟩
  ·rw [mem_putB] at hx
   rcases hx with hx | hx
   ·exact h1 x hx
   ·subst hx;rfl
  ·have:=putB_len (ownM rows m k) (14,0,0)
   omega
 ·exact ⟨h1,by omega⟩
theorem mergeB_ok {xs ys:List I3} (h:∀ x ∈ xs,okB x=true) (k:∀ x ∈ ys,okB x=true):∀ x ∈ mergeB xs ys,okB x=true:=fun x hx=>by
 rw [mem_mergeB] at hx
 exact hx.elim (h x) (k x)

theorem instrs_rowS {w:World} {B cap:Nat} {a:Option Addr} {xs:List I3} (h:w.ownsRow B 64 3 (.slice a xs.length cap) xs.length (flat xs)) (hf:∀ x ∈ xs,I3.fits x):Instrs w a xs.length cap xs:=by
 obtain ⟨a',c',e,hI,_⟩:=bugs_sliceR h hf
 cases e
 exact hI
theorem ints_cellS {w:World} {a:Option Addr} {n c:Nat} {ks:List Int} (h:Ints .i64 w a n c ks) {i:Nat} (hi:i<n):∃ b off,a=some ⟨b,off,none⟩∧w.cell? ⟨b,off+i,none⟩=some (.int .i64 (ks.getD i 0))∧b<w.heap.size:=by
 obtain ⟨h1,h2,h3,h4⟩:=h
 rcases h4 with h4 | ⟨b,off,ha,hl,hc⟩
 ·omega
 ·exact ⟨b,off,ha,hc i hi,hl⟩


theorem info_move:(Tryz.prog.info? 192).map (fun i=>(i.zero,i.size,i.bytes))=some (some (.agg #[.int .i64 0,.int .i64 0,.int .i64 0,.int .i64 0]),4,32):=by kernel_rfl
theorem own_slice6 {w:World} {B e s n:Nat} {v:Value} {xs:List Value} (h:w.ownsRow B e s v n xs):∃ a k c,v=.slice a k c:=by
 rcases h.2 with ⟨h1,h2⟩ | ⟨gq,cq,cur,h1,_⟩
 ·exact ⟨none,0,0,h1⟩
 ·exact ⟨_,_,_,h1⟩
theorem onS_snoc (i:Nat) (S:List (Rec6 V4)) (ts:List (Int × V4)) (t:Int × V4):onS i S (ts++[t])=putS i (onS i S ts) t:=by simp [onS,List.foldl_append]
theorem onS_app (i:Nat) (S:List (Rec6 V4)) (ts us:List (Int × V4)):onS i S (ts++us)=onS i (onS i S ts) us:=by simp [onS,List.foldl_append]
theorem go_step {rows:List (List I3)} {F S:List (Rec6 V4)} {at9 j:Nat} {m:V4} {k:Int} (hk:(enabM rows m 3)[j]?=some k) (hF:onS at9 S (nxM rows m) <+: F) :
  onS at9 S ((nxM rows m).take (j+1))=putS at9 (onS at9 S ((nxM rows m).take j)) (k,(goM rows m k).1) ∧
  (mvsOf rows F m).take (j+1)=(mvsOf rows F m).take j++[((goM rows m k).2,k,m.1.getD k.toNat 0,(ixS (putS at9 (onS at9 S ((nxM rows m).take j)) (k,(goM rows m k).1)) (goM rows m k).1:Int))]:=by
 have e1:(nxM rows m).take (j+1)=(nxM rows m).take j++[(k,(goM rows m k).1)]:=by
  rw [List.take_add_one]
  unfold nxM
  rw [List.getElem?_map,hk]
  rfl
 have e2:onS at9 S ((nxM rows m).take (j+1))=putS at9 (onS at9 S ((nxM rows m).take j)) (k,(goM rows m k).1):=by rw [e1,onS_snoc]
 refine ⟨e2,?_⟩
 have hpre:putS at9 (onS at9 S ((nxM rows m).take j)) (k,(goM rows m k).1) <+: F:=by
  rw [← e2]
  refine List.IsPrefix.trans ?_ hF
  have e3:=onS_pre at9 ((nxM rows m).drop (j+1)) (onS at9 S ((nxM rows m).take (j+1)))
  rw [← onS_app,List.take_append_drop] at e3
  exact e3
 have hm:(goM rows m k).1 ∈ (putS at9 (onS at9 S ((nxM rows m).take j)) (k,(goM rows m k).1)).map (·.1):=putS_has at9 _ (k,(goM rows m k).1)
 rw [List.take_add_one]
 unfold mvsOf
 rw [List.getElem?_map,hk]
 simp only [Option.map_some,Option.toList_some]
 unfold mvOf
 rw [ixS_pre hpre hm]
theorem blk_range {w:World} {g t:Nat} {cs:List Value} (h:Blk w g t cs):w.rangeAt g 0 cs:=fun j v hj=>by rw [Nat.zero_add,h.cell];exact hj
theorem range_mach {w:World} {g o:Nat} {cs:Sl × Sl × Sl} {r:Rec6 V4} {mv:Value} (h:w.rangeAt g o (rcC cs r mv)):w.rangeAt g (o+1) (machCells cs.1.val cs.2.1.val cs.2.2.val r.1):=fun j v hj=>by
 have hl:j<18:=(List.getElem?_eq_some_iff.1 hj).1
 have:=h (j+1) v (by
  show (machCells cs.1.val cs.2.1.val cs.2.2.val r.1++_)[j]?=some v
  rw [List.getElem?_append_left hl]
  exact hj)
 rw [show o+1+j=o+(j+1) by omega]
 exact this
theorem SpcD.belowK {w0 w w':World} {X nb d:Nat} {vs:Value} {cs:Sl × Sl × Sl} {M:V4→List I4} {L:List (Rec6 V4 × Value)} (h:SpcD w w0.heap.size nb vs cs M L d) (k:KeptS w w' X nb vs) (hX:w0.heap.size≤X) (b0:Below w0.heap.size w0 w):Below w0.heap.size w0 w':=
 b0.trans (k.below hX h.low (fun j e=>(own_lt3 h.row e).1) b0.size)
theorem putL_pre (i:Nat) (L:List (Rec6 V4 × Value)) (k:Int) (z:V4):L <+: putL i L k z:=by
 unfold putL
 split
 ·exact List.prefix_rfl
 ·exact List.prefix_append _ _
theorem putL_len (i:Nat) (L:List (Rec6 V4 × Value)) (k:Int) (z:V4):(putL i L k z).length≤L.length+1:=by
 unfold putL
 split
 ·omega
 ·simp
def GoGot (e:Ending) (w0 w w':World) (X nb:Nat) (vs:Value) (cs:Sl × Sl × Sl) (rows:List (List I3)) (F:List (Rec6 V4)) (L:List (Rec6 V4 × Value)) (at9:Nat) (m:V4):Prop:=
 ∃ vs' L',e=.returned (.tuple #[])∧SpcD w' w0.heap.size nb vs' cs (mvsOf rows F) L' (at9+1)∧Blk w' X 106 [vs',.map (some nb)]∧L'.map (·.1)=onS at9 (L.map (·.1)) (nxM rows m)∧Shaped (L'.map (·.1))∧L'.length≤L.length+3∧KeptS w w' X nb vs∧MovedS w vs vs'
structure OnGo (w0 w wr:World) (X nb Y bL:Nat) (vs vs' v5:Value) (cs:Sl × Sl × Sl) (rows:List (List I3)) (F:List (Rec6 V4)) (L L':List (Rec6 V4 × Value)) (at9 j:Nat) (m:V4) (sl:Sl):Prop where
 sp:SpcD wr w0.heap.size nb vs' cs (mvsOf rows F) L' at9
 bx:Blk wr X 106 [vs',.map (some nb)]
 mc:Blk wr Y 89 (machCells cs.1.val cs.2.1.val cs.2.2.val m)
 ls:OwnI wr bL sl (enabM rows m 3)
 st:L'.map (·.1)=onS at9 (L.map (·.1)) ((nxM rows m).take j)
 sh:Shaped (L'.map (·.1))
 pr:L <+: L'
 ln:L'.length≤L.length+j
 mv:wr.ownsRow w0.heap.size 192 4 v5 ((mvsOf rows F m).take j).length (flat4 ((mvsOf rows F m).take j))
 kp:KeptS w wr X nb vs
 mo:MovedS w vs vs'
 bl:Below w0.heap.size w0 wr
 fr:∀ q,v5.ownBlock=some q→w.heap.size≤q
theorem SpcD.mvgrown {W W':World} {B B' nb d N n:Nat} {vs v:Value} {cs:Sl × Sl × Sl} {M:V4→List I4} {L L':List (Rec6 V4 × Value)} {xs:List Value} (h:SpcD W B nb vs cs M L' d) (pr:L <+: L') (hd:d≤L.length) (hold:∀ i r mv,i<d→L[i]?=some (r,mv)→∀ q,mv.ownBlock=some q→q<N) (mv:W.ownsRow B' 192 4 v n xs) (fr:∀ q,v.ownBlock=some q→N≤q) (gr:W.grownBy W' v.ownBlock):SpcD W' B nb vs cs M L' d:=by
 obtain ⟨D,hm,hn⟩:=h.map
 refine ⟨h.row.kept gr (Ap3.types h.row mv (by decide)).or,⟨D,hm.kept gr (fun e=>map_own hm mv e.symm),hn⟩,fun i r mv' hi hr=>?_,h.nil,h.low⟩
 refine (h.mvs i r mv' hi hr).kept gr ?_
 have hap:Ap3 mv' v:=fun q hq h2=>by
  obtain ⟨U,rfl⟩:=pr
  rw [List.getElem?_append_left (by omega)] at hr
  have:=hold i r mv' hi hr q hq
  have:=fr q h2
  omega
 exact hap.or
theorem KeptS.mvgrown {w W W':World} {X nb:Nat} {vs v:Value} (k:KeptS w W X nb vs) (gr:W.grownBy W' v.ownBlock) (fr:∀ q,v.ownBlock=some q→w.heap.size≤q):KeptS w W' X nb vs:=
 ⟨gr.os.trans k.os,gr.tape.trans k.tape,gr.output.trans k.output,Nat.le_trans k.size gr.size,fun j hj h1 h2 h3=>(gr.block j (Nat.lt_of_lt_of_le hj k.size) (fun e=>by have:=fr j e.symm;omega)).trans (k.block j hj h1 h2 h3)⟩
theorem OnGo.fin {w0 w wr:World} {X nb Y bL g c:Nat} {vs v5:Value} {cs:Sl × Sl × Sl} {rows:List (List I3)} {F:List (Rec6 V4)} {L L':List (Rec6 V4 × Value)} {at9 j:Nat} {r:Rec6 V4} {sl:Sl}
  (h:OnGo w0 w wr X nb Y bL vs (.slice (some ⟨g,0,none⟩) L'.length c) v5 cs rows F L L' at9 j r.1 sl) (hr:L[at9]?=some (r,.slice none 0 0)) (hj:(enabM rows r.1 3).length≤j) (hj3:j≤3) :
  GoGot (.returned (.tuple #[])) w0 w (wr.setCell ⟨g,at9*22+21,none⟩ v5) X nb vs cs rows F L at9 r.1:=by
 have hl':at9<L.length:=(List.getElem?_eq_some_iff.1 hr).1
 obtain ⟨U,rfl⟩:=h.pr
 have hr':(L++U)[at9]?=some (r,.slice none 0 0):=by rw [List.getElem?_append_left hl'];exact hr
 have gN:wr.grownBy (wr.setCell ⟨g,at9*22+21,none⟩ v5) (some g):=grown_cell wr g _ v5
 have hset:((L++U).set at9 (r,v5)).map (·.1)=(L++U).map (·.1):=by
  rw [List.map_set]
  apply List.ext_getElem?
  intro q
  rw [List.getElem?_set]
  split
  ·rename_i e
   subst e
   rw [List.getElem?_map,hr']
   simp
   omega
  ·rfl
 have hrow:=(h.sp.row.stored (at9*22+21) v5).1
 rw [rcF_set cs (L++U) at9 r (.slice none 0 0) v5 hr'] at hrow
 obtain ⟨D,hm,hN⟩:=h.sp.map
 have hfull:(mvsOf rows F r.1).take j=mvsOf rows F r.1:=List.take_of_length_le (by unfold mvsOf;simpa using hj)
 have hfn:(nxM rows r.1).take j=nxM rows r.1:=List.take_of_length_le (by unfold nxM;simpa using hj)
 refine ⟨_,(L++U).set at9 (r,v5),rfl,⟨by simpa using hrow,⟨D,?_,?_⟩,?_,?_,h.sp.low⟩,?_,?_,?_,?_,?_,h.mo⟩
 ·have:=hm.kept gN (fun e=>map_own hm h.sp.row (by cases e;rfl))
  simpa using this
 ·rw [hset];exact hN
 ·intro q r' mv hq hrq
  by_cases e:q=at9
  ·subst e
   rw [List.getElem?_set_self (by simp;omega)] at hrq
   cases hrq
   have hmv:=h.mv
   rw [hfull] at hmv
   exact hmv.kept gN (Ap3.types hmv h.sp.row (by decide)).or
  ·rw [List.getElem?_set_ne (Ne.symm e)] at hrq
   have hmv:=h.sp.mvs q r' mv (by omega) hrq
   exact hmv.kept gN (Ap3.types hmv h.sp.row (by decide)).or
 ·intro q r' mv hq hrq
  rw [List.getElem?_set_ne (by omega)] at hrq
  exact h.sp.nil q r' mv (by omega) hrq
 ·exact h.bx.kept gN (own_ne_blk9 h.sp.row h.bx (by decide))
 ·rw [hset,h.st,hfn]
 ·rw [hset];exact h.sh
 ·have:=h.ln;simp at this ⊢;omega
 ·have k2:KeptS wr (wr.setCell ⟨g,at9*22+21,none⟩ v5) X nb (.slice (some ⟨g,0,none⟩) (L++U).length c):=⟨gN.os,gN.tape,gN.output,gN.size,fun q hq _ _ h3=>gN.block q hq (fun e=>h3 (by rw [e];rfl))⟩
  exact h.kp.trans h.mo k2

theorem goOn_is {w0 w:World} {X nb at9:Nat} {vs:Value} {cs:Sl × Sl × Sl} {rows:List (List I3)} {F:List (Rec6 V4)} {L:List (Rec6 V4 × Value)} {r:Rec6 V4} (hS:SpcD w w0.heap.size nb vs cs (mvsOf rows F) L at9) (hX:Blk w X 106 [vs,.map (some nb)]) (hBX:w0.heap.size≤X) (b0:Below w0.heap.size w0 w) (hr:L[at9]?=some (r,.slice none 0 0)) (hsh:Shaped (L.map (·.1))) (hp:progOk rows=true) (hV:VmShape w0) (hI:∀ k,k<3→Instrs w0 (slK cs k).1 (slK cs k).2.1 (slK cs k).2.2 (codeM rows k)) (hF:onS at9 (L.map (·.1)) (nxM rows r.1) <+: F) (hl:L.length≤90000) :
  Calls Tryz.prog 129 #[.pointer (some ⟨X,0,none⟩),.int .i64 at9] w fun e w'=>GoGot e w0 w w' X nb vs cs rows F L at9 r.1:=by
 obtain ⟨i0,hi9,hz0,hz1,hz2⟩:=info_parts info_move
 have hla:at9<L.length:=(List.getElem?_eq_some_iff.1 hr).1
 have hs:shapeOk r.1=true:=hsh r (List.mem_map.2 ⟨_,List.mem_of_getElem? hr,rfl⟩)
 have HR:Hid (L[at9]?=some (r,.slice none 0 0)):=hr
 obtain ⟨g,c,rfl,hg,hrg⟩:=hS.at9 hr
 have hrm:=range_mach hrg
 have cX0:w.cell? ⟨X,0,none⟩=some (.slice (some ⟨g,0,none⟩) L.length c):=by simpa using hX.cell 0
 obtain ⟨m,hm⟩:∃ m,m=r.1:=⟨_,rfl⟩
 have hlt:(at9:Int)<(L.length:Int):=by omega
 have ha0:(0:Int)≤(at9:Int):=by omega
 have HF:Hid (onS at9 (L.map (·.1)) (nxM rows r.1) <+: F):=hF
 have pN:=Blk.new w 89 [.slice none 0 0,.int .i64 0,.int .i64 0,.int .i64 0,.slice none 0 0,.int .i64 0,.int .i64 0,.int .i64 0,.slice none 0 0,.int .i64 0,.int .i64 0,.int .i64 0,.int .i64 0,.int .i64 0,.int .i64 0,.int .i64 0,.int .i64 0,.int .i64 0]
 have hbN:Below w.heap.size w (w.alloc (.cells #[.slice none 0 0,.int .i64 0,.int .i64 0,.int .i64 0,.slice none 0 0,.int .i64 0,.int .i64 0,.int .i64 0,.slice none 0 0,.int .i64 0,.int .i64 0,.int .i64 0,.int .i64 0,.int .i64 0,.int .i64 0,.int .i64 0,.int .i64 0,.int .i64 0] 89)):=by go_grown
 clear hF hr hrg hg
 go_enter Tryz.func129,Tryz.ntmps129
 go_wp2_with (first | refine wpList_load_mid rfl 89 _ rfl g (at9*22+1) rfl (machCells cs.1.val cs.2.1.val cs.2.2.val r.1) _ hrm Tryz.underlying89 rfl (by kernel_rfl) ?_ | refine wpList_store_blk rfl 89 _ _ rfl w.heap.size (machCells cs.1.val cs.2.1.val cs.2.2.val r.1) rfl rfl pN (by kernel_rfl) rfl rfl ?_)
 intro w1 p1 g1
 have pY:=p1.out
 have b1:Below w.heap.size w w1:=hbN.grown g1 hbN.size (fun k e=>by cases e;exact Nat.le_refl _)
 clear p1 g1 hbN pN hrm cX0
 obtain ⟨Y,hY⟩:∃ Y,Y=w.heap.size:=⟨_,rfl⟩
 rw [← hY] at pY ⊢
 have hYw:w.heap.size≤Y:=by omega
 clear hY
 have b01:=bel_trans b0 b1
 have kE:=enabled_is Y cs rows r.1 w1 ⟨pY,fun k hk=>(hI k hk).below b01⟩ hp hs
 go_wp2_with fail
 refine kE.mono ?_
 rintro e w2 ⟨⟨⟨la,ln,lc⟩,rfl,hL⟩,hb⟩
 have hLn:(enabM rows r.1 3).length=ln:=by have:=hL.1;simpa using this
 have hn3:ln≤3:=by rw [← hLn];exact enabM_len rows r.1 3
 have b2:=bel_trans b1 hb
 have st:OnGo w0 w w2 X nb Y w1.heap.size (.slice (some ⟨g,0,none⟩) L.length c) (.slice (some ⟨g,0,none⟩) L.length c) (.slice none 0 0) cs rows F L L at9 0 r.1 (la,ln,lc):=
  ⟨hS.below b2,hX.below b2,pY.below hb,hL,rfl,hsh,List.prefix_rfl,by omega,World.ownsRow_nil _ _ _ _,KeptS.of_below X nb _ b2,MovedS.refl _ _,bel_trans b0 b2,fun q hq=>by simp [Value.ownBlock] at hq⟩
 have HOLD:Hid (∀ i r mv,i<at9→L[i]?=some (r,mv)→∀ q,mv.ownBlock=some q→q<w.heap.size):=fun i r mv h1 h2 q hq=>(own_lt3 (hS.mvs i r mv h1 h2) hq).2
 generalize w1.heap.size=bL at *
 clear hb kE hL b1 b2 b01 pY hX hS b0 hsh
 go_wp2_with fail
 go_loopw [5,20] (fun s5 s20 wr=>∃ (j:Nat) (vs':Value) (L':List (Rec6 V4 × Value)),s20=.int .i64 j∧j≤ln∧OnGo w0 w wr X nb Y bL (.slice (some ⟨g,0,none⟩) L.length c) vs' s5 cs rows F L L' at9 j r.1 (la,ln,lc)) (fun _ s20 _=>ln - (intOf s20).toNat)
 case atStart=>exact ⟨0,_,_,rfl,Nat.zero_le _,st⟩
 case round =>
  clear st
  obtain ⟨j,vs',L',rfl,hjn,hO⟩:=hrel
  obtain ⟨va,vn,vc,rfl⟩:=own_slice6 hO.mv
  by_cases hlt2:j<ln
  ·have hkj:(enabM rows r.1 3)[j]?=some ((enabM rows r.1 3).getD j 0):=by rw [List.getD,List.getElem?_eq_getElem (by omega)];rfl
   have hz:=enab_halt (List.mem_of_getElem? hkj)
   obtain ⟨h0k,h2k,hd,_⟩:=halt_can hz
   obtain ⟨k,hk⟩:∃ k:Nat,(enabM rows r.1 3).getD j 0=(k:Int):=⟨_,(Int.toNat_of_nonneg h0k).symm⟩
   obtain ⟨lb,lo,rfl,hc,hlb⟩:=ints_cellS hO.ls.ints (show j<ln from hlt2)
   rw [hk] at hkj hz hd h0k h2k hc
   rw [Int.toNat_natCast] at hd
   have hk3:k<3:=by omega
   clear hk hlb
   have hx:=goM_shape hp hs hz
   obtain ⟨hst,hmvs⟩:=go_step hkj HF.out
   rw [Int.toNat_natCast] at hmvs
   have kT:=fun (W:World) (q:Nat) (h:MachAt W q cs rows r.1)=>take_is h hp hs hk3 hd
   rw [← goM_nat] at kT
   generalize goM rows r.1 (k:Int)=zf at *
   obtain ⟨z,f⟩:=zf
   simp only at kT hx hst hmvs
   have HST:Hid (onS at9 (L.map (·.1)) ((nxM rows r.1).take (j+1))=putS at9 (onS at9 (L.map (·.1)) ((nxM rows r.1).take j)) ((k:Int),z)):=hst
   have HMV:Hid ((mvsOf rows F r.1).take (j+1)=(mvsOf rows F r.1).take j++[(f,(k:Int),r.1.1.getD k 0,(ixS (putS at9 (onS at9 (L.map (·.1)) ((nxM rows r.1).take j)) ((k:Int),z)) z:Int))]):=hmvs
   have hlt3:(j:Int)<(ln:Int):=by omega
   have hj0:(0:Int)≤(j:Int):=by omega
   have hj9:j<3:=by omega
   generalize r.1.1.getD k 0=pc at *
   clear hst hmvs hkj hz hd
   have pM:=hO.mc
   have pN:=Blk.new wr 89 [.slice none 0 0,.int .i64 0,.int .i64 0,.int .i64 0,.slice none 0 0,.int .i64 0,.int .i64 0,.int .i64 0,.slice none 0 0,.int .i64 0,.int .i64 0,.int .i64 0,.int .i64 0,.int .i64 0,.int .i64 0,.int .i64 0,.int .i64 0,.int .i64 0]
   have hbN:Below wr.heap.size wr (wr.alloc (.cells #[.slice none 0 0,.int .i64 0,.int .i64 0,.int .i64 0,.slice none 0 0,.int .i64 0,.int .i64 0,.int .i64 0,.slice none 0 0,.int .i64 0,.int .i64 0,.int .i64 0,.int .i64 0,.int .i64 0,.int .i64 0,.int .i64 0,.int .i64 0,.int .i64 0] 89)):=by go_grown
   replace pM:=pM.below hbN
   have bI:=bel_trans hO.bl hbN
   go_wp2_with (first | refine wpList_load_blk rfl 89 _ rfl Y rfl hO.mc _ Tryz.underlying89 rfl (by kernel_rfl) ?_ | refine wpList_load_blk rfl 89 _ rfl Y rfl pM _ Tryz.underlying89 rfl (by kernel_rfl) ?_ | refine wpList_store_blk rfl 89 _ _ rfl wr.heap.size (machCells cs.1.val cs.2.1.val cs.2.2.val r.1) rfl rfl pN (by kernel_rfl) rfl rfl ?_)
   intro u1 p1 g1
   have pZ:=p1.out
   have bz:Below wr.heap.size wr u1:=hbN.grown g1 hbN.size (fun q e=>by cases e;exact Nat.le_refl _)
   clear p1 g1 hbN pN pM bI hc
   obtain ⟨Z,hZ⟩:∃ Z,Z=wr.heap.size:=⟨_,rfl⟩
   rw [← hZ] at pZ ⊢
   have hZw:wr.heap.size≤Z:=by omega
   clear hZ
   have kTx:=kT u1 Z ⟨pZ,fun q hq=>(hI q hq).below (bel_trans hO.bl bz)⟩
   clear kT
   go_wp2_with fail
   refine kTx.mono ?_
   rintro e u2 ⟨rfl,pZ2,g2⟩
   have b2:Below wr.heap.size wr u2:=bz.grown g2 bz.size (fun q e=>by cases e;exact hZw)
   clear kTx pZ bz g2
   have pN:=Blk.new u2 64 [.int .i64 0,.int .i64 0,.int .i64 0]
   have hbN:Below u2.heap.size u2 (u2.alloc (.cells #[.int .i64 0,.int .i64 0,.int .i64 0] 64)):=by go_grown
   go_wp2_with (refine wpList_store_blk rfl 64 _ _ rfl u2.heap.size [.int .i64 f,.int .i64 (k:Int),.int .i64 pc] rfl rfl pN (by kernel_rfl) rfl rfl ?_)
   intro u3 p3 g3
   have pG:=p3.out
   have b3:Below u2.heap.size u2 u3:=hbN.grown g3 hbN.size (fun q e=>by cases e;exact Nat.le_refl _)
   replace pZ2:=pZ2.below b3
   have bz:=bel_trans b2 b3
   clear p3 g3 hbN pN b2 b3
   generalize u2.heap.size=G at *
   have sp:=hO.sp.below bz
   have bx:=hO.bx.below bz
   have mc:=hO.mc.below bz
   have ls:=hO.ls.below bz
   have mv:=owns_below hO.mv bz
   have kp:=hO.kp.belowR bz
   have bl:=bel_trans hO.bl bz
   have hmo:=hO.mo
   have hfr:=hO.fr
   obtain ⟨st,sh,pr,hln⟩:L'.map (·.1)=onS at9 (L.map (·.1)) ((nxM rows r.1).take j)∧Shaped (L'.map (·.1))∧L <+: L'∧L'.length≤L.length+j:=⟨hO.st,hO.sh,hO.pr,hO.ln⟩
   have HPR:Hid (L <+: L'):=pr
   have HS9:Hid (L'.map (·.1)=onS at9 (L.map (·.1)) ((nxM rows r.1).take j)):=st
   clear hO bz st pr
   go_wp2_with fail
   have hdr:Below u3.heap.size u3 u3.drew:=by go_grown
   refine wp_region_held_drew (S:=(fun w'=>w'.rangeAt G 0 [.int .i64 f,.int .i64 (k:Int),.int .i64 pc]∧w'.rangeAt Z 0 (machCells cs.1.val cs.2.1.val cs.2.2.val z))) (by kernel_rfl) ⟨blk_range pG,blk_range pZ2⟩ (fun hS0=>?_)
   refine tkm 0 27 (.slice va vn vc) ?_
   refine wpAnyH_take (i:=1) (oi:=⟨some 28,_,_,_,_,_⟩) (v:=.agg ([.int .i64 f,.int .i64 (k:Int),.int .i64 pc]).toArray) rfl (by kernel_rfl) (by kernel_rfl) (by kernel_rfl) (fun _ _ _ h=>h) (yieldsIf_load_mid (by rfl) 64 _ rfl G 0 rfl ([.int .i64 f,.int .i64 (k:Int),.int .i64 pc]) _ (fun _ h=>h.1) Tryz.underlying64 rfl (by kernel_rfl)) (by assumption) ?_
   simp only [Act.put,tka,tkb,tkc]
   refine tkm 2 29 (.pointer (some ⟨X,0,none⟩)) ?_
   refine wpAnyH_take (i:=3) (oi:=⟨some 30,_,_,_,_,_⟩) (v:=.agg (machCells cs.1.val cs.2.1.val cs.2.2.val z).toArray) rfl (by kernel_rfl) (by kernel_rfl) (by kernel_rfl) (fun _ _ _ h=>h) (yieldsIf_load_mid (by rfl) 89 _ rfl Z 0 rfl (machCells cs.1.val cs.2.1.val cs.2.2.val z) _ (fun _ h=>h.2) Tryz.underlying89 rfl (by kernel_rfl)) (by assumption) ?_
   simp only [Act.put,tka,tkb,tkc]
   refine tkm 4 31 (.int .i64 (at9:Int)) ?_
   refine tkm 5 32 (.int .i64 (k:Int)) ?_
   replace sp:=sp.below hdr
   replace bx:=bx.below hdr
   replace mc:=mc.below hdr
   replace ls:=ls.below hdr
   replace mv:=owns_below mv hdr
   replace kp:=kp.belowR hdr
   replace bl:=bel_trans bl hdr
   replace pG:=pG.below hdr
   replace pZ2:=pZ2.below hdr
   clear hdr
   generalize u3.drew=V at *
   have kM:=meet_is sp bx bl.size (by have:=HPR.out.length_le;omega) sh (hV.below bl) hx (by omega) at9 (k:Int)
   refine tkr 6 33 (fun K hK=>?_)
   go_simp
   refine kM.mono ?_
   rintro e V1 ⟨vs2,rfl,sp2,bx2,k2,m2⟩
   replace mc:=k2.blk sp bx mc (by decide) (by decide)
   replace pG:=k2.blk sp bx pG (by decide) (by decide)
   replace pZ2:=k2.blk sp bx pZ2 (by decide) (by decide)
   replace ls:=k2.ownI sp bx ls
   replace mv:=k2.row sp bx mv (by decide) (by decide)
   replace bl:=sp.belowK k2 hBX bl
   have hmo0:=hmo
   have kp2:=kp.trans hmo0 k2
   replace hmo:=hmo.trans kp.size m2
   clear hmo0
   clear kp sp bx k2 m2 kM
   go_wp2_with fail
   refine hK.out _ _ ⟨blk_range pG,blk_range pZ2⟩ (fun hS1=>?_)
   clear hK
   try simp only [Act.put,tka,tkb,tkc]
   have HIX:Hid (ixS (putS at9 (onS at9 (L.map (·.1)) ((nxM rows r.1).take j)) ((k:Int),z)) z=ixS ((putL at9 L' (k:Int) z).map (·.1)) z):=by rw [Hid,putL_map,HS9.out]
   generalize ixS ((putL at9 L' (k:Int) z).map (·.1)) z=ix at *
   refine tkm 7 34 (.agg #[.int .i64 f,.int .i64 (k:Int),.int .i64 pc,.int .i64 (ix:Int)]) ?_
   refine tkr 8 35 (fun K hK=>?_)
   have hal:Below V1.heap.size V1 (V1.alloc (.cells #[.int .i64 f,.int .i64 (k:Int),.int .i64 pc,.int .i64 (ix:Int)] 192)):=by go_grown
   have pQ:Blk (V1.alloc (.cells #[.int .i64 f,.int .i64 (k:Int),.int .i64 pc,.int .i64 (ix:Int)] 192)) V1.heap.size 192 [.int .i64 f,.int .i64 (k:Int),.int .i64 pc,.int .i64 (ix:Int)]:=blkAt _ _ _ rfl
   replace sp2:=sp2.below hal
   replace bx2:=bx2.below hal
   replace mc:=mc.below hal
   replace pG:=pG.below hal
   replace pZ2:=pZ2.below hal
   replace ls:=ls.below hal
   replace mv:=owns_below mv hal
   replace bl:=bel_trans bl hal
   replace kp2:=kp2.belowR hal
   go_simp
   refine hK.out _ _ ⟨blk_range pG,blk_range pZ2⟩ (fun hS2=>?_)
   clear hK hal
   generalize (V1.alloc (.cells #[.int .i64 f,.int .i64 (k:Int),.int .i64 pc,.int .i64 (ix:Int)] 192))=V2 at *
   generalize V1.heap.size=q1 at *
   try simp only [Act.put,tka,tkb,tkc]
   refine tkr 9 36 (fun K hK=>?_)
   have hml:((mvsOf rows F r.1).take j).length≤3:=by have:=List.length_take_le j (mvsOf rows F r.1);omega
   refine step_append_at rfl _ _ 109 rfl w0.heap.size 192 i0 _ 4 32 Tryz.underlying109 hi9 hz0 hz1 hz2 rfl (by decide) (.slice va vn vc) _ _ rfl mv ⟨q1,0,none⟩ 1 1 [.int .i64 f,.int .i64 (k:Int),.int .i64 pc,.int .i64 (ix:Int)] rfl rfl (cells_new pQ) (fun u hu=>by simp only [List.mem_cons,List.not_mem_nil,or_false] at hu;rcases hu with rfl | rfl | rfl | rfl<;>rfl) (by unfold maxLen;omega) (by omega) bl.size ?_
   intro v5 V3 q5 gr at5
   have mvne:=fun {e:Nat} {gg:Nat} {cc:List Value} (hB:Blk V2 gg e cc) (he:192≠e)=>own_ne_blk9 mv hB he
   replace bx2:=bx2.kept gr (mvne bx2 (by decide))
   replace mc:=mc.kept gr (mvne mc (by decide))
   replace pG:=pG.kept gr (mvne pG (by decide))
   replace pZ2:=pZ2.kept gr (mvne pZ2 (by decide))
   replace ls:OwnI V3 bL (some ⟨lb,lo,none⟩,ln,lc) (enabM rows r.1 3):=World.ownsRow.kept ls gr (Ap3.types ls mv (by decide)).or
   replace bl:=bl.grown gr bl.size (fun q e=>(own_lt3 mv e).1)
   have hfr2:∀ q,v5.ownBlock=some q→w.heap.size≤q:=fun q hq=>by
    rcases at5 with e9 | e9
    ·exact hfr q (e9▸hq)
    ·rw [e9] at hq;cases hq;exact kp2.size
   have sp3:=sp2.mvgrown (HPR.out.trans (putL_pre _ _ _ _)) (by omega) HOLD.out mv hfr gr
   have kp3:=kp2.mvgrown gr hfr
   have HMV2:(mvsOf rows F r.1).take (j+1)=(mvsOf rows F r.1).take j++[(f,(k:Int),pc,(ix:Int))]:=by rw [HMV.out,HIX.out]
   have q6:V3.ownsRow w0.heap.size 192 4 v5 ((mvsOf rows F r.1).take (j+1)).length (flat4 ((mvsOf rows F r.1).take (j+1))):=by
    rw [HMV2,flat4_snoc,List.length_append]
    exact q5
   have st9:OnGo w0 w V3 X nb Y bL (.slice (some ⟨g,0,none⟩) L.length c) vs2 v5 cs rows F L (putL at9 L' (k:Int) z) at9 (j+1) r.1 (some ⟨lb,lo,none⟩,ln,lc):=
    ⟨sp3,bx2,mc,ls,by rw [putL_map,HS9.out,HST.out],by rw [putL_map];exact putS_shaped sh hx,HPR.out.trans (putL_pre _ _ _ _),by have:=putL_len at9 L' (k:Int) z;omega,q6,kp3,hmo,bl,hfr2⟩
   refine hK.out _ _ ⟨blk_range pG,blk_range pZ2⟩ (fun hS3=>?_)
   clear hK
   try simp only [Act.put,tka,tkb,tkc]
   refine tkm 10 5 v5 ?_
   refine wpAnyH_done (by kernel_rfl) ?_ _
   clear sp3 bx2 mc ls q6 q5 kp3 kp2 hmo bl hfr2 hfr sp2 mv gr at5 mvne pG pZ2 pQ hS0 hS1 hS2 hS3 HMV HMV2 HIX HST HS9 HPR sh
   go_wp2
   go_roundw
   case rel=>exact ⟨j+1,_,_,by go_num,by omega,st9⟩
   case measure=>simp [intOf];omega
  ·have hpre:=hO.pr
   have hr2:L'[at9]?=some (r,.slice none 0 0):=by
    obtain ⟨U,rfl⟩:=hpre
    rw [List.getElem?_append_left hla]
    exact HR.out
   have hla2:(at9:Int)<(L'.length:Int):=by have:=hpre.length_le;omega
   obtain ⟨g2,c2,rfl,hg2,hrg2⟩:=hO.sp.at9 hr2
   have HFin:Hid (GoGot (.returned (.tuple #[])) w0 w (wr.setCell ⟨g2,at9*22+21,none⟩ (.slice va vn vc)) X nb (.slice (some ⟨g,0,none⟩) L.length c) cs rows F L at9 r.1):=hO.fin HR.out (by omega) (by omega)
   have cX0:wr.cell? ⟨X,0,none⟩=some (.slice (some ⟨g2,0,none⟩) L'.length c2):=by simpa using hO.bx.cell 0
   have cM:=hrg2 21 (.slice none 0 0) rfl
   have fM:=hO.sp.row.frozenAt (at9*22+21)
   clear hrg2 hO hpre hr2 HR
   go_wp2
   go_end0
   exact HFin.out
end Go.Proofs.YtifoggpohlegmaaGreatDoor
