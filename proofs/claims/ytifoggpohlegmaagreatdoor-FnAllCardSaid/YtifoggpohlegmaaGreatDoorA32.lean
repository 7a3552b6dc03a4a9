/-
  Joined: Meet, RyS.
-/
import Derived.Test.YtifoggpohlegmaaGreatDoorA30
import Derived.Test.YtifoggpohlegmaaGreatDoorA31

namespace Go.Proofs.YtifoggpohlegmaaGreatDoor
set_option maxRecDepth 100000
set_option maxHeartbeats 16000000
open Go.RowKit
set_option linter.unusedVariables false
set_option linter.unusedSimpArgs false

theorem info_reached:(Tryz.prog.info? 111).map (fun i=>(i.zero,i.size,i.bytes))=some (some (.agg #[.string ⟨#[]⟩,.slice none 0 0,.int .i64 0,.int .i64 0,.int .i64 0,.slice none 0 0,.int .i64 0,.int .i64 0,.int .i64 0,.slice none 0 0,.int .i64 0,.int .i64 0,.int .i64 0,.int .i64 0,.int .i64 0,.int .i64 0,.int .i64 0,.int .i64 0,.int .i64 0,.int .i64 0,.int .i64 0,.slice none 0 0]),22,248):=by kernel_rfl
def putL (i:Nat) (L:List (Rec6 V4 × Value)) (k:Int) (z:V4):List (Rec6 V4 × Value):=if hasS (L.map (·.1)) z then L else L++[((z,i,k),.slice none 0 0)]
theorem putL_map (i:Nat) (L:List (Rec6 V4 × Value)) (k:Int) (z:V4):(putL i L k z).map (·.1)=putS i (L.map (·.1)) (k,z):=by
 unfold putL putS
 split<;>simp_all
def MeetGot (e:Ending) (w w':World) (B X nb:Nat) (vs:Value) (cs:Sl × Sl × Sl) (M:V4→List I4) (L:List (Rec6 V4 × Value)) (d:Nat) (z:V4) (i:Nat) (k:Int):Prop:=
 ∃ vs',e=.returned (.int .i64 (ixS ((putL i L k z).map (·.1)) z:Int))∧SpcD w' B nb vs' cs M (putL i L k z) d∧Blk w' X 106 [vs',.map (some nb)]∧KeptS w w' X nb vs∧MovedS w vs vs'
theorem MeetGot.old {w w':World} {B X nb d:Nat} {vs:Value} {cs:Sl × Sl × Sl} {M:V4→List I4} {L:List (Rec6 V4 × Value)} {z:V4} {i:Nat} {k:Int} (hh:hasS (L.map (·.1)) z=true) (h1:SpcD w' B nb vs cs M L d) (h2:Blk w' X 106 [vs,.map (some nb)]) (h3:KeptS w w' X nb vs):MeetGot (.returned (.int .i64 (ixS (L.map (·.1)) z:Int))) w w' B X nb vs cs M L d z i k:=by
 have e:putL i L k z=L:=by unfold putL;rw [if_pos hh]
 unfold MeetGot
 rw [e]
 exact ⟨vs,rfl,h1,h2,h3,MovedS.refl _ _⟩
theorem MeetGot.new {w w':World} {B X nb d:Nat} {vs vs':Value} {cs:Sl × Sl × Sl} {M:V4→List I4} {L:List (Rec6 V4 × Value)} {z:V4} {i:Nat} {k:Int} (hm:z ∉ (L.map (·.1)).map (·.1)) (h1:SpcD w' B nb vs' cs M (L++[((z,i,k),.slice none 0 0)]) d) (h2:Blk w' X 106 [vs',.map (some nb)]) (h3:KeptS w w' X nb vs) (h4:MovedS w vs vs'):MeetGot (.returned (.int .i64 (L.length:Int))) w w' B X nb vs cs M L d z i k:=by
 have hh:hasS (L.map (·.1)) z=false:=by
  cases h9:hasS (L.map (·.1)) z
  ·rfl
  ·exact absurd (hasS_iff.1 h9) hm
 have e:putL i L k z=L++[((z,i,k),.slice none 0 0)]:=by unfold putL;rw [hh];rfl
 have hix:ixS ((L++[((z,i,k),Value.slice none 0 0)]).map (·.1)) z=L.length:=by
  rw [List.map_append]
  have:=ixS_new i k hm
  simpa using this
 unfold MeetGot
 rw [e,hix]
 exact ⟨vs',rfl,h1,h2,h3,h4⟩
theorem fits_mid6 {z:Int} (h:0≤z) (h':z≤1000000000):(Lit.int .i64 z).wf=true:=by
 simp only [Lit.wf,Bool.and_eq_true,decide_eq_true_eq]
 have h1:IntKind.i64.min=-9223372036854775808:=by decide
 have h2:IntKind.i64.max=9223372036854775807:=by decide
 omega
theorem mach_one (c0 c1 c2:Sl) (m:V4):(machCells c0.val c1.val c2.val m).all (·.oneCell')=true:=rfl
theorem cells_new {w:World} {g t:Nat} {cs:List Value} (h:Blk w g t cs):∀ j u,cs[j]?=some u→w.cell? ((⟨g,0,none⟩:Addr).add j)=some u:=by
 intro j u hj
 rw [Addr.add_mid,Nat.zero_add,h.cell]
 exact hj

theorem meet_is {w:World} {B X nb d:Nat} {vs:Value} {cs:Sl × Sl × Sl} {M:V4→List I4} {L:List (Rec6 V4 × Value)} (hS:SpcD w B nb vs cs M L d) (hX:Blk w X 106 [vs,.map (some nb)]) (hBw:B≤w.heap.size) (hd:d≤L.length) (hsh:Shaped (L.map (·.1))) (hV:VmShape w) {z:V4} (hz:shapeOk z=true) (hl:L.length≤100000) (i:Nat) (k:Int) :
  Calls Tryz.prog 128 #[.pointer (some ⟨X,0,none⟩),.agg (machCells cs.1.val cs.2.1.val cs.2.2.val z).toArray,.int .i64 i,.int .i64 k] w fun e w'=>MeetGot e w w' B X nb vs cs M L d z i k:=by
 have kT:=fun (W:World) (g:Nat) (h:Blk W g 89 (machCells cs.1.val cs.2.1.val cs.2.2.val z)) (hV:VmShape W)=>mkey_is (cs:=cs) h hz hV
 have HRC:Hid (rcC cs (z,i,k) (.slice none 0 0)=.string (keyT z)::(machCells cs.1.val cs.2.1.val cs.2.2.val z++[.int .i64 (i:Int),.int .i64 k,.slice none 0 0])):=rfl
 have hone:=mach_one cs.1 cs.2.1 cs.2.2 z
 obtain ⟨x0,x1,x2,x3,x4,x5,x6,x7,x8,x9,x10,x11,x12,x13,x14,x15,x16,x17,hMC⟩:∃ x0 x1 x2 x3 x4 x5 x6 x7 x8 x9 x10 x11 x12 x13 x14 x15 x16 x17:Value,machCells cs.1.val cs.2.1.val cs.2.2.val z=[x0,x1,x2,x3,x4,x5,x6,x7,x8,x9,x10,x11,x12,x13,x14,x15,x16,x17]:=⟨_,_,_,_,_,_,_,_,_,_,_,_,_,_,_,_,_,_,rfl⟩
 rw [hMC] at kT HRC hone ⊢
 clear hMC
 simp only [List.all_cons,List.all_nil,Bool.and_true,Bool.and_eq_true] at hone
 obtain ⟨o0,o1,o2,o3,o4,o5,o6,o7,o8,o9,o10,o11,o12,o13,o14,o15,o16,o17⟩:=hone
 have hks:(keyT z).size≤maxLen:=by rw [keyT_size6 hz];unfold maxLen;omega
 have hkey:keyOf Tryz.prog 9 (.string (keyT z))=some (.string (keyT z).data.toList):=WideMaps.keyOf_string_mk Tryz.underlying9 hks
 have bw:Below w.heap.size w (w.alloc (.cells #[x0,x1,x2,x3,x4,x5,x6,x7,x8,x9,x10,x11,x12,x13,x14,x15,x16,x17] 89)):=by go_grown
 have pY:Blk (w.alloc (.cells #[x0,x1,x2,x3,x4,x5,x6,x7,x8,x9,x10,x11,x12,x13,x14,x15,x16,x17] 89)) w.heap.size 89 [x0,x1,x2,x3,x4,x5,x6,x7,x8,x9,x10,x11,x12,x13,x14,x15,x16,x17]:=blkAt _ _ _ rfl
 obtain ⟨D,hm,hN⟩:=hS.map
 have hN2:Hid (∀ x,x ∈ (L.map (·.1)).map (·.1)→∀ zz,D.atKey (.string (keyT x).data.toList) zz=.lit (.int .i64 (ixS (L.map (·.1)) x))):=hN.at9
 have hhas:=hN.has (keyT z)
 have hiff:=has_key hsh hz
 have HP:=fun (hn:z ∉ (L.map (·.1)).map (·.1))=>NumD.put hN hm.isMap hsh hz hn i k
 go_enter Tryz.func128,Tryz.ntmps128
 go_wp2_with fail
 generalize w.alloc (.cells #[x0,x1,x2,x3,x4,x5,x6,x7,x8,x9,x10,x11,x12,x13,x14,x15,x16,x17] 89)=U at *
 refine (kT _ _ pY (hV.below bw)).mono ?_
 rintro e w2 ⟨rfl,hb⟩
 replace bw:=bel_trans bw hb
 replace pY:=pY.below hb
 clear hb kT hV
 have hS2:=hS.below bw
 have pX:=hX.below bw
 have hXY:X≠w.heap.size:=by have:=hX.lt;omega
 have hm2:w2.ownsMap Tryz.prog 9 (plainElem Tryz.prog 3) nb L.length D:=hm.kept (row:=none) ⟨bw.os,bw.tape,bw.output,bw.size,fun k hk _=>bw.block k hk⟩ (by simp)
 obtain ⟨Y,hY⟩:∃ Y,Y=w.heap.size:=⟨_,rfl⟩
 rw [← hY] at pY hXY ⊢
 have hYw:w.heap.size≤Y:=by omega
 clear hY
 have cX0:w2.cell? ⟨X,0,none⟩=some vs:=by simpa using pX.cell 0
 have cX1:w2.cell? ⟨X,1,none⟩=some (.map (some nb)):=by simpa using pX.cell 1
 by_cases hmem:z ∈ (L.map (·.1)).map (·.1)
 ·have hh:hasS (L.map (·.1)) z=true:=hasS_iff.2 hmem
  have hL:putL i L k z=L:=by unfold putL;rw [if_pos hh]
  have hhT:Maps.has D (.string (keyT z).data.toList)=true:=hhas.2 (hiff.1 hh)
  have hat9:=hN2.out z hmem (.lit (.int .i64 0))
  clear hhas hiff HP hN hN2 hL hS hm
  have HH:Hid (hasS (L.map (·.1)) z=true):=hh
  clear hh
  go_wp2_with (at_lookup;refine wpList_lookup_own_ok_int _ rfl _ _ 104 rfl 9 3 .i64 law_str6 Tryz.underlying104 Tryz.underlying3 (zero_int6 _) nb L.length D rfl hm2 _ _ rfl hkey ?_;intro c hat hwc)
  rw [hat9] at hat
  injection hat with hat
  injection hat with _ hat
  subst hat
  clear hat9 hwc
  go_wp2
  go_ret
  exact MeetGot.old HH.out hS2 pX (KeptS.of_below X nb vs bw)
 ·have hwZ0:=hYw
  have hh:hasS (L.map (·.1)) z=false:=by
   cases h9:hasS (L.map (·.1)) z
   ·rfl
   ·exact absurd (hasS_iff.1 h9) hmem
  have hL:putL i L k z=L++[((z,i,k),.slice none 0 0)]:=by unfold putL;rw [hh];rfl
  have hhF:Maps.has D (.string (keyT z).data.toList)=false:=by
   rw [← Bool.not_eq_true,hhas]
   intro h9
   rw [hiff.2 h9] at hh
   cases hh
  have HNP:=HP hmem
  have hix:ixS ((L++[((z,i,k),Value.slice none 0 0)]).map (·.1)) z=L.length:=by
   rw [List.map_append]
   have:=ixS_new i k hmem
   simpa using this
  rw [List.length_map] at HNP
  have HMM:Hid (z ∉ (L.map (·.1)).map (·.1)):=hmem
  clear hhas hiff HP hN hN2 hL hh hm hix hmem
  have HM9:Hid (∀ W:World,W.ownsMap Tryz.prog 9 (plainElem Tryz.prog 3) nb (L.length+1) (D.put (.string (keyT z).data.toList) (.lit (.int .i64 L.length)))→∃ D:DataW Unit,W.ownsMap Tryz.prog 9 (plainElem Tryz.prog 3) nb (L++[((z,i,k),Value.slice none 0 0)]).length D∧NumD D ((L++[((z,i,k),Value.slice none 0 0)]).map (·.1))):=fun W h=>⟨_,by simpa using h,by simpa using HNP⟩
  clear HNP
  obtain ⟨i0,hi9,hz0,hz1,hz2⟩:=info_parts info_reached
  obtain ⟨va,vc,rfl⟩:∃ va vc,vs=.slice va L.length vc:=by
   rcases hS2.row.2 with ⟨h1,h2⟩ | ⟨g,c,cur,h1,_⟩
   ·exact ⟨none,0,by rw [h1,h2]⟩
   ·exact ⟨_,_,h1⟩
  generalize keyT z=key at *
  go_wp2_with (first | (at_lookup;refine wpList_lookup_own_ok_int _ rfl _ _ 104 rfl 9 3 .i64 law_str6 Tryz.underlying104 Tryz.underlying3 (zero_int6 _) nb L.length D rfl hm2 _ _ rfl hkey ?_;intro c hat hwc) | (at_mapUpdate;refine wpList_mapUpdate_own _ rfl _ _ _ 104 rfl 9 3 law_str6 Tryz.underlying104 _ nb L.length D rfl hm2 (by unfold maxLen;omega) _ _ _ rfl rfl hkey _ [] (plainElem_int Tryz.underlying3 (fits_mid6 (by omega) (by omega))) ?_;intro w3 hm3 g3))
  clear hat hwc hhF hm2 cX1
  have hnX:nb≠X:=fun e=>map_blk (hS2.map.choose_spec.1) pX e.symm
  have hnY:nb≠Y:=fun e=>map_blk (hS2.map.choose_spec.1) pY e.symm
  replace pX:=pX.kept g3 (by simpa using hnX)
  replace pY:=pY.kept g3 (by simpa using hnY)
  have hr3:=hS2.row.kept g3 (.inr (map_own (hS2.map.choose_spec.1) hS2.row))
  have hv3:∀ q9 r mv,q9<d→L[q9]?=some (r,mv)→w3.ownsRow B 192 4 mv (M r.1).length (flat4 (M r.1)):=fun i r mv h1 h2=>(hS2.mvs i r mv h1 h2).kept g3 (.inr (map_own (hS2.map.choose_spec.1) (hS2.mvs i r mv h1 h2)))
  have k3:KeptS w w3 X nb (.slice va L.length vc):=⟨g3.os.trans bw.os,g3.tape.trans bw.tape,g3.output.trans bw.output,Nat.le_trans bw.size g3.size,fun q hq h1 h2 h3=>(g3.block q (Nat.lt_of_lt_of_le hq bw.size) (by simpa using h2)).trans (bw.block q hq)⟩
  have hm4:=HM9.out w3 hm3
  clear hm3 HM9 hX bw g3
  replace cX0:w3.cell? ⟨X,0,none⟩=some (.slice va L.length vc):=by simpa using pX.cell 0
  have cY:w3.rangeAt Y 0 [x0,x1,x2,x3,x4,x5,x6,x7,x8,x9,x10,x11,x12,x13,x14,x15,x16,x17]:=fun j v hj=>by rw [Nat.zero_add,pY.cell];exact hj
  clear cX0
  have hr2:=hr3
  clear hr3
  have hkeep:Hid (SpcD w2 B nb (.slice va L.length vc) cs M L d):=hS2
  clear hS2 hS
  have hBU:B≤w3.heap.size:=Nat.le_trans hBw k3.size
  have hX9:∀ j,(Value.slice va L.length vc).ownBlock=some j→j≠X∧j≠Y:=fun j hj=>⟨fun e=>own_ne_blk9 hr2 pX (by decide) (by rw [hj,e]),fun e=>own_ne_blk9 hr2 pY (by decide) (by rw [hj,e])⟩
  go_wp2_with fail
  refine wp_region_held_drew (S:=(fun w'=>w'.rangeAt Y 0 [x0,x1,x2,x3,x4,x5,x6,x7,x8,x9,x10,x11,x12,x13,x14,x15,x16,x17])) (by kernel_rfl) cY (fun hS0=>?_)
  refine tkm 0 36 (.pointer (some ⟨X,0,none⟩)) ?_
  refine tkm 1 37 (.pointer (some ⟨X,0,none⟩)) ?_
  refine tkm 2 38 (.pointer (some ⟨X,0,none⟩)) ?_
  refine tkm 3 39 (.pointer (some ⟨X,0,none⟩)) ?_
  refine tkm 5 41 (.string key) ?_
  refine wpAnyH_take (i:=6) (oi:=⟨some 42,_,_,_,_,_⟩) (v:=.agg #[x0,x1,x2,x3,x4,x5,x6,x7,x8,x9,x10,x11,x12,x13,x14,x15,x16,x17]) rfl (by kernel_rfl) (by kernel_rfl) (by kernel_rfl) (fun _ _ _ h=>h) (yieldsIf_load_mid (by rfl) 89 _ rfl Y 0 rfl [x0,x1,x2,x3,x4,x5,x6,x7,x8,x9,x10,x11,x12,x13,x14,x15,x16,x17] _ (fun _ h=>h) Tryz.underlying89 rfl (by kernel_rfl)) (by assumption) ?_
  simp only [Act.put,tka,tkb,tkc]
  refine tkm 7 43 (.int .i64 (i:Int)) ?_
  refine tkm 8 44 (.int .i64 k) ?_
  refine tkm 9 45 (.agg #[.string key,x0,x1,x2,x3,x4,x5,x6,x7,x8,x9,x10,x11,x12,x13,x14,x15,x16,x17,.int .i64 (i:Int),.int .i64 k,.slice none 0 0]) ?_
  have pX9:=pX.lt
  have pY9:=pY.lt
  have hr9:∀ j,(Value.slice va L.length vc).ownBlock=some j→j<w3.heap.size:=fun j hj=>(own_lt3 hr2 hj).2
  refine wpAnyH_ready (rs:=[4,10]) (by kernel_rfl) (by simp) ?_
  refine AllReadyH.cons (o:=⟨some 40,_,_,_,_,_⟩) rfl (fun K hK=>?_) (AllReadyH.cons (o:=⟨some 46,_,_,_,_,_⟩) rfl (fun K hK=>?_) AllReadyH.nil)
  ·have rF:w3.drew.cell? ⟨X,0,none⟩=some (.slice va L.length vc):=by simpa using pX.cell 0
   go_simp
   refine hK.out _ _ cY (fun hS1=>?_)
   clear hK rF
   try simp only [Act.put,tka,tkb,tkc]
   have hal:Below w3.heap.size w3 w3.drew:=by go_grown
   replace pX:=pX.below hal
   replace pY:=pY.below hal
   replace hr2:=owns_below hr2 hal
   replace k3:=k3.belowR hal
   replace hm4:∃ D:DataW Unit,w3.drew.ownsMap Tryz.prog 9 (plainElem Tryz.prog 3) nb (L++[((z,i,k),Value.slice none 0 0)]).length D∧NumD D ((L++[((z,i,k),Value.slice none 0 0)]).map (·.1)):=hm4
   replace hv3:∀ q9 r mv,q9<d→L[q9]?=some (r,mv)→w3.drew.ownsRow B 192 4 mv (M r.1).length (flat4 (M r.1)):=fun i' r mv h1 h2=>owns_below (hv3 i' r mv h1 h2) hal
   replace cY:w3.drew.rangeAt Y 0 [x0,x1,x2,x3,x4,x5,x6,x7,x8,x9,x10,x11,x12,x13,x14,x15,x16,x17]:=cY
   replace hBU:=Nat.le_trans hBU hal.size
   replace hr9:∀ j,(Value.slice va L.length vc).ownBlock=some j→j<w3.drew.heap.size:=hr9
   replace pX9:X<w3.drew.heap.size:=pX9
   replace pY9:Y<w3.drew.heap.size:=pY9
   clear hal
   generalize w3.drew=V1 at *
   refine tkr 10 46 (fun K hK=>?_)
   obtain ⟨Z,hZ⟩:∃ Z,Z=V1.heap.size:=⟨_,rfl⟩
   have pZ:Blk (V1.alloc (.cells #[.string key,x0,x1,x2,x3,x4,x5,x6,x7,x8,x9,x10,x11,x12,x13,x14,x15,x16,x17,.int .i64 (i:Int),.int .i64 k,.slice none 0 0] 111)) Z 111 [.string key,x0,x1,x2,x3,x4,x5,x6,x7,x8,x9,x10,x11,x12,x13,x14,x15,x16,x17,.int .i64 (i:Int),.int .i64 k,.slice none 0 0]:=by subst hZ;exact Blk.new _ _ _
   have hal:Below V1.heap.size V1 (V1.alloc (.cells #[.string key,x0,x1,x2,x3,x4,x5,x6,x7,x8,x9,x10,x11,x12,x13,x14,x15,x16,x17,.int .i64 (i:Int),.int .i64 k,.slice none 0 0] 111)):=by go_grown
   replace pX:=pX.below hal
   replace pY:=pY.below hal
   replace hr2:=owns_below hr2 hal
   replace k3:=k3.belowR hal
   have hBs:B≤(V1.alloc (.cells #[.string key,x0,x1,x2,x3,x4,x5,x6,x7,x8,x9,x10,x11,x12,x13,x14,x15,x16,x17,.int .i64 (i:Int),.int .i64 k,.slice none 0 0] 111)).heap.size:=Nat.le_trans hBU hal.size
   replace hm4:∃ D:DataW Unit,(V1.alloc (.cells #[.string key,x0,x1,x2,x3,x4,x5,x6,x7,x8,x9,x10,x11,x12,x13,x14,x15,x16,x17,.int .i64 (i:Int),.int .i64 k,.slice none 0 0] 111)).ownsMap Tryz.prog 9 (plainElem Tryz.prog 3) nb (L++[((z,i,k),Value.slice none 0 0)]).length D∧NumD D ((L++[((z,i,k),Value.slice none 0 0)]).map (·.1)):=by
    obtain ⟨D9,h1,h2⟩:=hm4
    exact ⟨D9,h1.kept (row:=none) ⟨hal.os,hal.tape,hal.output,hal.size,fun q hq _=>hal.block q hq⟩ (by simp),h2⟩
   replace hv3:∀ q9 r mv,q9<d→L[q9]?=some (r,mv)→(V1.alloc (.cells #[.string key,x0,x1,x2,x3,x4,x5,x6,x7,x8,x9,x10,x11,x12,x13,x14,x15,x16,x17,.int .i64 (i:Int),.int .i64 k,.slice none 0 0] 111)).ownsRow B 192 4 mv (M r.1).length (flat4 (M r.1)):=fun i' r mv h1 h2=>owns_below (hv3 i' r mv h1 h2) hal
   replace cY:(V1.alloc (.cells #[.string key,x0,x1,x2,x3,x4,x5,x6,x7,x8,x9,x10,x11,x12,x13,x14,x15,x16,x17,.int .i64 (i:Int),.int .i64 k,.slice none 0 0] 111)).rangeAt Y 0 [x0,x1,x2,x3,x4,x5,x6,x7,x8,x9,x10,x11,x12,x13,x14,x15,x16,x17]:=fun j v hj=>by rw [Nat.zero_add,pY.cell];exact hj
   have hZ9:X<Z∧Y<Z∧∀ j,(Value.slice va L.length vc).ownBlock=some j→j<Z:=⟨by rw [hZ];exact pX9,by rw [hZ];exact pY9,fun j hj=>by rw [hZ];exact hr9 j hj⟩
   go_simp
   rw [← hZ]
   refine hK.out _ _ cY (fun hS2=>?_)
   clear hK hal hZ
   generalize (V1.alloc (.cells #[.string key,x0,x1,x2,x3,x4,x5,x6,x7,x8,x9,x10,x11,x12,x13,x14,x15,x16,x17,.int .i64 (i:Int),.int .i64 k,.slice none 0 0] 111))=V2 at *
   try simp only [Act.put,tka,tkb,tkc]
   have hwZ:w.heap.size≤V2.heap.size:=k3.size
   clear pX9 pY9 hr9
   refine tkr 11 47 (fun K hK=>?_)
   refine step_append_at rfl _ _ 103 rfl B 111 i0 _ 22 248 Tryz.underlying103 hi9 hz0 hz1 hz2 rfl (by decide) (.slice va L.length vc) L.length (rcF cs L) rfl hr2 ⟨Z,0,none⟩ 1 1 [.string key,x0,x1,x2,x3,x4,x5,x6,x7,x8,x9,x10,x11,x12,x13,x14,x15,x16,x17,.int .i64 (i:Int),.int .i64 k,.slice none 0 0] rfl rfl (cells_new pZ) (fun u hu=>by simp only [List.mem_cons,List.not_mem_nil,or_false] at hu;rcases hu with rfl | rfl | rfl | rfl | rfl | rfl | rfl | rfl | rfl | rfl | rfl | rfl | rfl | rfl | rfl | rfl | rfl | rfl | rfl | rfl | rfl | rfl<;>first | assumption | rfl) (by unfold maxLen;omega) (by omega) hBs ?_
   intro vn U2 q2 gr atn
   have nX:(Value.slice va L.length vc).ownBlock≠some X:=fun e=>(hX9 X e).1 rfl
   have nY:(Value.slice va L.length vc).ownBlock≠some Y:=fun e=>(hX9 Y e).2 rfl
   replace pX:=pX.kept gr nX
   replace pY:=pY.kept gr nY
   replace k3:KeptS w U2 X nb (.slice va L.length vc):=⟨gr.os.trans k3.os,gr.tape.trans k3.tape,gr.output.trans k3.output,Nat.le_trans k3.size gr.size,fun q hq h1 h2 h3=>(gr.block q (Nat.lt_of_lt_of_le hq k3.size) (Ne.symm h3)).trans (k3.block q hq h1 h2 h3)⟩
   have hmv:MovedS w (.slice va L.length vc) vn:=by
    rcases atn with e9 | e9
    ·exact .inl e9
    ·exact .inr ⟨_,hwZ,e9⟩
   replace hm4:∃ D:DataW Unit,U2.ownsMap Tryz.prog 9 (plainElem Tryz.prog 3) nb (L++[((z,i,k),Value.slice none 0 0)]).length D∧NumD D ((L++[((z,i,k),Value.slice none 0 0)]).map (·.1)):=by
    obtain ⟨D9,h1,h2⟩:=hm4
    exact ⟨D9,h1.kept gr (fun e=>map_own h1 hr2 e.symm),h2⟩
   replace hv3:∀ q9 r mv,q9<d→L[q9]?=some (r,mv)→U2.ownsRow B 192 4 mv (M r.1).length (flat4 (M r.1)):=fun i r mv h1 h2=>(hv3 i r mv h1 h2).kept gr (Ap3.types (hv3 i r mv h1 h2) hr2 (by decide)).or
   replace cY:U2.rangeAt Y 0 [x0,x1,x2,x3,x4,x5,x6,x7,x8,x9,x10,x11,x12,x13,x14,x15,x16,x17]:=fun j v hj=>by rw [Nat.zero_add,pY.cell];exact hj
   have q3:U2.ownsRow B 111 22 vn (L++[((z,i,k),Value.slice none 0 0)]).length (rcF cs (L++[((z,i,k),Value.slice none 0 0)])):=by
    rw [rcF_app]
    show U2.ownsRow B 111 22 vn _ (rcF cs L++rcC cs (z,i,k) (.slice none 0 0))
    rw [HRC.out]
    simpa using q2
   refine hK.out _ _ cY (fun hS3=>?_)
   clear hK gr nX nY q2 atn hr2 pZ
   try simp only [Act.put,tka,tkb,tkc]
   refine tkm 12 48 (.pointer (some ⟨X,0,none⟩)) ?_
   refine tkm 13 49 (.pointer (some ⟨X,0,none⟩)) ?_
   have rF:U2.cell? ⟨X,0,none⟩=some (.slice va L.length vc):=by simpa using pX.cell 0
   have fF:=pX.frozen 0
   obtain ⟨ng,nc,rfl⟩:∃ ng nc,vn=.slice (some ⟨ng,0,none⟩) (L.length+1) nc:=by
    rcases q3.2 with ⟨_,h9⟩ | ⟨g,c,cur,h9,_⟩
    ·simp at h9
    ·exact ⟨g,c,by rw [h9];simp⟩
   refine tkz 14 (fun K hK=>?_)
   have gN:U2.grownBy (U2.setCell ⟨X,0,none⟩ (Value.slice (some ⟨ng,0,none⟩) (L.length+1) nc)) (some X):=grown_cell U2 X 0 (Value.slice (some ⟨ng,0,none⟩) (L.length+1) nc)
   have pN:=pX.set 0 (Value.slice (some ⟨ng,0,none⟩) (L.length+1) nc)
   have q4:=q3.kept gN (.inr (own_ne_blk9 q3 pX (by decide)))
   have hv4:∀ q9 r mv,q9<d→L[q9]?=some (r,mv)→(U2.setCell ⟨X,0,none⟩ (Value.slice (some ⟨ng,0,none⟩) (L.length+1) nc)).ownsRow B 192 4 mv (M r.1).length (flat4 (M r.1)):=fun i r mv h1 h2=>(hv3 i r mv h1 h2).kept gN (.inr (own_ne_blk9 (hv3 i r mv h1 h2) pX (by decide)))
   have hm5:∃ D:DataW Unit,(U2.setCell ⟨X,0,none⟩ (Value.slice (some ⟨ng,0,none⟩) (L.length+1) nc)).ownsMap Tryz.prog 9 (plainElem Tryz.prog 3) nb (L++[((z,i,k),Value.slice none 0 0)]).length D∧NumD D ((L++[((z,i,k),Value.slice none 0 0)]).map (·.1)):=by
    obtain ⟨D9,h1,h2⟩:=hm4
    exact ⟨D9,h1.kept gN (fun e=>map_blk h1 pX (by cases e;rfl)),h2⟩
   have k5:KeptS w (U2.setCell ⟨X,0,none⟩ (Value.slice (some ⟨ng,0,none⟩) (L.length+1) nc)) X nb (.slice va L.length vc):=⟨gN.os.trans k3.os,gN.tape.trans k3.tape,gN.output.trans k3.output,Nat.le_trans k3.size gN.size,fun q hq h1 h2 h3=>(gN.block q (Nat.lt_of_lt_of_le hq k3.size) (by simpa using h1)).trans (k3.block q hq h1 h2 h3)⟩
   have cY5:(U2.setCell ⟨X,0,none⟩ (Value.slice (some ⟨ng,0,none⟩) (L.length+1) nc)).rangeAt Y 0 [x0,x1,x2,x3,x4,x5,x6,x7,x8,x9,x10,x11,x12,x13,x14,x15,x16,x17]:=fun j v hj=>by rw [Nat.zero_add,(pY.kept gN (by simpa using hXY)).cell];exact hj
   go_simp
   refine hK.out _ _ cY5 (fun hS4=>?_)
   clear hK
   try simp only [Act.put,tka,tkb,tkc]
   refine wpAnyH_done (by kernel_rfl) ?_ _
   generalize hvn:(Value.slice (some ⟨ng,0,none⟩) (L.length+1) nc)=vn at *
   have HSp:Hid (SpcD (U2.setCell ⟨X,0,none⟩ vn) B nb vn cs M (L++[((z,i,k),Value.slice none 0 0)]) d):=by
    refine ⟨q4,hm5,fun i' r mv h1 h2=>?_,fun i' r mv h1 h2=>?_,hkeep.out.low⟩
    ·rw [List.getElem?_append_left (by omega)] at h2
     exact hv4 i' r mv h1 h2
    ·by_cases h9:i'<L.length
     ·rw [List.getElem?_append_left h9] at h2
      exact hkeep.out.nil i' r mv h1 h2
     ·rw [List.getElem?_append_right (by omega)] at h2
      have h8:=(List.getElem?_eq_some_iff.1 h2).1
      simp at h8
      rw [show i' - L.length=0 by omega] at h2
      simp at h2
      exact h2.2.symm
   have pN2:Blk (U2.setCell ⟨X,0,none⟩ vn) X 106 [vn,.map (some nb)]:=by simpa using pN
   clear cY cY5 rF fF gN k3 pX pY pN hm4 hv3 q3 q4 hv4 hm5 hS0 hS1 hS2 hS3 hS4 hkeep HRC
   generalize U2.setCell ⟨X,0,none⟩ vn=U3 at *
   clear hvn
   go_wp2
   go_ret
   exact MeetGot.new HMM.out HSp.out pN2 k5 hmv
  ·obtain ⟨Z,hZ⟩:∃ Z,Z=w3.heap.size:=⟨_,rfl⟩
   have pZ:Blk (w3.alloc (.cells #[.string key,x0,x1,x2,x3,x4,x5,x6,x7,x8,x9,x10,x11,x12,x13,x14,x15,x16,x17,.int .i64 (i:Int),.int .i64 k,.slice none 0 0] 111)).drew Z 111 [.string key,x0,x1,x2,x3,x4,x5,x6,x7,x8,x9,x10,x11,x12,x13,x14,x15,x16,x17,.int .i64 (i:Int),.int .i64 k,.slice none 0 0]:=by subst hZ;exact Blk.new _ _ _
   have hal:Below w3.heap.size w3 (w3.alloc (.cells #[.string key,x0,x1,x2,x3,x4,x5,x6,x7,x8,x9,x10,x11,x12,x13,x14,x15,x16,x17,.int .i64 (i:Int),.int .i64 k,.slice none 0 0] 111)).drew:=by go_grown
   replace pX:=pX.below hal
   replace pY:=pY.below hal
   replace hr2:=owns_below hr2 hal
   replace k3:=k3.belowR hal
   have hBs:B≤(w3.alloc (.cells #[.string key,x0,x1,x2,x3,x4,x5,x6,x7,x8,x9,x10,x11,x12,x13,x14,x15,x16,x17,.int .i64 (i:Int),.int .i64 k,.slice none 0 0] 111)).drew.heap.size:=Nat.le_trans hBU hal.size
   replace hm4:∃ D:DataW Unit,(w3.alloc (.cells #[.string key,x0,x1,x2,x3,x4,x5,x6,x7,x8,x9,x10,x11,x12,x13,x14,x15,x16,x17,.int .i64 (i:Int),.int .i64 k,.slice none 0 0] 111)).drew.ownsMap Tryz.prog 9 (plainElem Tryz.prog 3) nb (L++[((z,i,k),Value.slice none 0 0)]).length D∧NumD D ((L++[((z,i,k),Value.slice none 0 0)]).map (·.1)):=by
    obtain ⟨D9,h1,h2⟩:=hm4
    exact ⟨D9,h1.kept (row:=none) ⟨hal.os,hal.tape,hal.output,hal.size,fun q hq _=>hal.block q hq⟩ (by simp),h2⟩
   replace hv3:∀ q9 r mv,q9<d→L[q9]?=some (r,mv)→(w3.alloc (.cells #[.string key,x0,x1,x2,x3,x4,x5,x6,x7,x8,x9,x10,x11,x12,x13,x14,x15,x16,x17,.int .i64 (i:Int),.int .i64 k,.slice none 0 0] 111)).drew.ownsRow B 192 4 mv (M r.1).length (flat4 (M r.1)):=fun i' r mv h1 h2=>owns_below (hv3 i' r mv h1 h2) hal
   replace cY:(w3.alloc (.cells #[.string key,x0,x1,x2,x3,x4,x5,x6,x7,x8,x9,x10,x11,x12,x13,x14,x15,x16,x17,.int .i64 (i:Int),.int .i64 k,.slice none 0 0] 111)).drew.rangeAt Y 0 [x0,x1,x2,x3,x4,x5,x6,x7,x8,x9,x10,x11,x12,x13,x14,x15,x16,x17]:=fun j v hj=>by rw [Nat.zero_add,pY.cell];exact hj
   have hZ9:X<Z∧Y<Z∧∀ j,(Value.slice va L.length vc).ownBlock=some j→j<Z:=⟨by rw [hZ];exact pX9,by rw [hZ];exact pY9,fun j hj=>by rw [hZ];exact hr9 j hj⟩
   go_simp
   rw [← hZ]
   refine hK.out _ _ cY (fun hS1=>?_)
   clear hK hal hZ
   generalize (w3.alloc (.cells #[.string key,x0,x1,x2,x3,x4,x5,x6,x7,x8,x9,x10,x11,x12,x13,x14,x15,x16,x17,.int .i64 (i:Int),.int .i64 k,.slice none 0 0] 111)).drew=V2 at *
   try simp only [Act.put,tka,tkb,tkc]
   refine tkr 4 40 (fun K hK=>?_)
   have rF:V2.cell? ⟨X,0,none⟩=some (.slice va L.length vc):=by simpa using pX.cell 0
   go_simp
   refine hK.out _ _ cY (fun hS2=>?_)
   clear hK rF
   try simp only [Act.put,tka,tkb,tkc]
   have hwZ:w.heap.size≤V2.heap.size:=k3.size
   clear pX9 pY9 hr9
   refine tkr 11 47 (fun K hK=>?_)
   refine step_append_at rfl _ _ 103 rfl B 111 i0 _ 22 248 Tryz.underlying103 hi9 hz0 hz1 hz2 rfl (by decide) (.slice va L.length vc) L.length (rcF cs L) rfl hr2 ⟨Z,0,none⟩ 1 1 [.string key,x0,x1,x2,x3,x4,x5,x6,x7,x8,x9,x10,x11,x12,x13,x14,x15,x16,x17,.int .i64 (i:Int),.int .i64 k,.slice none 0 0] rfl rfl (cells_new pZ) (fun u hu=>by simp only [List.mem_cons,List.not_mem_nil,or_false] at hu;rcases hu with rfl | rfl | rfl | rfl | rfl | rfl | rfl | rfl | rfl | rfl | rfl | rfl | rfl | rfl | rfl | rfl | rfl | rfl | rfl | rfl | rfl | rfl<;>first | assumption | rfl) (by unfold maxLen;omega) (by omega) hBs ?_
   intro vn U2 q2 gr atn
   have nX:(Value.slice va L.length vc).ownBlock≠some X:=fun e=>(hX9 X e).1 rfl
   have nY:(Value.slice va L.length vc).ownBlock≠some Y:=fun e=>(hX9 Y e).2 rfl
   replace pX:=pX.kept gr nX
   replace pY:=pY.kept gr nY
   replace k3:KeptS w U2 X nb (.slice va L.length vc):=⟨gr.os.trans k3.os,gr.tape.trans k3.tape,gr.output.trans k3.output,Nat.le_trans k3.size gr.size,fun q hq h1 h2 h3=>(gr.block q (Nat.lt_of_lt_of_le hq k3.size) (Ne.symm h3)).trans (k3.block q hq h1 h2 h3)⟩
   have hmv:MovedS w (.slice va L.length vc) vn:=by
    rcases atn with e9 | e9
    ·exact .inl e9
    ·exact .inr ⟨_,hwZ,e9⟩
   replace hm4:∃ D:DataW Unit,U2.ownsMap Tryz.prog 9 (plainElem Tryz.prog 3) nb (L++[((z,i,k),Value.slice none 0 0)]).length D∧NumD D ((L++[((z,i,k),Value.slice none 0 0)]).map (·.1)):=by
    obtain ⟨D9,h1,h2⟩:=hm4
    exact ⟨D9,h1.kept gr (fun e=>map_own h1 hr2 e.symm),h2⟩
   replace hv3:∀ q9 r mv,q9<d→L[q9]?=some (r,mv)→U2.ownsRow B 192 4 mv (M r.1).length (flat4 (M r.1)):=fun i r mv h1 h2=>(hv3 i r mv h1 h2).kept gr (Ap3.types (hv3 i r mv h1 h2) hr2 (by decide)).or
   replace cY:U2.rangeAt Y 0 [x0,x1,x2,x3,x4,x5,x6,x7,x8,x9,x10,x11,x12,x13,x14,x15,x16,x17]:=fun j v hj=>by rw [Nat.zero_add,pY.cell];exact hj
   have q3:U2.ownsRow B 111 22 vn (L++[((z,i,k),Value.slice none 0 0)]).length (rcF cs (L++[((z,i,k),Value.slice none 0 0)])):=by
    rw [rcF_app]
    show U2.ownsRow B 111 22 vn _ (rcF cs L++rcC cs (z,i,k) (.slice none 0 0))
    rw [HRC.out]
    simpa using q2
   refine hK.out _ _ cY (fun hS3=>?_)
   clear hK gr nX nY q2 atn hr2 pZ
   try simp only [Act.put,tka,tkb,tkc]
   refine tkm 12 48 (.pointer (some ⟨X,0,none⟩)) ?_
   refine tkm 13 49 (.pointer (some ⟨X,0,none⟩)) ?_
   have rF:U2.cell? ⟨X,0,none⟩=some (.slice va L.length vc):=by simpa using pX.cell 0
   have fF:=pX.frozen 0
   obtain ⟨ng,nc,rfl⟩:∃ ng nc,vn=.slice (some ⟨ng,0,none⟩) (L.length+1) nc:=by
    rcases q3.2 with ⟨_,h9⟩ | ⟨g,c,cur,h9,_⟩
    ·simp at h9
    ·exact ⟨g,c,by rw [h9];simp⟩
   refine tkz 14 (fun K hK=>?_)
   have gN:U2.grownBy (U2.setCell ⟨X,0,none⟩ (Value.slice (some ⟨ng,0,none⟩) (L.length+1) nc)) (some X):=grown_cell U2 X 0 (Value.slice (some ⟨ng,0,none⟩) (L.length+1) nc)
   have pN:=pX.set 0 (Value.slice (some ⟨ng,0,none⟩) (L.length+1) nc)
   have q4:=q3.kept gN (.inr (own_ne_blk9 q3 pX (by decide)))
   have hv4:∀ q9 r mv,q9<d→L[q9]?=some (r,mv)→(U2.setCell ⟨X,0,none⟩ (Value.slice (some ⟨ng,0,none⟩) (L.length+1) nc)).ownsRow B 192 4 mv (M r.1).length (flat4 (M r.1)):=fun i r mv h1 h2=>(hv3 i r mv h1 h2).kept gN (.inr (own_ne_blk9 (hv3 i r mv h1 h2) pX (by decide)))
   have hm5:∃ D:DataW Unit,(U2.setCell ⟨X,0,none⟩ (Value.slice (some ⟨ng,0,none⟩) (L.length+1) nc)).ownsMap Tryz.prog 9 (plainElem Tryz.prog 3) nb (L++[((z,i,k),Value.slice none 0 0)]).length D∧NumD D ((L++[((z,i,k),Value.slice none 0 0)]).map (·.1)):=by
    obtain ⟨D9,h1,h2⟩:=hm4
    exact ⟨D9,h1.kept gN (fun e=>map_blk h1 pX (by cases e;rfl)),h2⟩
   have k5:KeptS w (U2.setCell ⟨X,0,none⟩ (Value.slice (some ⟨ng,0,none⟩) (L.length+1) nc)) X nb (.slice va L.length vc):=⟨gN.os.trans k3.os,gN.tape.trans k3.tape,gN.output.trans k3.output,Nat.le_trans k3.size gN.size,fun q hq h1 h2 h3=>(gN.block q (Nat.lt_of_lt_of_le hq k3.size) (by simpa using h1)).trans (k3.block q hq h1 h2 h3)⟩
   have cY5:(U2.setCell ⟨X,0,none⟩ (Value.slice (some ⟨ng,0,none⟩) (L.length+1) nc)).rangeAt Y 0 [x0,x1,x2,x3,x4,x5,x6,x7,x8,x9,x10,x11,x12,x13,x14,x15,x16,x17]:=fun j v hj=>by rw [Nat.zero_add,(pY.kept gN (by simpa using hXY)).cell];exact hj
   go_simp
   refine hK.out _ _ cY5 (fun hS4=>?_)
   clear hK
   try simp only [Act.put,tka,tkb,tkc]
   refine wpAnyH_done (by kernel_rfl) ?_ _
   generalize hvn:(Value.slice (some ⟨ng,0,none⟩) (L.length+1) nc)=vn at *
   have HSp:Hid (SpcD (U2.setCell ⟨X,0,none⟩ vn) B nb vn cs M (L++[((z,i,k),Value.slice none 0 0)]) d):=by
    refine ⟨q4,hm5,fun i' r mv h1 h2=>?_,fun i' r mv h1 h2=>?_,hkeep.out.low⟩
    ·rw [List.getElem?_append_left (by omega)] at h2
     exact hv4 i' r mv h1 h2
    ·by_cases h9:i'<L.length
     ·rw [List.getElem?_append_left h9] at h2
      exact hkeep.out.nil i' r mv h1 h2
     ·rw [List.getElem?_append_right (by omega)] at h2
      have h8:=(List.getElem?_eq_some_iff.1 h2).1
      simp at h8
      rw [show i' - L.length=0 by omega] at h2
      simp at h2
      exact h2.2.symm
   have pN2:Blk (U2.setCell ⟨X,0,none⟩ vn) X 106 [vn,.map (some nb)]:=by simpa using pN
   clear cY cY5 rF fF gN k3 pX pY pN hm4 hv3 q3 q4 hv4 hm5 hS0 hS1 hS2 hS3 hS4 hkeep HRC
   generalize U2.setCell ⟨X,0,none⟩ vn=U3 at *
   clear hvn
   go_wp2
   go_ret
   exact MeetGot.new HMM.out HSp.out pN2 k5 hmv

namespace Rp
open Go.RowKit
set_option linter.unusedVariables false
set_option linter.unusedSimpArgs false
variable {fv : Value}

theorem state_raw (g:Nat) (da0:Option Addr) (dn0 dc0:Nat) (da1:Option Addr) (dn1 dc1:Nat) (da2:Option Addr) (dn2 dc2:Nat) (p0 p1 p2 v0 v1 v2 v3 h0 h1 x0 y0 x1 y1 x2 y2:Int) (w:World) (hM:Blk w g 91 [.slice da0 dn0 dc0,.int .i64 p0,.int .i64 x0,.int .i64 y0,.slice da1 dn1 dc1,.int .i64 p1,.int .i64 x1,.int .i64 y1,.slice da2 dn2 dc2,.int .i64 p2,.int .i64 x2,.int .i64 y2,.int .i64 v0,.int .i64 v1,.int .i64 v2,.int .i64 v3,.int .i64 h0,.int .i64 h1,fv]) :
  Calls Tryz.prog 59 #[.pointer (some ⟨g,0,none⟩)] w fun e w'=>VmOne e w' w.heap.size ([p0,p1,p2],[v0,v1,v2,v3],[h0,h1],[x0,y0,x1,y1,x2,y2])∧Below w.heap.size w w':=by
 have kN:=implNewVm_is
 have bw:Below w.heap.size w (w.alloc (.cells #[.slice none 0 0,.slice none 0 0,.slice none 0 0,.slice none 0 0] 33)):=by go_grown
 have pR:=Blk.new w 33 [.slice none 0 0,.slice none 0 0,.slice none 0 0,.slice none 0 0]
 go_enter Tryz.func59,Tryz.ntmps59
 go_wp2_with fail
 refine (kN _).mono ?_
 rintro e w1 ⟨⟨t,rfl,hO⟩,hb⟩
 obtain ⟨g0,g1,g2,g3,c0,c1,c2,c3,rfl,⟨l0,l1,l2,l3⟩,m0,m1,m2,m3⟩:=newVm_open hO
 unfold maxLen at m0 m1 m2 m3
 have uX:S4.val ((some ⟨g0,0,none⟩,3,c0),(some ⟨g1,0,none⟩,4,c1),(some ⟨g2,0,none⟩,2,c2),(some ⟨g3,0,none⟩,6,c3))=.agg #[.slice (some ⟨g0,0,none⟩) 3 c0,.slice (some ⟨g1,0,none⟩) 4 c1,.slice (some ⟨g2,0,none⟩) 2 c2,.slice (some ⟨g3,0,none⟩) 6 c3]:=rfl
 rw [uX]
 clear uX
 replace hO:=hO.lower9 bw.size
 have bA:Below w1.heap.size w1 (w1.alloc (.cells #[.slice (some ⟨g0,0,none⟩) 3 c0,.slice (some ⟨g1,0,none⟩) 4 c1,.slice (some ⟨g2,0,none⟩) 2 c2,.slice (some ⟨g3,0,none⟩) 6 c3] 33)):=by go_grown
 have pS:=Blk.new w1 33 [.slice (some ⟨g0,0,none⟩) 3 c0,.slice (some ⟨g1,0,none⟩) 4 c1,.slice (some ⟨g2,0,none⟩) 2 c2,.slice (some ⟨g3,0,none⟩) 6 c3]
 have hgS:w.heap.size<w1.heap.size:=Nat.lt_of_lt_of_le (by simp) hb.size
 replace bw:=bel_trans bw (bel_trans hb bA)
 replace pR:=pR.below (bel_trans hb bA)
 replace hO:=hO.below bA
 clear hb bA kN
 go_wp2_with fail
 generalize (w1.alloc (.cells #[.slice (some ⟨g0,0,none⟩) 3 c0,.slice (some ⟨g1,0,none⟩) 4 c1,.slice (some ⟨g2,0,none⟩) 2 c2,.slice (some ⟨g3,0,none⟩) 6 c3] 33))=W1 at *
 generalize w1.heap.size=gS at *
 unfold zeroV at hO
 have neS0:=hO.1.1.ne9 pS (by decide)
 have neR0:=hO.1.1.ne9 pR (by decide)
 have neS1:=hO.1.2.1.ne9 pS (by decide)
 have neR1:=hO.1.2.1.ne9 pR (by decide)
 have neS2:=hO.1.2.2.1.ne9 pS (by decide)
 have neR2:=hO.1.2.2.1.ne9 pR (by decide)
 have neS3:=hO.1.2.2.2.ne9 pS (by decide)
 have neR3:=hO.1.2.2.2.ne9 pR (by decide)
 have e1:W1.cell? ⟨gS,1,none⟩=some (.slice (some ⟨g1,0,none⟩) 4 c1):=by simpa using pS.cell 1
 refine wp_region_held_drew (S:=(fun w'=>w'.cell? ⟨gS,1,none⟩=some (.slice (some ⟨g1,0,none⟩) 4 c1))) (by kernel_rfl) e1 (fun hS0=>?_)
 refine tkm 0 7 (.pointer (some ⟨gS,1,none⟩)) ?_
 refine tkm 1 8 (.slice (some ⟨g1,0,none⟩) 4 c1) ?_
 refine tkm 2 9 (.pointer (some ⟨g,0,none⟩)) ?_
 refine tkm 3 10 (.pointer (some ⟨g,0,none⟩)) ?_
 refine tkm 4 11 (.pointer (some ⟨g,12,none⟩)) ?_
 refine tkm 5 12 (.slice (some ⟨g,12,none⟩) 4 4) ?_
 obtain ⟨cur,hcur,hcl,hct,hcB,hcn,hcm⟩:=(hO.1.2.1).open9
 refine tkr 6 13 (fun K hK=>?_)
 refine step_copy_grown rfl _ _ 27 27 rfl 3 Tryz.underlying27 (by kernel_rfl) g1 0 ⟨g,12,none⟩ _ _ _ _ rfl rfl cur 3 hcur.drew [.int .i64 v0,.int .i64 v1,.int .i64 v2,.int .i64 v3] (.int .i64 4) rfl rfl (blk_src (hM.below (bel_trans bw (by go_grown))) (fun j v hj=>by match j,hj with | 0,hj=>exact hj | 1,hj=>exact hj | 2,hj=>exact hj | 3,hj=>exact hj | (j+4),hj=>simp at hj)) (by simp;omega) (by simp [Value.oneCell']) ?_
 intro W2 hB9 gr
 replace hO:=OwnV.into1 hO.drew9 gr (OwnI.spliced9 (zs':=[v0,v1,v2,v3]) hcl hct hcB hcn hcm hB9.out (by simp) rfl rfl)
 simp only at hO
 replace pS:=(pS.drew).kept gr (fun e=>neS1 (by simpa using e.symm))
 replace pR:=(pR.drew).kept gr (fun e=>neR1 (by simpa using e.symm))
 
 replace bw:=(bel_trans bw (by go_grown:Below W1.heap.size W1 W1.drew)).grown gr (by have:=bw.size;exact this) (fun x hx=>by cases hx;exact hcB)
 refine hK.out _ _ ?_ (fun hS1=>?_)
 ·exact by simpa using pS.cell 1
 clear hK hS0 hS1 hB9 gr hcur hcl hct hcB hcn hcm
 try simp only [Act.put,tka,tkb,tkc]
 refine wpAnyH_done (by kernel_rfl) ?_ _
 clear e1
 go_wp2_with fail
 have e1:W2.cell? ⟨gS,2,none⟩=some (.slice (some ⟨g2,0,none⟩) 2 c2):=by simpa using pS.cell 2
 refine wp_region_held_drew (S:=(fun w'=>w'.cell? ⟨gS,2,none⟩=some (.slice (some ⟨g2,0,none⟩) 2 c2))) (by kernel_rfl) e1 (fun hS0=>?_)
 refine tkm 0 14 (.pointer (some ⟨gS,2,none⟩)) ?_
 refine tkm 1 15 (.slice (some ⟨g2,0,none⟩) 2 c2) ?_
 refine tkm 2 16 (.pointer (some ⟨g,0,none⟩)) ?_
 refine tkm 3 17 (.pointer (some ⟨g,0,none⟩)) ?_
 refine tkm 4 18 (.pointer (some ⟨g,16,none⟩)) ?_
 refine tkm 5 19 (.slice (some ⟨g,16,none⟩) 2 2) ?_
 obtain ⟨cur,hcur,hcl,hct,hcB,hcn,hcm⟩:=(hO.1.2.2.1).open9
 refine tkr 6 20 (fun K hK=>?_)
 refine step_copy_grown rfl _ _ 27 27 rfl 3 Tryz.underlying27 (by kernel_rfl) g2 0 ⟨g,16,none⟩ _ _ _ _ rfl rfl cur 3 hcur.drew [.int .i64 h0,.int .i64 h1] (.int .i64 2) rfl rfl (blk_src (hM.below (bel_trans bw (by go_grown))) (fun j v hj=>by match j,hj with | 0,hj=>exact hj | 1,hj=>exact hj | (j+2),hj=>simp at hj)) (by simp;omega) (by simp [Value.oneCell']) ?_
 intro W3 hB9 gr
 replace hO:=OwnV.into2 hO.drew9 gr (OwnI.spliced9 (zs':=[h0,h1]) hcl hct hcB hcn hcm hB9.out (by simp) rfl rfl)
 simp only at hO
 replace pS:=(pS.drew).kept gr (fun e=>neS2 (by simpa using e.symm))
 replace pR:=(pR.drew).kept gr (fun e=>neR2 (by simpa using e.symm))
 
 replace bw:=(bel_trans bw (by go_grown:Below W2.heap.size W2 W2.drew)).grown gr (by have:=bw.size;exact this) (fun x hx=>by cases hx;exact hcB)
 refine hK.out _ _ ?_ (fun hS1=>?_)
 ·exact by simpa using pS.cell 2
 clear hK hS0 hS1 hB9 gr hcur hcl hct hcB hcn hcm
 try simp only [Act.put,tka,tkb,tkc]
 refine wpAnyH_done (by kernel_rfl) ?_ _
 clear e1
 have t0:=(hM.below bw).cell 0
 have t1:=(hM.below bw).cell 1
 have t2:=(hM.below bw).cell 2
 have t3:=(hM.below bw).cell 3
 have t4:=(hM.below bw).cell 4
 have t5:=(hM.below bw).cell 5
 have t6:=(hM.below bw).cell 6
 have t7:=(hM.below bw).cell 7
 have t8:=(hM.below bw).cell 8
 have t9:=(hM.below bw).cell 9
 have t10:=(hM.below bw).cell 10
 have t11:=(hM.below bw).cell 11
 simp only [List.getElem?_cons_zero,List.getElem?_cons_succ] at t0 t1 t2 t3 t4 t5 t6 t7 t8 t9 t10 t11
 obtain ⟨PM,q0,q1,q2,q3⟩:∃ PM:Nat→V4,Hid (PM 0=([0,0,0],[v0,v1,v2,v3],[h0,h1],[0,0,0,0,0,0]))∧Hid (PM 1=([p0,0,0],[v0,v1,v2,v3],[h0,h1],[x0,y0,0,0,0,0]))∧Hid (PM 2=([p0,p1,0],[v0,v1,v2,v3],[h0,h1],[x0,y0,x1,y1,0,0]))∧Hid (PM 3=([p0,p1,p2],[v0,v1,v2,v3],[h0,h1],[x0,y0,x1,y1,x2,y2])):=
  ⟨fun k=>if k=0 then ([0,0,0],[v0,v1,v2,v3],[h0,h1],[0,0,0,0,0,0]) else if k=1 then ([p0,0,0],[v0,v1,v2,v3],[h0,h1],[x0,y0,0,0,0,0]) else if k=2 then ([p0,p1,0],[v0,v1,v2,v3],[h0,h1],[x0,y0,x1,y1,0,0]) else ([p0,p1,p2],[v0,v1,v2,v3],[h0,h1],[x0,y0,x1,y1,x2,y2]),rfl,rfl,rfl,rfl⟩
 have i0:=idxT_0 (.slice da0 dn0 dc0) (.int .i64 p0) (.int .i64 x0) (.int .i64 y0) (.slice da1 dn1 dc1) (.int .i64 p1) (.int .i64 x1) (.int .i64 y1) (.slice da2 dn2 dc2) (.int .i64 p2) (.int .i64 x2) (.int .i64 y2)
 have i1:=idxT_1 (.slice da0 dn0 dc0) (.int .i64 p0) (.int .i64 x0) (.int .i64 y0) (.slice da1 dn1 dc1) (.int .i64 p1) (.int .i64 x1) (.int .i64 y1) (.slice da2 dn2 dc2) (.int .i64 p2) (.int .i64 x2) (.int .i64 y2)
 have i2:=idxT_2 (.slice da0 dn0 dc0) (.int .i64 p0) (.int .i64 x0) (.int .i64 y0) (.slice da1 dn1 dc1) (.int .i64 p1) (.int .i64 x1) (.int .i64 y1) (.slice da2 dn2 dc2) (.int .i64 p2) (.int .i64 x2) (.int .i64 y2)
 have hO3:OwnV W3 w.heap.size ((some ⟨g0,0,none⟩,3,c0),(some ⟨g1,0,none⟩,4,c1),(some ⟨g2,0,none⟩,2,c2),(some ⟨g3,0,none⟩,6,c3)) (PM 0):=by rw [q0.out];exact hO
 clear hO
 have hO:=hO3
 clear hO3
 go_wp2_with fail
 clear t0 t1 t2 t3 t4 t5 t6 t7 t8 t9 t10 t11
 go_loopw [25] (fun si wr=>∃ k:Nat,k≤3∧si=.int .i64 k∧OwnV wr w.heap.size ((some ⟨g0,0,none⟩,3,c0),(some ⟨g1,0,none⟩,4,c1),(some ⟨g2,0,none⟩,2,c2),(some ⟨g3,0,none⟩,6,c3)) (PM k)∧Blk wr gS 33 [.slice (some ⟨g0,0,none⟩) 3 c0,.slice (some ⟨g1,0,none⟩) 4 c1,.slice (some ⟨g2,0,none⟩) 2 c2,.slice (some ⟨g3,0,none⟩) 6 c3]∧Blk wr w.heap.size 33 [.slice none 0 0,.slice none 0 0,.slice none 0 0,.slice none 0 0]∧Below w.heap.size w wr) (fun si _=>3 - (intOf si).toNat)
 case atStart=>exact ⟨0,by omega,rfl,hO,pS,pR,bw⟩
 case round =>
  clear hO pS pR bw neS0 neS1 neS2 neS3 neR0 neR1 neR2 neR3
  obtain ⟨k,hk,rfl,hO,pS,pR,bw⟩:=hrel
  rcases (show k=0∨k=1∨k=2∨k=3 by omega) with rfl | rfl | rfl | rfl
  ·skip
   rw [q0.out] at hO
   have neS0:=hO.1.1.ne9 pS (by decide)
   have neR0:=hO.1.1.ne9 pR (by decide)
   have neS1:=hO.1.2.1.ne9 pS (by decide)
   have neR1:=hO.1.2.1.ne9 pR (by decide)
   have neS2:=hO.1.2.2.1.ne9 pS (by decide)
   have neR2:=hO.1.2.2.1.ne9 pR (by decide)
   have neS3:=hO.1.2.2.2.ne9 pS (by decide)
   have neR3:=hO.1.2.2.2.ne9 pR (by decide)
   have hold:wr.cell? ⟨g0,0,none⟩=some (.int .i64 0):=hO.1.1.at9 (by decide)
   have hfz:=hO.1.1.frz9 0
   have hlo:=hO.1.1.lo9
   have bA:Below wr.heap.size wr (wr.alloc (.cells #[.slice da0 dn0 dc0,.int .i64 p0,.int .i64 x0,.int .i64 y0] 85)):=by go_grown
   have pT:=Blk.new wr 85 [.slice da0 dn0 dc0,.int .i64 p0,.int .i64 x0,.int .i64 y0]
   have hold2:(wr.alloc (.cells #[.slice da0 dn0 dc0,.int .i64 p0,.int .i64 x0,.int .i64 y0] 85)).cell? ⟨g0,0,none⟩=some (.int .i64 0):=cells_kept bA _ _ hold
   have hfz2:(wr.alloc (.cells #[.slice da0 dn0 dc0,.int .i64 p0,.int .i64 x0,.int .i64 y0] 85)).frozen? ⟨g0,0,none⟩=false:=(hO.below bA).1.1.frz9 0
   have pS1:=pS.below bA
   have s0:(wr.alloc (.cells #[.slice da0 dn0 dc0,.int .i64 p0,.int .i64 x0,.int .i64 y0] 85)).cell? ⟨gS,0,none⟩=some (.slice (some ⟨g0,0,none⟩) 3 c0):=by simpa using pS1.cell 0
   have bS:Below (wr.setCell ⟨g0,0,none⟩ (.int .i64 p0)).heap.size (wr.setCell ⟨g0,0,none⟩ (.int .i64 p0)) ((wr.setCell ⟨g0,0,none⟩ (.int .i64 p0)).alloc (.cells #[.slice da0 dn0 dc0,.int .i64 p0,.int .i64 x0,.int .i64 y0] 85)):=by go_grown
   have hO2:=(hO.set0 0 p0).below bS
   simp only [List.set_cons_zero,List.set_cons_succ] at hO2
   have pT2:Blk ((wr.setCell ⟨g0,0,none⟩ (.int .i64 p0)).alloc (.cells #[.slice da0 dn0 dc0,.int .i64 p0,.int .i64 x0,.int .i64 y0] 85)) wr.heap.size 85 [.slice da0 dn0 dc0,.int .i64 p0,.int .i64 x0,.int .i64 y0]:=by
    have h9:=Blk.new (wr.setCell ⟨g0,0,none⟩ (.int .i64 p0)) 85 [.slice da0 dn0 dc0,.int .i64 p0,.int .i64 x0,.int .i64 y0]
    rwa [World.size_setCell] at h9
   have pS2:=(pS.off ⟨g0,0,none⟩ (.int .i64 p0) neS0).below bS
   have pR2:=(pR.off ⟨g0,0,none⟩ (.int .i64 p0) neR0).below bS
   have b2:=bel_trans (bw.setCell (p:=⟨g0,0,none⟩) hlo.1 (.int .i64 p0)) bS
   clear pS1
   go_wp2_with fail
   clear hold hfz hold2 hfz2 s0 bA hO pS pR bw bS pT
   generalize hWW:((wr.setCell ⟨g0,0,none⟩ (.int .i64 p0)).alloc (.cells #[.slice da0 dn0 dc0,.int .i64 p0,.int .i64 x0,.int .i64 y0] 85))=Wa at *
   have hgT:wr.heap.size<Wa.heap.size:=pT2.lt
   clear hWW
   generalize wr.heap.size=gT at *
   have hO:=hO2
   have pS:=pS2
   have pR:=pR2
   have bw:=b2
   have pT:=pT2
   clear hO2 pS2 pR2 b2 pT2
   have neT3:=hO.1.2.2.2.ne9 pT (by decide)
   have e1:Wa.cell? ⟨gS,3,none⟩=some (.slice (some ⟨g3,0,none⟩) 6 c3):=by simpa using pS.cell 3
   have hz:¬ c3=0:=by omega
   have hzi:(0:Int)≤(6:Int):=by decide
   refine wp_region_held_drew (S:=(fun w'=>w'.cell? ⟨gS,3,none⟩=some (.slice (some ⟨g3,0,none⟩) 6 c3))) (by kernel_rfl) e1 (fun hS0=>?_)
   refine tkm 0 35 (.pointer (some ⟨gS,3,none⟩)) ?_
   refine tkm 1 36 (.slice (some ⟨g3,0,none⟩) 6 c3) ?_
   refine tkm 2 37 (.int .i64 0) ?_
   refine tkm 3 38 (.int .i64 0) ?_
   refine tkm 4 39 (.slice (some ⟨g3,0,none⟩) 6 c3) ?_
   refine tkm 5 40 (.pointer (some ⟨gT,2,none⟩)) ?_
   refine tkm 6 41 (.slice (some ⟨gT,2,none⟩) 2 2) ?_
   obtain ⟨cur,hcur,hcl,hct,hcB,hcn,hcm⟩:=(hO.1.2.2.2).open9
   refine tkr 7 42 (fun K hK=>?_)
   refine step_copy_grown rfl _ _ 27 27 rfl 3 Tryz.underlying27 (by kernel_rfl) g3 0 ⟨gT,2,none⟩ _ _ _ _ rfl rfl cur 3 hcur.drew [.int .i64 x0,.int .i64 y0] (.int .i64 2) rfl rfl (blk_src pT.drew (fun j v hj=>by match j,hj with | 0,hj=>exact hj | 1,hj=>exact hj | (j+2),hj=>simp at hj)) (by simp;omega) (by simp [Value.oneCell']) ?_
   intro Wb hB9 gr
   replace hO:=OwnV.into3 hO.drew9 gr (OwnI.spliced9 (zs':=[x0,y0,0,0,0,0]) hcl hct hcB hcn hcm hB9.out (by simp) rfl rfl)
   simp only at hO
   replace pS:=(pS.drew).kept gr (fun e=>neS3 (by simpa using e.symm))
   replace pR:=(pR.drew).kept gr (fun e=>neR3 (by simpa using e.symm))
   
   replace bw:=(bel_trans bw (by go_grown:Below Wa.heap.size Wa Wa.drew)).grown gr (by have:=bw.size;exact this) (fun x hx=>by cases hx;exact hcB)
   refine hK.out _ _ ?_ (fun hS1=>?_)
   ·exact by simpa using pS.cell 3
   clear hK hS0 hS1 hB9 gr hcur hcl hct hcB hcn hcm
   try simp only [Act.put,tka,tkb,tkc]
   refine wpAnyH_done (by kernel_rfl) ?_ _
   rw [show ([p0,0,0],[v0,v1,v2,v3],[h0,h1],[x0,y0,0,0,0,0])=PM 1 from q1.out.symm] at hO
   clear e1 hz hzi pT
   go_wp2
   go_roundw
   case rel=>exact ⟨1,by omega,rfl,hO,pS,pR,bw⟩
   case measure=>simp [intOf]
  ·skip
   rw [q1.out] at hO
   have neS0:=hO.1.1.ne9 pS (by decide)
   have neR0:=hO.1.1.ne9 pR (by decide)
   have neS1:=hO.1.2.1.ne9 pS (by decide)
   have neR1:=hO.1.2.1.ne9 pR (by decide)
   have neS2:=hO.1.2.2.1.ne9 pS (by decide)
   have neR2:=hO.1.2.2.1.ne9 pR (by decide)
   have neS3:=hO.1.2.2.2.ne9 pS (by decide)
   have neR3:=hO.1.2.2.2.ne9 pR (by decide)
   have hold:wr.cell? ⟨g0,1,none⟩=some (.int .i64 0):=hO.1.1.at9 (by decide)
   have hfz:=hO.1.1.frz9 1
   have hlo:=hO.1.1.lo9
   have bA:Below wr.heap.size wr (wr.alloc (.cells #[.slice da1 dn1 dc1,.int .i64 p1,.int .i64 x1,.int .i64 y1] 85)):=by go_grown
   have pT:=Blk.new wr 85 [.slice da1 dn1 dc1,.int .i64 p1,.int .i64 x1,.int .i64 y1]
   have hold2:(wr.alloc (.cells #[.slice da1 dn1 dc1,.int .i64 p1,.int .i64 x1,.int .i64 y1] 85)).cell? ⟨g0,1,none⟩=some (.int .i64 0):=cells_kept bA _ _ hold
   have hfz2:(wr.alloc (.cells #[.slice da1 dn1 dc1,.int .i64 p1,.int .i64 x1,.int .i64 y1] 85)).frozen? ⟨g0,1,none⟩=false:=(hO.below bA).1.1.frz9 1
   have pS1:=pS.below bA
   have s0:(wr.alloc (.cells #[.slice da1 dn1 dc1,.int .i64 p1,.int .i64 x1,.int .i64 y1] 85)).cell? ⟨gS,0,none⟩=some (.slice (some ⟨g0,0,none⟩) 3 c0):=by simpa using pS1.cell 0
   have bS:Below (wr.setCell ⟨g0,1,none⟩ (.int .i64 p1)).heap.size (wr.setCell ⟨g0,1,none⟩ (.int .i64 p1)) ((wr.setCell ⟨g0,1,none⟩ (.int .i64 p1)).alloc (.cells #[.slice da1 dn1 dc1,.int .i64 p1,.int .i64 x1,.int .i64 y1] 85)):=by go_grown
   have hO2:=(hO.set0 1 p1).below bS
   simp only [List.set_cons_zero,List.set_cons_succ] at hO2
   have pT2:Blk ((wr.setCell ⟨g0,1,none⟩ (.int .i64 p1)).alloc (.cells #[.slice da1 dn1 dc1,.int .i64 p1,.int .i64 x1,.int .i64 y1] 85)) wr.heap.size 85 [.slice da1 dn1 dc1,.int .i64 p1,.int .i64 x1,.int .i64 y1]:=by
    have h9:=Blk.new (wr.setCell ⟨g0,1,none⟩ (.int .i64 p1)) 85 [.slice da1 dn1 dc1,.int .i64 p1,.int .i64 x1,.int .i64 y1]
    rwa [World.size_setCell] at h9
   have pS2:=(pS.off ⟨g0,1,none⟩ (.int .i64 p1) neS0).below bS
   have pR2:=(pR.off ⟨g0,1,none⟩ (.int .i64 p1) neR0).below bS
   have b2:=bel_trans (bw.setCell (p:=⟨g0,1,none⟩) hlo.1 (.int .i64 p1)) bS
   clear pS1
   go_wp2_with fail
   clear hold hfz hold2 hfz2 s0 bA hO pS pR bw bS pT
   generalize hWW:((wr.setCell ⟨g0,1,none⟩ (.int .i64 p1)).alloc (.cells #[.slice da1 dn1 dc1,.int .i64 p1,.int .i64 x1,.int .i64 y1] 85))=Wa at *
   have hgT:wr.heap.size<Wa.heap.size:=pT2.lt
   clear hWW
   generalize wr.heap.size=gT at *
   have hO:=hO2
   have pS:=pS2
   have pR:=pR2
   have bw:=b2
   have pT:=pT2
   clear hO2 pS2 pR2 b2 pT2
   have neT3:=hO.1.2.2.2.ne9 pT (by decide)
   have e1:Wa.cell? ⟨gS,3,none⟩=some (.slice (some ⟨g3,0,none⟩) 6 c3):=by simpa using pS.cell 3
   have hz:¬ c3=2:=by omega
   have hzi:(2:Int)≤(6:Int):=by decide
   refine wp_region_held_drew (S:=(fun w'=>w'.cell? ⟨gS,3,none⟩=some (.slice (some ⟨g3,0,none⟩) 6 c3))) (by kernel_rfl) e1 (fun hS0=>?_)
   refine tkm 0 35 (.pointer (some ⟨gS,3,none⟩)) ?_
   refine tkm 1 36 (.slice (some ⟨g3,0,none⟩) 6 c3) ?_
   refine tkm 2 37 (.int .i64 1) ?_
   refine tkm 3 38 (.int .i64 2) ?_
   refine tkm 4 39 (.slice (some ⟨g3,2,none⟩) 4 (c3 - 2)) ?_
   refine tkm 5 40 (.pointer (some ⟨gT,2,none⟩)) ?_
   refine tkm 6 41 (.slice (some ⟨gT,2,none⟩) 2 2) ?_
   obtain ⟨cur,hcur,hcl,hct,hcB,hcn,hcm⟩:=(hO.1.2.2.2).open9
   refine tkr 7 42 (fun K hK=>?_)
   refine step_copy_grown rfl _ _ 27 27 rfl 3 Tryz.underlying27 (by kernel_rfl) g3 2 ⟨gT,2,none⟩ _ _ _ _ rfl rfl cur 3 hcur.drew [.int .i64 x1,.int .i64 y1] (.int .i64 2) rfl rfl (blk_src pT.drew (fun j v hj=>by match j,hj with | 0,hj=>exact hj | 1,hj=>exact hj | (j+2),hj=>simp at hj)) (by simp;omega) (by simp [Value.oneCell']) ?_
   intro Wb hB9 gr
   replace hO:=OwnV.into3 hO.drew9 gr (OwnI.spliced9 (zs':=[x0,y0,x1,y1,0,0]) hcl hct hcB hcn hcm hB9.out (by simp) rfl rfl)
   simp only at hO
   replace pS:=(pS.drew).kept gr (fun e=>neS3 (by simpa using e.symm))
   replace pR:=(pR.drew).kept gr (fun e=>neR3 (by simpa using e.symm))
   
   replace bw:=(bel_trans bw (by go_grown:Below Wa.heap.size Wa Wa.drew)).grown gr (by have:=bw.size;exact this) (fun x hx=>by cases hx;exact hcB)
   refine hK.out _ _ ?_ (fun hS1=>?_)
   ·exact by simpa using pS.cell 3
   clear hK hS0 hS1 hB9 gr hcur hcl hct hcB hcn hcm
   try simp only [Act.put,tka,tkb,tkc]
   refine wpAnyH_done (by kernel_rfl) ?_ _
   rw [show ([p0,p1,0],[v0,v1,v2,v3],[h0,h1],[x0,y0,x1,y1,0,0])=PM 2 from q2.out.symm] at hO
   clear e1 hz hzi pT
   go_wp2
   go_roundw
   case rel=>exact ⟨2,by omega,rfl,hO,pS,pR,bw⟩
   case measure=>simp [intOf]
  ·skip
   rw [q2.out] at hO
   have neS0:=hO.1.1.ne9 pS (by decide)
   have neR0:=hO.1.1.ne9 pR (by decide)
   have neS1:=hO.1.2.1.ne9 pS (by decide)
   have neR1:=hO.1.2.1.ne9 pR (by decide)
   have neS2:=hO.1.2.2.1.ne9 pS (by decide)
   have neR2:=hO.1.2.2.1.ne9 pR (by decide)
   have neS3:=hO.1.2.2.2.ne9 pS (by decide)
   have neR3:=hO.1.2.2.2.ne9 pR (by decide)
   have hold:wr.cell? ⟨g0,2,none⟩=some (.int .i64 0):=hO.1.1.at9 (by decide)
   have hfz:=hO.1.1.frz9 2
   have hlo:=hO.1.1.lo9
   have bA:Below wr.heap.size wr (wr.alloc (.cells #[.slice da2 dn2 dc2,.int .i64 p2,.int .i64 x2,.int .i64 y2] 85)):=by go_grown
   have pT:=Blk.new wr 85 [.slice da2 dn2 dc2,.int .i64 p2,.int .i64 x2,.int .i64 y2]
   have hold2:(wr.alloc (.cells #[.slice da2 dn2 dc2,.int .i64 p2,.int .i64 x2,.int .i64 y2] 85)).cell? ⟨g0,2,none⟩=some (.int .i64 0):=cells_kept bA _ _ hold
   have hfz2:(wr.alloc (.cells #[.slice da2 dn2 dc2,.int .i64 p2,.int .i64 x2,.int .i64 y2] 85)).frozen? ⟨g0,2,none⟩=false:=(hO.below bA).1.1.frz9 2
   have pS1:=pS.below bA
   have s0:(wr.alloc (.cells #[.slice da2 dn2 dc2,.int .i64 p2,.int .i64 x2,.int .i64 y2] 85)).cell? ⟨gS,0,none⟩=some (.slice (some ⟨g0,0,none⟩) 3 c0):=by simpa using pS1.cell 0
   have bS:Below (wr.setCell ⟨g0,2,none⟩ (.int .i64 p2)).heap.size (wr.setCell ⟨g0,2,none⟩ (.int .i64 p2)) ((wr.setCell ⟨g0,2,none⟩ (.int .i64 p2)).alloc (.cells #[.slice da2 dn2 dc2,.int .i64 p2,.int .i64 x2,.int .i64 y2] 85)):=by go_grown
   have hO2:=(hO.set0 2 p2).below bS
   simp only [List.set_cons_zero,List.set_cons_succ] at hO2
   have pT2:Blk ((wr.setCell ⟨g0,2,none⟩ (.int .i64 p2)).alloc (.cells #[.slice da2 dn2 dc2,.int .i64 p2,.int .i64 x2,.int .i64 y2] 85)) wr.heap.size 85 [.slice da2 dn2 dc2,.int .i64 p2,.int .i64 x2,.int .i64 y2]:=by
    have h9:=Blk.new (wr.setCell ⟨g0,2,none⟩ (.int .i64 p2)) 85 [.slice da2 dn2 dc2,.int .i64 p2,.int .i64 x2,.int .i64 y2]
    rwa [World.size_setCell] at h9
   have pS2:=(pS.off ⟨g0,2,none⟩ (.int .i64 p2) neS0).below bS
   have pR2:=(pR.off ⟨g0,2,none⟩ (.int .i64 p2) neR0).below bS
   have b2:=bel_trans (bw.setCell (p:=⟨g0,2,none⟩) hlo.1 (.int .i64 p2)) bS
   clear pS1
   go_wp2_with fail
   clear hold hfz hold2 hfz2 s0 bA hO pS pR bw bS pT
   generalize hWW:((wr.setCell ⟨g0,2,none⟩ (.int .i64 p2)).alloc (.cells #[.slice da2 dn2 dc2,.int .i64 p2,.int .i64 x2,.int .i64 y2] 85))=Wa at *
   have hgT:wr.heap.size<Wa.heap.size:=pT2.lt
   clear hWW
   generalize wr.heap.size=gT at *
   have hO:=hO2
   have pS:=pS2
   have pR:=pR2
   have bw:=b2
   have pT:=pT2
   clear hO2 pS2 pR2 b2 pT2
   have neT3:=hO.1.2.2.2.ne9 pT (by decide)
   have e1:Wa.cell? ⟨gS,3,none⟩=some (.slice (some ⟨g3,0,none⟩) 6 c3):=by simpa using pS.cell 3
   have hz:¬ c3=4:=by omega
   have hzi:(4:Int)≤(6:Int):=by decide
   refine wp_region_held_drew (S:=(fun w'=>w'.cell? ⟨gS,3,none⟩=some (.slice (some ⟨g3,0,none⟩) 6 c3))) (by kernel_rfl) e1 (fun hS0=>?_)
   refine tkm 0 35 (.pointer (some ⟨gS,3,none⟩)) ?_
   refine tkm 1 36 (.slice (some ⟨g3,0,none⟩) 6 c3) ?_
   refine tkm 2 37 (.int .i64 2) ?_
   refine tkm 3 38 (.int .i64 4) ?_
   refine tkm 4 39 (.slice (some ⟨g3,4,none⟩) 2 (c3 - 4)) ?_
   refine tkm 5 40 (.pointer (some ⟨gT,2,none⟩)) ?_
   refine tkm 6 41 (.slice (some ⟨gT,2,none⟩) 2 2) ?_
   obtain ⟨cur,hcur,hcl,hct,hcB,hcn,hcm⟩:=(hO.1.2.2.2).open9
   refine tkr 7 42 (fun K hK=>?_)
   refine step_copy_grown rfl _ _ 27 27 rfl 3 Tryz.underlying27 (by kernel_rfl) g3 4 ⟨gT,2,none⟩ _ _ _ _ rfl rfl cur 3 hcur.drew [.int .i64 x2,.int .i64 y2] (.int .i64 2) rfl rfl (blk_src pT.drew (fun j v hj=>by match j,hj with | 0,hj=>exact hj | 1,hj=>exact hj | (j+2),hj=>simp at hj)) (by simp;omega) (by simp [Value.oneCell']) ?_
   intro Wb hB9 gr
   replace hO:=OwnV.into3 hO.drew9 gr (OwnI.spliced9 (zs':=[x0,y0,x1,y1,x2,y2]) hcl hct hcB hcn hcm hB9.out (by simp) rfl rfl)
   simp only at hO
   replace pS:=(pS.drew).kept gr (fun e=>neS3 (by simpa using e.symm))
   replace pR:=(pR.drew).kept gr (fun e=>neR3 (by simpa using e.symm))
   
   replace bw:=(bel_trans bw (by go_grown:Below Wa.heap.size Wa Wa.drew)).grown gr (by have:=bw.size;exact this) (fun x hx=>by cases hx;exact hcB)
   refine hK.out _ _ ?_ (fun hS1=>?_)
   ·exact by simpa using pS.cell 3
   clear hK hS0 hS1 hB9 gr hcur hcl hct hcB hcn hcm
   try simp only [Act.put,tka,tkb,tkc]
   refine wpAnyH_done (by kernel_rfl) ?_ _
   rw [show ([p0,p1,p2],[v0,v1,v2,v3],[h0,h1],[x0,y0,x1,y1,x2,y2])=PM 3 from q3.out.symm] at hO
   clear e1 hz hzi pT
   go_wp2
   go_roundw
   case rel=>exact ⟨3,by omega,rfl,hO,pS,pR,bw⟩
   case measure=>simp [intOf]
  ·go_wp2_with (first | refine wpList_load_blk rfl 33 _ rfl gS rfl pS _ Tryz.underlying33 rfl (by kernel_rfl) ?_ | refine wpList_store_blk rfl 33 _ _ rfl w.heap.size [.slice (some ⟨g0,0,none⟩) 3 c0,.slice (some ⟨g1,0,none⟩) 4 c1,.slice (some ⟨g2,0,none⟩) 2 c2,.slice (some ⟨g3,0,none⟩) 6 c3] rfl rfl pR (by kernel_rfl) rfl rfl ?_)
   intro w9 pR9 g9
   replace bw:=bw.grown g9 bw.size (fun k hk=>by cases hk;omega)
   replace hO:=hO.kept9 g9 pR (by decide)
   clear g9 pR pS
   go_wp2_with fail
   refine bodyPost_ret (results_blk1 Tryz.results59 _ _ _ _ _ _ rfl pR9.out Tryz.underlying33 rfl (by kernel_rfl)) rfl ?_
   rw [q3.out] at hO
   exact ⟨VmOne.mk9 ((some ⟨g0,0,none⟩,3,c0),(some ⟨g1,0,none⟩,4,c1),(some ⟨g2,0,none⟩,2,c2),(some ⟨g3,0,none⟩,6,c3)) rfl hO,bw⟩
theorem state_is {w:World} {g:Nat} {cs:Sl × Sl × Sl} {m:V4} (hM:Blk w g 91 (machR fv cs.1.val cs.2.1.val cs.2.2.val m)) (hs:shapeOk m=true) :
  Calls Tryz.prog 59 #[.pointer (some ⟨g,0,none⟩)] w fun e w'=>VmOne e w' w.heap.size m∧Below w.heap.size w w':=by
 obtain ⟨p0,p1,p2,v0,v1,v2,v3,h0,h1,x0,y0,x1,y1,x2,y2,rfl⟩:=shape_lists hs
 exact state_raw g cs.1.1 cs.1.2.1 cs.1.2.2 cs.2.1.1 cs.2.1.2.1 cs.2.1.2.2 cs.2.2.1 cs.2.2.2.1 cs.2.2.2.2 p0 p1 p2 v0 v1 v2 v3 h0 h1 x0 y0 x1 y1 x2 y2 w hM

end Rp
end Go.Proofs.YtifoggpohlegmaaGreatDoor
