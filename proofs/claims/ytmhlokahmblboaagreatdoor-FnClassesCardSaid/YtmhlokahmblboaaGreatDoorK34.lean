/-
  Joined: Meet, SpGo, SpcO.
-/
import Derived.Carry
import Derived.Test.YtmhlokahmblboaaGreatDoorK32
import Derived.Test.YtmhlokahmblboaaGreatDoorK33

namespace Go.Proofs.YtmhlokahmblboaaGreatDoor
set_option maxRecDepth 100000
set_option maxHeartbeats 16000000
open Go.RowKit
set_option linter.unusedVariables false
set_option linter.unusedSimpArgs false

theorem PC:(Tryz.prog.info? 202).map (fun i=>(i.zero,i.size,i.bytes))=some (some (.agg #[.string ⟨#[]⟩,.slice none 0 0,.int .i64 0,.int .i64 0,.int .i64 0,.slice none 0 0,.int .i64 0,.int .i64 0,.int .i64 0,.slice none 0 0,.int .i64 0,.int .i64 0,.int .i64 0,.int .i64 0,.int .i64 0,.int .i64 0,.int .i64 0,.int .i64 0,.int .i64 0,.int .i64 0,.int .i64 0,.slice none 0 0]),22,248):=by kernel_rfl
def Vh (i:Nat) (L:List (Zp V4 × Value)) (k:Int) (z:V4):List (Zp V4 × Value):=if SQ (L.map (·.1)) z then L else L++[((z,i,k),.slice none 0 0)]
theorem Ua (i:Nat) (L:List (Zp V4 × Value)) (k:Int) (z:V4):(Vh i L k z).map (·.1)=XW i (L.map (·.1)) (k,z):=by
 unfold Vh XW
 split<;>simp_all
def Wp (e:Ending) (w w':World) (B X nb:Nat) (vs:Value) (cs:Sl × Sl × Sl) (M:V4→List I4) (L:List (Zp V4 × Value)) (d:Nat) (z:V4) (i:Nat) (k:Int):Prop:=
 ∃ vs',e=.returned (.int .i64 (ixS ((Vh i L k z).map (·.1)) z:Int))∧Y6 w' B nb vs' cs M (Vh i L k z) d∧Blk w' X 125 [vs',.map (some nb)]∧Ym w w' X nb vs∧ZU w vs vs'
theorem Wp.old {w w':World} {B X nb d:Nat} {vs:Value} {cs:Sl × Sl × Sl} {M:V4→List I4} {L:List (Zp V4 × Value)} {z:V4} {i:Nat} {k:Int} (hh:SQ (L.map (·.1)) z=true) (h1:Y6 w' B nb vs cs M L d) (h2:Blk w' X 125 [vs,.map (some nb)]) (h3:Ym w w' X nb vs):Wp (.returned (.int .i64 (ixS (L.map (·.1)) z:Int))) w w' B X nb vs cs M L d z i k:=by
 have e:Vh i L k z=L:=by unfold Vh;rw [if_pos hh]
 unfold Wp
 rw [e]
 exact ⟨vs,rfl,h1,h2,h3,ZU.refl _ _⟩
theorem Wp.new {w w':World} {B X nb d:Nat} {vs vs':Value} {cs:Sl × Sl × Sl} {M:V4→List I4} {L:List (Zp V4 × Value)} {z:V4} {i:Nat} {k:Int} (hm:z ∉ (L.map (·.1)).map (·.1)) (h1:Y6 w' B nb vs' cs M (L++[((z,i,k),.slice none 0 0)]) d) (h2:Blk w' X 125 [vs',.map (some nb)]) (h3:Ym w w' X nb vs) (h4:ZU w vs vs'):Wp (.returned (.int .i64 (L.length:Int))) w w' B X nb vs cs M L d z i k:=by
 have hh:SQ (L.map (·.1)) z=false:=by
  cases h9:SQ (L.map (·.1)) z
  ·rfl
  exact absurd (Vn.1 h9) hm
 have e:Vh i L k z=L++[((z,i,k),.slice none 0 0)]:=by unfold Vh;rw [hh];rfl
 have hix:ixS ((L++[((z,i,k),Value.slice none 0 0)]).map (·.1)) z=L.length:=by
  rw [List.map_append]
  have:=S7 i k hm
  simpa using this
 unfold Wp
 rw [e,hix]
 exact ⟨vs',rfl,h1,h2,h3,h4⟩
theorem Kh {z:Int} (h:0≤z) (h':z≤1000000000):(Lit.int .i64 z).wf=true:=by
 simp only [Lit.wf,Bool.and_eq_true,decide_eq_true_eq]
 have h1:IntKind.i64.min=-9223372036854775808:=by decide
 have h2:IntKind.i64.max=9223372036854775807:=by decide
 omega
theorem RQ (c0 c1 c2:Sl) (m:V4):(Zf c0.val c1.val c2.val m).all (·.oneCell')=true:=rfl
theorem Ww {w:World} {g t:Nat} {cs:List Value} (h:Blk w g t cs):∀ j u,cs[j]?=some u→w.cell? ((⟨g,0,none⟩:Addr).add j)=some u:=by
 intro j u hj
 rw [Addr.add_mid,Nat.zero_add,h.cell]
 exact hj
theorem Ln {w:World} {B X nb d:Nat} {vs:Value} {cs:Sl × Sl × Sl} {M:V4→List I4} {L:List (Zp V4 × Value)} (hS:Y6 w B nb vs cs M L d) (hX:Blk w X 125 [vs,.map (some nb)]) (hBw:B≤w.heap.size) (hd:d≤L.length) (hsh:YJ (L.map (·.1))) (hV:Ys w) {z:V4} (hz:Zk z=true) (hl:L.length≤100000) (i:Nat) (k:Int) :
  Calls Tryz.prog 122 #[.pointer (some ⟨X,0,none⟩),.agg (Zf cs.1.val cs.2.1.val cs.2.2.val z).toArray,.int .i64 i,.int .i64 k] w fun e w'=>Wp e w w' B X nb vs cs M L d z i k:=by
 have kT:=fun (W:World) (g:Nat) (h:Blk W g 69 (Zf cs.1.val cs.2.1.val cs.2.2.val z)) (hV:Ys W)=>G1 (cs:=cs) h hz hV
 have HRC:Hid (rcC cs (z,i,k) (.slice none 0 0)=.string (Ye z)::(Zf cs.1.val cs.2.1.val cs.2.2.val z++[.int .i64 (i:Int),.int .i64 k,.slice none 0 0])):=rfl
 have hone:=RQ cs.1 cs.2.1 cs.2.2 z
 obtain ⟨x0,x1,x2,x3,x4,x5,x6,x7,x8,x9,x10,x11,x12,x13,x14,x15,x16,x17,hMC⟩:∃ x0 x1 x2 x3 x4 x5 x6 x7 x8 x9 x10 x11 x12 x13 x14 x15 x16 x17:Value,Zf cs.1.val cs.2.1.val cs.2.2.val z=[x0,x1,x2,x3,x4,x5,x6,x7,x8,x9,x10,x11,x12,x13,x14,x15,x16,x17]:=⟨_,_,_,_,_,_,_,_,_,_,_,_,_,_,_,_,_,_,rfl⟩
 rw [hMC] at kT HRC hone ⊢
 clear hMC
 simp only [List.all_cons,List.all_nil,Bool.and_true,Bool.and_eq_true] at hone
 obtain ⟨o0,o1,o2,o3,o4,o5,o6,o7,o8,o9,o10,o11,o12,o13,o14,o15,o16,o17⟩:=hone
 have hks:(Ye z).size≤maxLen:=by rw [RJ hz];unfold maxLen;omega
 have hkey:keyOf Tryz.prog 9 (.string (Ye z))=some (.string (Ye z).data.toList):=WideMaps.keyOf_string_mk Tryz.underlying9 hks
 have bw:Below w.heap.size w (w.alloc (.cells #[x0,x1,x2,x3,x4,x5,x6,x7,x8,x9,x10,x11,x12,x13,x14,x15,x16,x17] 69)):=by go_grown
 have pY:Blk (w.alloc (.cells #[x0,x1,x2,x3,x4,x5,x6,x7,x8,x9,x10,x11,x12,x13,x14,x15,x16,x17] 69)) w.heap.size 69 [x0,x1,x2,x3,x4,x5,x6,x7,x8,x9,x10,x11,x12,x13,x14,x15,x16,x17]:=Zo _ _ _ rfl
 obtain ⟨D,hm,hN⟩:=hS.map
 have hN2:Hid (∀ x,x ∈ (L.map (·.1)).map (·.1)→∀ zz,D.atKey (.string (Ye x).data.toList) zz=.lit (.int .i64 (ixS (L.map (·.1)) x))):=hN.at9
 have hhas:=hN.has (Ye z)
 have hiff:=S6 hsh hz
 have HP:=fun (hn:z ∉ (L.map (·.1)).map (·.1))=>UK.put hN hm.isMap hsh hz hn i k
 go_enter Tryz.func122,Tryz.ntmps122
 go_wp2_with fail
 generalize w.alloc (.cells #[x0,x1,x2,x3,x4,x5,x6,x7,x8,x9,x10,x11,x12,x13,x14,x15,x16,x17] 69)=U at *
 refine (kT _ _ pY (hV.below bw)).mono ?_
 rintro e w2 ⟨rfl,hb⟩
 replace bw:=Zb bw hb
 replace pY:=pY.below hb
 clear hb kT hV
 have hS2:=hS.below bw
 have pX:=hX.below bw
 have hXY:X≠w.heap.size:=by have:=hX.lt;omega
 have hm2:w2.ownsMap Tryz.prog 9 (plainElem Tryz.prog 3) nb L.length D:=hm.kept (row:=none) ⟨bw.os,bw.tape,bw.output,bw.size,fun k hk _=>bw.block k hk⟩ (by simp)
 obtain ⟨Y,hY⟩:∃ Y,Y=w.heap.size:=⟨_,rfl⟩
 rw [← hY] at pY hXY ⊢
 have hYw:w.heap.size≤Y:=by omega
 clear hY
 have cX0:w2.cell? ⟨X,0,none⟩=some vs:=by simpa using pX.cell 0
 have cX1:w2.cell? ⟨X,1,none⟩=some (.map (some nb)):=by simpa using pX.cell 1
 by_cases hmem:z ∈ (L.map (·.1)).map (·.1)
 ·have hh:SQ (L.map (·.1)) z=true:=Vn.2 hmem
  have hL:Vh i L k z=L:=by unfold Vh;rw [if_pos hh]
  have hhT:Maps.has D (.string (Ye z).data.toList)=true:=hhas.2 (hiff.1 hh)
  have hat9:=hN2.out z hmem (.lit (.int .i64 0))
  clear hhas hiff HP hN hN2 hL hS hm
  have HH:Hid (SQ (L.map (·.1)) z=true):=hh
  clear hh
  go_wp2_with (at_lookup;refine wpList_lookup_own_ok_int _ rfl _ _ 76 rfl 9 3 .i64 Vp Tryz.underlying76 Tryz.underlying3 (Sy _) nb L.length D rfl hm2 _ _ rfl hkey ?_;intro c hat hwc)
  rw [hat9] at hat
  injection hat with hat
  injection hat with _ hat
  subst hat
  clear hat9 hwc
  go_wp2
  go_ret
  exact Wp.old HH.out hS2 pX (Ym.of_below X nb vs bw)
 have hwZ0:=hYw
 have hh:SQ (L.map (·.1)) z=false:=by
  cases h9:SQ (L.map (·.1)) z
  ·rfl
  exact absurd (Vn.1 h9) hmem
 have hL:Vh i L k z=L++[((z,i,k),.slice none 0 0)]:=by unfold Vh;rw [hh];rfl
 have hhF:Maps.has D (.string (Ye z).data.toList)=false:=by
  rw [← Bool.not_eq_true,hhas]
  intro h9
  rw [hiff.2 h9] at hh
  cases hh
 have HNP:=HP hmem
 have hix:ixS ((L++[((z,i,k),Value.slice none 0 0)]).map (·.1)) z=L.length:=by
  rw [List.map_append]
  have:=S7 i k hmem
  simpa using this
 rw [List.length_map] at HNP
 have HMM:Hid (z ∉ (L.map (·.1)).map (·.1)):=hmem
 clear hhas hiff HP hN hN2 hL hh hm hix hmem
 have HM9:Hid (∀ W:World,W.ownsMap Tryz.prog 9 (plainElem Tryz.prog 3) nb (L.length+1) (D.put (.string (Ye z).data.toList) (.lit (.int .i64 L.length)))→∃ D:DataW Unit,W.ownsMap Tryz.prog 9 (plainElem Tryz.prog 3) nb (L++[((z,i,k),Value.slice none 0 0)]).length D∧UK D ((L++[((z,i,k),Value.slice none 0 0)]).map (·.1))):=fun W h=>⟨_,by simpa using h,by simpa using HNP⟩
 clear HNP
 obtain ⟨i0,hi9,hz0,hz1,hz2⟩:=info_parts PC
 obtain ⟨va,vc,rfl⟩:∃ va vc,vs=.slice va L.length vc:=by
  rcases hS2.row.2 with ⟨h1,h2⟩ | ⟨g,c,cur,h1,_⟩
  ·exact ⟨none,0,by rw [h1,h2]⟩
  exact ⟨_,_,h1⟩
 generalize Ye z=key at *
 go_wp2_with (first | (at_lookup;refine wpList_lookup_own_ok_int _ rfl _ _ 76 rfl 9 3 .i64 Vp Tryz.underlying76 Tryz.underlying3 (Sy _) nb L.length D rfl hm2 _ _ rfl hkey ?_;intro c hat hwc) | (at_mapUpdate;refine wpList_mapUpdate_own _ rfl _ _ _ 76 rfl 9 3 Vp Tryz.underlying76 _ nb L.length D rfl hm2 (by unfold maxLen;omega) _ _ _ rfl rfl hkey _ [] (plainElem_int Tryz.underlying3 (Kh (by omega) (by omega))) ?_;intro w3 hm3 g3))
 clear hat hwc hhF hm2 cX1
 have hnX:nb≠X:=fun e=>WX (hS2.map.choose_spec.1) pX e.symm
 have hnY:nb≠Y:=fun e=>WX (hS2.map.choose_spec.1) pY e.symm
 replace pX:=pX.kept g3 (by simpa using hnX)
 replace pY:=pY.kept g3 (by simpa using hnY)
 have hr3:=hS2.row.kept g3 (.inr (WY (hS2.map.choose_spec.1) hS2.row))
 have hv3:∀ q9 r mv,q9<d→L[q9]?=some (r,mv)→w3.ownsRow B 204 4 mv (M r.1).length (Yu (M r.1)):=fun i r mv h1 h2=>(hS2.mvs i r mv h1 h2).kept g3 (.inr (WY (hS2.map.choose_spec.1) (hS2.mvs i r mv h1 h2)))
 have k3:Ym w w3 X nb (.slice va L.length vc):=⟨g3.os.trans bw.os,g3.tape.trans bw.tape,g3.output.trans bw.output,Nat.le_trans bw.size g3.size,fun q hq h1 h2 h3=>(g3.block q (Nat.lt_of_lt_of_le hq bw.size) (by simpa using h2)).trans (bw.block q hq)⟩
 have hm4:=HM9.out w3 hm3
 clear hm3 HM9 hX bw g3
 replace cX0:w3.cell? ⟨X,0,none⟩=some (.slice va L.length vc):=by simpa using pX.cell 0
 have cY:w3.rangeAt Y 0 [x0,x1,x2,x3,x4,x5,x6,x7,x8,x9,x10,x11,x12,x13,x14,x15,x16,x17]:=fun j v hj=>by rw [Nat.zero_add,pY.cell];exact hj
 clear cX0
 have hr2:=hr3
 clear hr3
 have hkeep:Hid (Y6 w2 B nb (.slice va L.length vc) cs M L d):=hS2
 clear hS2 hS
 have hBU:B≤w3.heap.size:=Nat.le_trans hBw k3.size
 have hX9:∀ j,(Value.slice va L.length vc).ownBlock=some j→j≠X∧j≠Y:=fun j hj=>⟨fun e=>Zg hr2 pX (by decide) (by rw [hj,e]),fun e=>Zg hr2 pY (by decide) (by rw [hj,e])⟩
 go_wp2_with fail
 refine wp_region_held_drew (S:=(fun w'=>w'.rangeAt Y 0 [x0,x1,x2,x3,x4,x5,x6,x7,x8,x9,x10,x11,x12,x13,x14,x15,x16,x17])) (by kernel_rfl) cY (fun hS0=>?_)
 refine tkm 0 36 (.pointer (some ⟨X,0,none⟩)) ?_
 refine tkm 1 37 (.pointer (some ⟨X,0,none⟩)) ?_
 refine tkm 2 38 (.pointer (some ⟨X,0,none⟩)) ?_
 refine tkm 3 39 (.pointer (some ⟨X,0,none⟩)) ?_
 refine tkm 5 41 (.string key) ?_
 refine wpAnyH_take (i:=6) (oi:=⟨some 42,_,_,_,_,_⟩) (v:=.agg #[x0,x1,x2,x3,x4,x5,x6,x7,x8,x9,x10,x11,x12,x13,x14,x15,x16,x17]) rfl (by kernel_rfl) (by kernel_rfl) (by kernel_rfl) (fun _ _ _ h=>h) (yieldsIf_load_mid (by rfl) 69 _ rfl Y 0 rfl [x0,x1,x2,x3,x4,x5,x6,x7,x8,x9,x10,x11,x12,x13,x14,x15,x16,x17] _ (fun _ h=>h) Tryz.underlying69 rfl (by kernel_rfl)) (by assumption) ?_
 simp only [Act.put,tka,tkb,tkc]
 refine tkm 7 43 (.int .i64 (i:Int)) ?_
 refine tkm 8 44 (.int .i64 k) ?_
 refine tkm 9 45 (.agg #[.string key,x0,x1,x2,x3,x4,x5,x6,x7,x8,x9,x10,x11,x12,x13,x14,x15,x16,x17,.int .i64 (i:Int),.int .i64 k,.slice none 0 0]) ?_
 have pX9:=pX.lt
 have pY9:=pY.lt
 have hr9:∀ j,(Value.slice va L.length vc).ownBlock=some j→j<w3.heap.size:=fun j hj=>(ZM hr2 hj).2
 refine wpAnyH_ready (rs:=[4,10]) (by kernel_rfl) (by simp) ?_
 refine AllReadyH.cons (o:=⟨some 40,_,_,_,_,_⟩) rfl (fun K hK=>?_) (AllReadyH.cons (o:=⟨some 46,_,_,_,_,_⟩) rfl (fun K hK=>?_) AllReadyH.nil)
 focus
  have rF:w3.drew.cell? ⟨X,0,none⟩=some (.slice va L.length vc):=by simpa using pX.cell 0
  go_simp
  refine hK.out _ _ cY (fun hS1=>?_)
  clear hK rF
  try simp only [Act.put,tka,tkb,tkc]
  have hal:Below w3.heap.size w3 w3.drew:=by go_grown
  replace pX:=pX.below hal
  replace pY:=pY.below hal
  replace hr2:=Ze hr2 hal
  replace k3:=k3.belowR hal
  replace hm4:∃ D:DataW Unit,w3.drew.ownsMap Tryz.prog 9 (plainElem Tryz.prog 3) nb (L++[((z,i,k),Value.slice none 0 0)]).length D∧UK D ((L++[((z,i,k),Value.slice none 0 0)]).map (·.1)):=hm4
  replace hv3:∀ q9 r mv,q9<d→L[q9]?=some (r,mv)→w3.drew.ownsRow B 204 4 mv (M r.1).length (Yu (M r.1)):=fun i' r mv h1 h2=>Ze (hv3 i' r mv h1 h2) hal
  replace cY:w3.drew.rangeAt Y 0 [x0,x1,x2,x3,x4,x5,x6,x7,x8,x9,x10,x11,x12,x13,x14,x15,x16,x17]:=cY
  replace hBU:=Nat.le_trans hBU hal.size
  replace hr9:∀ j,(Value.slice va L.length vc).ownBlock=some j→j<w3.drew.heap.size:=hr9
  replace pX9:X<w3.drew.heap.size:=pX9
  replace pY9:Y<w3.drew.heap.size:=pY9
  clear hal
  generalize w3.drew=V1 at *
  refine tkr 10 46 (fun K hK=>?_)
  obtain ⟨Z,hZ⟩:∃ Z,Z=V1.heap.size:=⟨_,rfl⟩
  have pZ:Blk (V1.alloc (.cells #[.string key,x0,x1,x2,x3,x4,x5,x6,x7,x8,x9,x10,x11,x12,x13,x14,x15,x16,x17,.int .i64 (i:Int),.int .i64 k,.slice none 0 0] 202)) Z 202 [.string key,x0,x1,x2,x3,x4,x5,x6,x7,x8,x9,x10,x11,x12,x13,x14,x15,x16,x17,.int .i64 (i:Int),.int .i64 k,.slice none 0 0]:=by subst hZ;exact Blk.new _ _ _
  have hal:Below V1.heap.size V1 (V1.alloc (.cells #[.string key,x0,x1,x2,x3,x4,x5,x6,x7,x8,x9,x10,x11,x12,x13,x14,x15,x16,x17,.int .i64 (i:Int),.int .i64 k,.slice none 0 0] 202)):=by go_grown
  replace pX:=pX.below hal
  replace pY:=pY.below hal
  replace hr2:=Ze hr2 hal
  replace k3:=k3.belowR hal
  have hBs:B≤(V1.alloc (.cells #[.string key,x0,x1,x2,x3,x4,x5,x6,x7,x8,x9,x10,x11,x12,x13,x14,x15,x16,x17,.int .i64 (i:Int),.int .i64 k,.slice none 0 0] 202)).heap.size:=Nat.le_trans hBU hal.size
  replace hm4:∃ D:DataW Unit,(V1.alloc (.cells #[.string key,x0,x1,x2,x3,x4,x5,x6,x7,x8,x9,x10,x11,x12,x13,x14,x15,x16,x17,.int .i64 (i:Int),.int .i64 k,.slice none 0 0] 202)).ownsMap Tryz.prog 9 (plainElem Tryz.prog 3) nb (L++[((z,i,k),Value.slice none 0 0)]).length D∧UK D ((L++[((z,i,k),Value.slice none 0 0)]).map (·.1)):=by
   obtain ⟨D9,h1,h2⟩:=hm4
   exact ⟨D9,h1.kept (row:=none) ⟨hal.os,hal.tape,hal.output,hal.size,fun q hq _=>hal.block q hq⟩ (by simp),h2⟩
  replace hv3:∀ q9 r mv,q9<d→L[q9]?=some (r,mv)→(V1.alloc (.cells #[.string key,x0,x1,x2,x3,x4,x5,x6,x7,x8,x9,x10,x11,x12,x13,x14,x15,x16,x17,.int .i64 (i:Int),.int .i64 k,.slice none 0 0] 202)).ownsRow B 204 4 mv (M r.1).length (Yu (M r.1)):=fun i' r mv h1 h2=>Ze (hv3 i' r mv h1 h2) hal
  replace cY:(V1.alloc (.cells #[.string key,x0,x1,x2,x3,x4,x5,x6,x7,x8,x9,x10,x11,x12,x13,x14,x15,x16,x17,.int .i64 (i:Int),.int .i64 k,.slice none 0 0] 202)).rangeAt Y 0 [x0,x1,x2,x3,x4,x5,x6,x7,x8,x9,x10,x11,x12,x13,x14,x15,x16,x17]:=fun j v hj=>by rw [Nat.zero_add,pY.cell];exact hj
  have hZ9:X<Z∧Y<Z∧∀ j,(Value.slice va L.length vc).ownBlock=some j→j<Z:=⟨by rw [hZ];exact pX9,by rw [hZ];exact pY9,fun j hj=>by rw [hZ];exact hr9 j hj⟩
  go_simp
  rw [← hZ]
  refine hK.out _ _ cY (fun hS2=>?_)
  clear hK hal hZ
  generalize (V1.alloc (.cells #[.string key,x0,x1,x2,x3,x4,x5,x6,x7,x8,x9,x10,x11,x12,x13,x14,x15,x16,x17,.int .i64 (i:Int),.int .i64 k,.slice none 0 0] 202))=V2 at *
 rotate_left
 focus
  obtain ⟨Z,hZ⟩:∃ Z,Z=w3.heap.size:=⟨_,rfl⟩
  have pZ:Blk (w3.alloc (.cells #[.string key,x0,x1,x2,x3,x4,x5,x6,x7,x8,x9,x10,x11,x12,x13,x14,x15,x16,x17,.int .i64 (i:Int),.int .i64 k,.slice none 0 0] 202)).drew Z 202 [.string key,x0,x1,x2,x3,x4,x5,x6,x7,x8,x9,x10,x11,x12,x13,x14,x15,x16,x17,.int .i64 (i:Int),.int .i64 k,.slice none 0 0]:=by subst hZ;exact Blk.new _ _ _
  have hal:Below w3.heap.size w3 (w3.alloc (.cells #[.string key,x0,x1,x2,x3,x4,x5,x6,x7,x8,x9,x10,x11,x12,x13,x14,x15,x16,x17,.int .i64 (i:Int),.int .i64 k,.slice none 0 0] 202)).drew:=by go_grown
  replace pX:=pX.below hal
  replace pY:=pY.below hal
  replace hr2:=Ze hr2 hal
  replace k3:=k3.belowR hal
  have hBs:B≤(w3.alloc (.cells #[.string key,x0,x1,x2,x3,x4,x5,x6,x7,x8,x9,x10,x11,x12,x13,x14,x15,x16,x17,.int .i64 (i:Int),.int .i64 k,.slice none 0 0] 202)).drew.heap.size:=Nat.le_trans hBU hal.size
  replace hm4:∃ D:DataW Unit,(w3.alloc (.cells #[.string key,x0,x1,x2,x3,x4,x5,x6,x7,x8,x9,x10,x11,x12,x13,x14,x15,x16,x17,.int .i64 (i:Int),.int .i64 k,.slice none 0 0] 202)).drew.ownsMap Tryz.prog 9 (plainElem Tryz.prog 3) nb (L++[((z,i,k),Value.slice none 0 0)]).length D∧UK D ((L++[((z,i,k),Value.slice none 0 0)]).map (·.1)):=by
   obtain ⟨D9,h1,h2⟩:=hm4
   exact ⟨D9,h1.kept (row:=none) ⟨hal.os,hal.tape,hal.output,hal.size,fun q hq _=>hal.block q hq⟩ (by simp),h2⟩
  replace hv3:∀ q9 r mv,q9<d→L[q9]?=some (r,mv)→(w3.alloc (.cells #[.string key,x0,x1,x2,x3,x4,x5,x6,x7,x8,x9,x10,x11,x12,x13,x14,x15,x16,x17,.int .i64 (i:Int),.int .i64 k,.slice none 0 0] 202)).drew.ownsRow B 204 4 mv (M r.1).length (Yu (M r.1)):=fun i' r mv h1 h2=>Ze (hv3 i' r mv h1 h2) hal
  replace cY:(w3.alloc (.cells #[.string key,x0,x1,x2,x3,x4,x5,x6,x7,x8,x9,x10,x11,x12,x13,x14,x15,x16,x17,.int .i64 (i:Int),.int .i64 k,.slice none 0 0] 202)).drew.rangeAt Y 0 [x0,x1,x2,x3,x4,x5,x6,x7,x8,x9,x10,x11,x12,x13,x14,x15,x16,x17]:=fun j v hj=>by rw [Nat.zero_add,pY.cell];exact hj
  have hZ9:X<Z∧Y<Z∧∀ j,(Value.slice va L.length vc).ownBlock=some j→j<Z:=⟨by rw [hZ];exact pX9,by rw [hZ];exact pY9,fun j hj=>by rw [hZ];exact hr9 j hj⟩
  go_simp
  rw [← hZ]
  refine hK.out _ _ cY (fun hS1=>?_)
  clear hK hal hZ
  generalize (w3.alloc (.cells #[.string key,x0,x1,x2,x3,x4,x5,x6,x7,x8,x9,x10,x11,x12,x13,x14,x15,x16,x17,.int .i64 (i:Int),.int .i64 k,.slice none 0 0] 202)).drew=V2 at *
  try simp only [Act.put,tka,tkb,tkc]
  refine tkr 4 40 (fun K hK=>?_)
  have rF:V2.cell? ⟨X,0,none⟩=some (.slice va L.length vc):=by simpa using pX.cell 0
  go_simp
  refine hK.out _ _ cY (fun hS2=>?_)
  clear hK rF
 all_goals
  try simp only [Act.put,tka,tkb,tkc]
  have hwZ:w.heap.size≤V2.heap.size:=k3.size
  clear pX9 pY9 hr9
  refine tkr 11 47 (fun K hK=>?_)
  refine Y4 rfl _ _ 123 rfl B 202 i0 _ 22 248 Tryz.underlying123 hi9 hz0 hz1 hz2 rfl (by decide) (.slice va L.length vc) L.length (rcF cs L) rfl hr2 ⟨Z,0,none⟩ 1 1 [.string key,x0,x1,x2,x3,x4,x5,x6,x7,x8,x9,x10,x11,x12,x13,x14,x15,x16,x17,.int .i64 (i:Int),.int .i64 k,.slice none 0 0] rfl rfl (Ww pZ) (fun u hu=>by simp only [List.mem_cons,List.not_mem_nil,or_false] at hu;rcases hu with rfl | rfl | rfl | rfl | rfl | rfl | rfl | rfl | rfl | rfl | rfl | rfl | rfl | rfl | rfl | rfl | rfl | rfl | rfl | rfl | rfl | rfl<;>first | assumption | rfl) (by unfold maxLen;omega) (by omega) hBs ?_
  intro vn U2 q2 gr atn
  have nX:(Value.slice va L.length vc).ownBlock≠some X:=fun e=>(hX9 X e).1 rfl
  have nY:(Value.slice va L.length vc).ownBlock≠some Y:=fun e=>(hX9 Y e).2 rfl
  replace pX:=pX.kept gr nX
  replace pY:=pY.kept gr nY
  replace k3:Ym w U2 X nb (.slice va L.length vc):=⟨gr.os.trans k3.os,gr.tape.trans k3.tape,gr.output.trans k3.output,Nat.le_trans k3.size gr.size,fun q hq h1 h2 h3=>(gr.block q (Nat.lt_of_lt_of_le hq k3.size) (Ne.symm h3)).trans (k3.block q hq h1 h2 h3)⟩
  have hmv:ZU w (.slice va L.length vc) vn:=by
   rcases atn with e9 | e9
   ·exact .inl e9
   exact .inr ⟨_,hwZ,e9⟩
  replace hm4:∃ D:DataW Unit,U2.ownsMap Tryz.prog 9 (plainElem Tryz.prog 3) nb (L++[((z,i,k),Value.slice none 0 0)]).length D∧UK D ((L++[((z,i,k),Value.slice none 0 0)]).map (·.1)):=by
   obtain ⟨D9,h1,h2⟩:=hm4
   exact ⟨D9,h1.kept gr (fun e=>WY h1 hr2 e.symm),h2⟩
  replace hv3:∀ q9 r mv,q9<d→L[q9]?=some (r,mv)→U2.ownsRow B 204 4 mv (M r.1).length (Yu (M r.1)):=fun i r mv h1 h2=>(hv3 i r mv h1 h2).kept gr (Ap3.types (hv3 i r mv h1 h2) hr2 (by decide)).or
  replace cY:U2.rangeAt Y 0 [x0,x1,x2,x3,x4,x5,x6,x7,x8,x9,x10,x11,x12,x13,x14,x15,x16,x17]:=fun j v hj=>by rw [Nat.zero_add,pY.cell];exact hj
  have q3:U2.ownsRow B 202 22 vn (L++[((z,i,k),Value.slice none 0 0)]).length (rcF cs (L++[((z,i,k),Value.slice none 0 0)])):=by
   rw [Fh]
   show U2.ownsRow B 202 22 vn _ (rcF cs L++rcC cs (z,i,k) (.slice none 0 0))
   rw [HRC.out]
   simpa using q2
  refine hK.out _ _ cY (fun hS3=>?_)
  clear hK gr nX nY q2 atn hr2 pZ
  try simp only [Act.put,tka,tkb,tkc]
  refine tkm 12 48 (.pointer (some ⟨X,0,none⟩)) ?_
  refine tkm 13 49 (.pointer (some ⟨X,0,none⟩)) ?_
  have rF:U2.cell? ⟨X,0,none⟩=some (.slice va L.length vc):=by simpa using pX.cell 0
  have fF:=pX.frozen 0
  obtain ⟨ng,nc,rfl⟩:∃ ng nc,vn=.slice (some ⟨ng,0,none⟩) (L.length+1) nc:=by
   rcases q3.2 with ⟨_,h9⟩ | ⟨g,c,cur,h9,_⟩
   ·simp at h9
   exact ⟨g,c,by rw [h9];simp⟩
  refine tkz 14 (fun K hK=>?_)
  have gN:U2.grownBy (U2.setCell ⟨X,0,none⟩ (Value.slice (some ⟨ng,0,none⟩) (L.length+1) nc)) (some X):=Zu U2 X 0 (Value.slice (some ⟨ng,0,none⟩) (L.length+1) nc)
  have pN:=pX.set 0 (Value.slice (some ⟨ng,0,none⟩) (L.length+1) nc)
  have q4:=q3.kept gN (.inr (Zg q3 pX (by decide)))
  have hv4:∀ q9 r mv,q9<d→L[q9]?=some (r,mv)→(U2.setCell ⟨X,0,none⟩ (Value.slice (some ⟨ng,0,none⟩) (L.length+1) nc)).ownsRow B 204 4 mv (M r.1).length (Yu (M r.1)):=fun i r mv h1 h2=>(hv3 i r mv h1 h2).kept gN (.inr (Zg (hv3 i r mv h1 h2) pX (by decide)))
  have hm5:∃ D:DataW Unit,(U2.setCell ⟨X,0,none⟩ (Value.slice (some ⟨ng,0,none⟩) (L.length+1) nc)).ownsMap Tryz.prog 9 (plainElem Tryz.prog 3) nb (L++[((z,i,k),Value.slice none 0 0)]).length D∧UK D ((L++[((z,i,k),Value.slice none 0 0)]).map (·.1)):=by
   obtain ⟨D9,h1,h2⟩:=hm4
   exact ⟨D9,h1.kept gN (fun e=>WX h1 pX (by cases e;rfl)),h2⟩
  have k5:Ym w (U2.setCell ⟨X,0,none⟩ (Value.slice (some ⟨ng,0,none⟩) (L.length+1) nc)) X nb (.slice va L.length vc):=⟨gN.os.trans k3.os,gN.tape.trans k3.tape,gN.output.trans k3.output,Nat.le_trans k3.size gN.size,fun q hq h1 h2 h3=>(gN.block q (Nat.lt_of_lt_of_le hq k3.size) (by simpa using h1)).trans (k3.block q hq h1 h2 h3)⟩
  have cY5:(U2.setCell ⟨X,0,none⟩ (Value.slice (some ⟨ng,0,none⟩) (L.length+1) nc)).rangeAt Y 0 [x0,x1,x2,x3,x4,x5,x6,x7,x8,x9,x10,x11,x12,x13,x14,x15,x16,x17]:=fun j v hj=>by rw [Nat.zero_add,(pY.kept gN (by simpa using hXY)).cell];exact hj
  go_simp
  refine hK.out _ _ cY5 (fun hS4=>?_)
  clear hK
  try simp only [Act.put,tka,tkb,tkc]
  refine wpAnyH_done (by kernel_rfl) ?_ _
  generalize hvn:(Value.slice (some ⟨ng,0,none⟩) (L.length+1) nc)=vn at *
  have HSp:Hid (Y6 (U2.setCell ⟨X,0,none⟩ vn) B nb vn cs M (L++[((z,i,k),Value.slice none 0 0)]) d):=by
   refine ⟨q4,hm5,fun i' r mv h1 h2=>?_,fun i' r mv h1 h2=>?_,hkeep.out.low⟩
   ·rw [List.getElem?_append_left (by omega)] at h2
    exact hv4 i' r mv h1 h2
   by_cases h9:i'<L.length
   ·rw [List.getElem?_append_left h9] at h2
    exact hkeep.out.nil i' r mv h1 h2
   rw [List.getElem?_append_right (by omega)] at h2
   have h8:=(List.getElem?_eq_some_iff.1 h2).1
   simp at h8
   rw [show i' - L.length=0 by omega] at h2
   simp at h2
   exact h2.2.symm
  have pN2:Blk (U2.setCell ⟨X,0,none⟩ vn) X 125 [vn,.map (some nb)]:=by simpa using pN
  clear cY cY5 rF fF gN k3 pX pY pN hm4 hv3 q3 q4 hv4 hm5 hS0 hS1 hS2 hS3 hS4 hkeep HRC
  generalize U2.setCell ⟨X,0,none⟩ vn=U3 at *
  clear hvn
  go_wp2
  go_ret
  exact Wp.new HMM.out HSp.out pN2 k5 hmv


theorem Kp:(Tryz.prog.info? 204).map (fun i=>(i.zero,i.size,i.bytes))=some (some (.agg #[.int .i64 0,.int .i64 0,.int .i64 0,.int .i64 0]),4,32):=by kernel_rfl
theorem ZZ {w:World} {B e s n:Nat} {v:Value} {xs:List Value} (h:w.ownsRow B e s v n xs):∃ a k c,v=.slice a k c:=by
 rcases h.2 with ⟨h1,h2⟩ | ⟨gq,cq,cur,h1,_⟩
 ·exact ⟨none,0,0,h1⟩
 exact ⟨_,_,_,h1⟩
theorem Ht (i:Nat) (S:List (Zp V4)) (ts:List (Int × V4)) (t:Int × V4):onS i S (ts++[t])=XW i (onS i S ts) t:=by simp [onS,List.foldl_append]
theorem G7 (i:Nat) (S:List (Zp V4)) (ts us:List (Int × V4)):onS i S (ts++us)=onS i (onS i S ts) us:=by simp [onS,List.foldl_append]
theorem GX {rows:List (List I3)} {F S:List (Zp V4)} {at9 j:Nat} {m:V4} {k:Int} (hk:(Zj rows m 3)[j]?=some k) (hF:onS at9 S (nxM rows m) <+: F) :
  onS at9 S ((nxM rows m).take (j+1))=XW at9 (onS at9 S ((nxM rows m).take j)) (k,(goM rows m k).1) ∧
  (Yo rows F m).take (j+1)=(Yo rows F m).take j++[((goM rows m k).2,k,m.1.getD k.toNat 0,(ixS (XW at9 (onS at9 S ((nxM rows m).take j)) (k,(goM rows m k).1)) (goM rows m k).1:Int))]:=by
 have e1:(nxM rows m).take (j+1)=(nxM rows m).take j++[(k,(goM rows m k).1)]:=by
  rw [List.take_add_one]
  unfold nxM
  rw [List.getElem?_map,hk]
  rfl
 have e2:onS at9 S ((nxM rows m).take (j+1))=XW at9 (onS at9 S ((nxM rows m).take j)) (k,(goM rows m k).1):=by rw [e1,Ht]
 refine ⟨e2,?_⟩
 have hpre:XW at9 (onS at9 S ((nxM rows m).take j)) (k,(goM rows m k).1) <+: F:=by
  rw [← e2]
  refine List.IsPrefix.trans ?_ hF
  have e3:=WZ at9 ((nxM rows m).drop (j+1)) (onS at9 S ((nxM rows m).take (j+1)))
  rw [← G7,List.take_append_drop] at e3
  exact e3
 have hm:(goM rows m k).1 ∈ (XW at9 (onS at9 S ((nxM rows m).take j)) (k,(goM rows m k).1)).map (·.1):=N2 at9 _ (k,(goM rows m k).1)
 rw [List.take_add_one]
 unfold Yo
 rw [List.getElem?_map,hk]
 simp only [Option.map_some,Option.toList_some]
 unfold FN
 rw [GY hpre hm]
theorem Yt {w:World} {g t:Nat} {cs:List Value} (h:Blk w g t cs):w.rangeAt g 0 cs:=fun j v hj=>by rw [Nat.zero_add,h.cell];exact hj
theorem MX {w:World} {g o:Nat} {cs:Sl × Sl × Sl} {r:Zp V4} {mv:Value} (h:w.rangeAt g o (rcC cs r mv)):w.rangeAt g (o+1) (Zf cs.1.val cs.2.1.val cs.2.2.val r.1):=fun j v hj=>by
 have hl:j<18:=(List.getElem?_eq_some_iff.1 hj).1
 have:=h (j+1) v (by
  show (Zf cs.1.val cs.2.1.val cs.2.2.val r.1++_)[j]?=some v
  rw [List.getElem?_append_left hl]
  exact hj)
 rw [show o+1+j=o+(j+1) by omega]
 exact this
theorem Y6.belowK {w0 w w':World} {X nb d:Nat} {vs:Value} {cs:Sl × Sl × Sl} {M:V4→List I4} {L:List (Zp V4 × Value)} (h:Y6 w w0.heap.size nb vs cs M L d) (k:Ym w w' X nb vs) (hX:w0.heap.size≤X) (b0:Below w0.heap.size w0 w):Below w0.heap.size w0 w':=
 b0.trans (k.below hX h.low (fun j e=>(ZM h.row e).1) b0.size)
theorem N1 (i:Nat) (L:List (Zp V4 × Value)) (k:Int) (z:V4):L <+: Vh i L k z:=by
 unfold Vh
 split
 ·exact List.prefix_rfl
 exact List.prefix_append _ _
theorem N0 (i:Nat) (L:List (Zp V4 × Value)) (k:Int) (z:V4):(Vh i L k z).length≤L.length+1:=by
 unfold Vh
 split
 ·omega
 simp
def Jz (e:Ending) (w0 w w':World) (X nb:Nat) (vs:Value) (cs:Sl × Sl × Sl) (rows:List (List I3)) (F:List (Zp V4)) (L:List (Zp V4 × Value)) (at9:Nat) (m:V4):Prop:=
 ∃ vs' L',e=.returned (.tuple #[])∧Y6 w' w0.heap.size nb vs' cs (Yo rows F) L' (at9+1)∧Blk w' X 125 [vs',.map (some nb)]∧L'.map (·.1)=onS at9 (L.map (·.1)) (nxM rows m)∧YJ (L'.map (·.1))∧L'.length≤L.length+3∧Ym w w' X nb vs∧ZU w vs vs'
structure JD (w0 w wr:World) (X nb Y bL:Nat) (vs vs' v5:Value) (cs:Sl × Sl × Sl) (rows:List (List I3)) (F:List (Zp V4)) (L L':List (Zp V4 × Value)) (at9 j:Nat) (m:V4) (sl:Sl):Prop where
 sp:Y6 wr w0.heap.size nb vs' cs (Yo rows F) L' at9
 bx:Blk wr X 125 [vs',.map (some nb)]
 mc:Blk wr Y 69 (Zf cs.1.val cs.2.1.val cs.2.2.val m)
 ls:ZG wr bL sl (Zj rows m 3)
 st:L'.map (·.1)=onS at9 (L.map (·.1)) ((nxM rows m).take j)
 sh:YJ (L'.map (·.1))
 pr:L <+: L'
 ln:L'.length≤L.length+j
 mv:wr.ownsRow w0.heap.size 204 4 v5 ((Yo rows F m).take j).length (Yu ((Yo rows F m).take j))
 kp:Ym w wr X nb vs
 mo:ZU w vs vs'
 bl:Below w0.heap.size w0 wr
 fr:∀ q,v5.ownBlock=some q→w.heap.size≤q
theorem Y6.mvgrown {W W':World} {B B' nb d N n:Nat} {vs v:Value} {cs:Sl × Sl × Sl} {M:V4→List I4} {L L':List (Zp V4 × Value)} {xs:List Value} (h:Y6 W B nb vs cs M L' d) (pr:L <+: L') (hd:d≤L.length) (hold:∀ i r mv,i<d→L[i]?=some (r,mv)→∀ q,mv.ownBlock=some q→q<N) (mv:W.ownsRow B' 204 4 v n xs) (fr:∀ q,v.ownBlock=some q→N≤q) (gr:W.grownBy W' v.ownBlock):Y6 W' B nb vs cs M L' d:=by
 obtain ⟨D,hm,hn⟩:=h.map
 refine ⟨h.row.kept gr (Ap3.types h.row mv (by decide)).or,⟨D,hm.kept gr (fun e=>WY hm mv e.symm),hn⟩,fun i r mv' hi hr=>?_,h.nil,h.low⟩
 refine (h.mvs i r mv' hi hr).kept gr ?_
 have hap:Ap3 mv' v:=fun q hq h2=>by
  obtain ⟨U,rfl⟩:=pr
  rw [List.getElem?_append_left (by omega)] at hr
  have:=hold i r mv' hi hr q hq
  have:=fr q h2
  omega
 exact hap.or
theorem Ym.mvgrown {w W W':World} {X nb:Nat} {vs v:Value} (k:Ym w W X nb vs) (gr:W.grownBy W' v.ownBlock) (fr:∀ q,v.ownBlock=some q→w.heap.size≤q):Ym w W' X nb vs:=
 ⟨gr.os.trans k.os,gr.tape.trans k.tape,gr.output.trans k.output,Nat.le_trans k.size gr.size,fun j hj h1 h2 h3=>(gr.block j (Nat.lt_of_lt_of_le hj k.size) (fun e=>by have:=fr j e.symm;omega)).trans (k.block j hj h1 h2 h3)⟩
theorem JD.fin {w0 w wr:World} {X nb Y bL g c:Nat} {vs v5:Value} {cs:Sl × Sl × Sl} {rows:List (List I3)} {F:List (Zp V4)} {L L':List (Zp V4 × Value)} {at9 j:Nat} {r:Zp V4} {sl:Sl}
  (h:JD w0 w wr X nb Y bL vs (.slice (some ⟨g,0,none⟩) L'.length c) v5 cs rows F L L' at9 j r.1 sl) (hr:L[at9]?=some (r,.slice none 0 0)) (hj:(Zj rows r.1 3).length≤j) (hj3:j≤3) :
  Jz (.returned (.tuple #[])) w0 w (wr.setCell ⟨g,at9*22+21,none⟩ v5) X nb vs cs rows F L at9 r.1:=by
 have hl':at9<L.length:=(List.getElem?_eq_some_iff.1 hr).1
 obtain ⟨U,rfl⟩:=h.pr
 have hr':(L++U)[at9]?=some (r,.slice none 0 0):=by rw [List.getElem?_append_left hl'];exact hr
 have gN:wr.grownBy (wr.setCell ⟨g,at9*22+21,none⟩ v5) (some g):=Zu wr g _ v5
 have hset:((L++U).set at9 (r,v5)).map (·.1)=(L++U).map (·.1):=by
  rw [List.map_set]
  apply List.ext_getElem?
  intro q
  rw [List.getElem?_set]
  split
  ·rename_i e
   subst e
   rw [List.getElem?_map,hr']
   simp
   omega
  rfl
 have hrow:=(h.sp.row.stored (at9*22+21) v5).1
 rw [LB cs (L++U) at9 r (.slice none 0 0) v5 hr'] at hrow
 obtain ⟨D,hm,hN⟩:=h.sp.map
 have hfull:(Yo rows F r.1).take j=Yo rows F r.1:=List.take_of_length_le (by unfold Yo;simpa using hj)
 have hfn:(nxM rows r.1).take j=nxM rows r.1:=List.take_of_length_le (by unfold nxM;simpa using hj)
 refine ⟨_,(L++U).set at9 (r,v5),rfl,⟨by simpa using hrow,⟨D,?_,?_⟩,?_,?_,h.sp.low⟩,?_,?_,?_,?_,?_,h.mo⟩
 ·have:=hm.kept gN (fun e=>WY hm h.sp.row (by cases e;rfl))
  simpa using this
 ·rw [hset];exact hN
 ·intro q r' mv hq hrq
  by_cases e:q=at9
  ·subst e
   rw [List.getElem?_set_self (by simp;omega)] at hrq
   cases hrq
   have hmv:=h.mv
   rw [hfull] at hmv
   exact hmv.kept gN (Ap3.types hmv h.sp.row (by decide)).or
  rw [List.getElem?_set_ne (Ne.symm e)] at hrq
  have hmv:=h.sp.mvs q r' mv (by omega) hrq
  exact hmv.kept gN (Ap3.types hmv h.sp.row (by decide)).or
 ·intro q r' mv hq hrq
  rw [List.getElem?_set_ne (by omega)] at hrq
  exact h.sp.nil q r' mv (by omega) hrq
 ·exact h.bx.kept gN (Zg h.sp.row h.bx (by decide))
 ·rw [hset,h.st,hfn]
 ·rw [hset];exact h.sh
 ·have:=h.ln;simp at this ⊢;omega
 have k2:Ym wr (wr.setCell ⟨g,at9*22+21,none⟩ v5) X nb (.slice (some ⟨g,0,none⟩) (L++U).length c):=⟨gN.os,gN.tape,gN.output,gN.size,fun q hq _ _ h3=>gN.block q hq (fun e=>h3 (by rw [e];rfl))⟩
 exact h.kp.trans h.mo k2

theorem GW {w0 w:World} {X nb at9:Nat} {vs:Value} {cs:Sl × Sl × Sl} {rows:List (List I3)} {F:List (Zp V4)} {L:List (Zp V4 × Value)} {r:Zp V4} (hS:Y6 w w0.heap.size nb vs cs (Yo rows F) L at9) (hX:Blk w X 125 [vs,.map (some nb)]) (hBX:w0.heap.size≤X) (b0:Below w0.heap.size w0 w) (hr:L[at9]?=some (r,.slice none 0 0)) (hsh:YJ (L.map (·.1))) (hp:Zn rows=true) (hV:Ys w0) (hI:∀ k,k<3→ZK w0 (slK cs k).1 (slK cs k).2.1 (slK cs k).2.2 (Yn rows k)) (hF:onS at9 (L.map (·.1)) (nxM rows r.1) <+: F) (hl:L.length≤90000) :
  Calls Tryz.prog 123 #[.pointer (some ⟨X,0,none⟩),.int .i64 at9] w fun e w'=>Jz e w0 w w' X nb vs cs rows F L at9 r.1:=by
 obtain ⟨i0,hi9,hz0,hz1,hz2⟩:=info_parts Kp
 have hla:at9<L.length:=(List.getElem?_eq_some_iff.1 hr).1
 have hs:Zk r.1=true:=hsh r (List.mem_map.2 ⟨_,List.mem_of_getElem? hr,rfl⟩)
 have HR:Hid (L[at9]?=some (r,.slice none 0 0)):=hr
 obtain ⟨g,c,rfl,hg,hrg⟩:=hS.at9 hr
 have hrm:=MX hrg
 have cX0:w.cell? ⟨X,0,none⟩=some (.slice (some ⟨g,0,none⟩) L.length c):=by simpa using hX.cell 0
 obtain ⟨m,hm⟩:∃ m,m=r.1:=⟨_,rfl⟩
 have hlt:(at9:Int)<(L.length:Int):=by omega
 have ha0:(0:Int)≤(at9:Int):=by omega
 have HF:Hid (onS at9 (L.map (·.1)) (nxM rows r.1) <+: F):=hF
 have pN:=Blk.new w 69 [.slice none 0 0,.int .i64 0,.int .i64 0,.int .i64 0,.slice none 0 0,.int .i64 0,.int .i64 0,.int .i64 0,.slice none 0 0,.int .i64 0,.int .i64 0,.int .i64 0,.int .i64 0,.int .i64 0,.int .i64 0,.int .i64 0,.int .i64 0,.int .i64 0]
 have hbN:Below w.heap.size w (w.alloc (.cells #[.slice none 0 0,.int .i64 0,.int .i64 0,.int .i64 0,.slice none 0 0,.int .i64 0,.int .i64 0,.int .i64 0,.slice none 0 0,.int .i64 0,.int .i64 0,.int .i64 0,.int .i64 0,.int .i64 0,.int .i64 0,.int .i64 0,.int .i64 0,.int .i64 0] 69)):=by go_grown
 clear hF hr hrg hg
 go_enter Tryz.func123,Tryz.ntmps123
 go_wp2_with (first | refine wpList_load_mid rfl 69 _ rfl g (at9*22+1) rfl (Zf cs.1.val cs.2.1.val cs.2.2.val r.1) _ hrm Tryz.underlying69 rfl (by kernel_rfl) ?_ | refine Zd rfl 69 _ _ rfl w.heap.size (Zf cs.1.val cs.2.1.val cs.2.2.val r.1) rfl rfl pN (by kernel_rfl) rfl rfl ?_)
 intro w1 p1 g1
 have pY:=p1.out
 have b1:Below w.heap.size w w1:=hbN.grown g1 hbN.size (fun k e=>by cases e;exact Nat.le_refl _)
 clear p1 g1 hbN pN hrm cX0
 obtain ⟨Y,hY⟩:∃ Y,Y=w.heap.size:=⟨_,rfl⟩
 rw [← hY] at pY ⊢
 have hYw:w.heap.size≤Y:=by omega
 clear hY
 have b01:=Zb b0 b1
 have kE:=VA Y cs rows r.1 w1 ⟨pY,fun k hk=>(hI k hk).below b01⟩ hp hs
 go_wp2_with fail
 refine kE.mono ?_
 rintro e w2 ⟨⟨⟨la,ln,lc⟩,rfl,hL⟩,hb⟩
 have hLn:(Zj rows r.1 3).length=ln:=by have:=hL.1;simpa using this
 have hn3:ln≤3:=by rw [← hLn];exact YD rows r.1 3
 have b2:=Zb b1 hb
 have st:JD w0 w w2 X nb Y w1.heap.size (.slice (some ⟨g,0,none⟩) L.length c) (.slice (some ⟨g,0,none⟩) L.length c) (.slice none 0 0) cs rows F L L at9 0 r.1 (la,ln,lc):=
  ⟨hS.below b2,hX.below b2,pY.below hb,hL,rfl,hsh,List.prefix_rfl,by omega,World.ownsRow_nil _ _ _ _,Ym.of_below X nb _ b2,ZU.refl _ _,Zb b0 b2,fun q hq=>by simp [Value.ownBlock] at hq⟩
 have HOLD:Hid (∀ i r mv,i<at9→L[i]?=some (r,mv)→∀ q,mv.ownBlock=some q→q<w.heap.size):=fun i r mv h1 h2 q hq=>(ZM (hS.mvs i r mv h1 h2) hq).2
 generalize w1.heap.size=bL at *
 clear hb kE hL b1 b2 b01 pY hX hS b0 hsh
 go_wp2_with fail
 go_loopw [5,20] (fun s5 s20 wr=>∃ (j:Nat) (vs':Value) (L':List (Zp V4 × Value)),s20=.int .i64 j∧j≤ln∧JD w0 w wr X nb Y bL (.slice (some ⟨g,0,none⟩) L.length c) vs' s5 cs rows F L L' at9 j r.1 (la,ln,lc)) (fun _ s20 _=>ln - (intOf s20).toNat)
 case atStart=>exact ⟨0,_,_,rfl,Nat.zero_le _,st⟩
 case round =>
  clear st
  obtain ⟨j,vs',L',rfl,hjn,hO⟩:=hrel
  obtain ⟨va,vn,vc,rfl⟩:=ZZ hO.mv
  by_cases hlt2:j<ln
  ·have hkj:(Zj rows r.1 3)[j]?=some ((Zj rows r.1 3).getD j 0):=by rw [List.getD,List.getElem?_eq_getElem (by omega)];rfl
   have hz:=Ya (List.mem_of_getElem? hkj)
   obtain ⟨h0k,h2k,hd,_⟩:=ZX hz
   obtain ⟨k,hk⟩:∃ k:Nat,(Zj rows r.1 3).getD j 0=(k:Int):=⟨_,(Int.toNat_of_nonneg h0k).symm⟩
   obtain ⟨lb,lo,rfl,hc,hlb⟩:=Y8 hO.ls.ints (show j<ln from hlt2)
   rw [hk] at hkj hz hd h0k h2k hc
   rw [Int.toNat_natCast] at hd
   have hk3:k<3:=by omega
   clear hk hlb
   have hx:=ZV hp hs hz
   obtain ⟨hst,hmvs⟩:=GX hkj HF.out
   rw [Int.toNat_natCast] at hmvs
   have kT:=fun (W:World) (q:Nat) (h:Yj W q cs rows r.1)=>LV h hp hs hk3 hd
   rw [← Wq] at kT
   generalize goM rows r.1 (k:Int)=zf at *
   obtain ⟨z,f⟩:=zf
   simp only at kT hx hst hmvs
   have HST:Hid (onS at9 (L.map (·.1)) ((nxM rows r.1).take (j+1))=XW at9 (onS at9 (L.map (·.1)) ((nxM rows r.1).take j)) ((k:Int),z)):=hst
   have HMV:Hid ((Yo rows F r.1).take (j+1)=(Yo rows F r.1).take j++[(f,(k:Int),r.1.1.getD k 0,(ixS (XW at9 (onS at9 (L.map (·.1)) ((nxM rows r.1).take j)) ((k:Int),z)) z:Int))]):=hmvs
   have hlt3:(j:Int)<(ln:Int):=by omega
   have hj0:(0:Int)≤(j:Int):=by omega
   have hj9:j<3:=by omega
   generalize r.1.1.getD k 0=pc at *
   clear hst hmvs hkj hz hd
   have pM:=hO.mc
   have pN:=Blk.new wr 69 [.slice none 0 0,.int .i64 0,.int .i64 0,.int .i64 0,.slice none 0 0,.int .i64 0,.int .i64 0,.int .i64 0,.slice none 0 0,.int .i64 0,.int .i64 0,.int .i64 0,.int .i64 0,.int .i64 0,.int .i64 0,.int .i64 0,.int .i64 0,.int .i64 0]
   have hbN:Below wr.heap.size wr (wr.alloc (.cells #[.slice none 0 0,.int .i64 0,.int .i64 0,.int .i64 0,.slice none 0 0,.int .i64 0,.int .i64 0,.int .i64 0,.slice none 0 0,.int .i64 0,.int .i64 0,.int .i64 0,.int .i64 0,.int .i64 0,.int .i64 0,.int .i64 0,.int .i64 0,.int .i64 0] 69)):=by go_grown
   replace pM:=pM.below hbN
   have bI:=Zb hO.bl hbN
   go_wp2_with (first | refine Zc rfl 69 _ rfl Y rfl hO.mc _ Tryz.underlying69 rfl (by kernel_rfl) ?_ | refine Zc rfl 69 _ rfl Y rfl pM _ Tryz.underlying69 rfl (by kernel_rfl) ?_ | refine Zd rfl 69 _ _ rfl wr.heap.size (Zf cs.1.val cs.2.1.val cs.2.2.val r.1) rfl rfl pN (by kernel_rfl) rfl rfl ?_)
   intro u1 p1 g1
   have pZ:=p1.out
   have bz:Below wr.heap.size wr u1:=hbN.grown g1 hbN.size (fun q e=>by cases e;exact Nat.le_refl _)
   clear p1 g1 hbN pN pM bI hc
   obtain ⟨Z,hZ⟩:∃ Z,Z=wr.heap.size:=⟨_,rfl⟩
   rw [← hZ] at pZ ⊢
   have hZw:wr.heap.size≤Z:=by omega
   clear hZ
   have kTx:=kT u1 Z ⟨pZ,fun q hq=>(hI q hq).below (Zb hO.bl bz)⟩
   clear kT
   go_wp2_with fail
   refine kTx.mono ?_
   rintro e u2 ⟨rfl,pZ2,g2⟩
   have b2:Below wr.heap.size wr u2:=bz.grown g2 bz.size (fun q e=>by cases e;exact hZw)
   clear kTx pZ bz g2
   have pN:=Blk.new u2 90 [.int .i64 0,.int .i64 0,.int .i64 0]
   have hbN:Below u2.heap.size u2 (u2.alloc (.cells #[.int .i64 0,.int .i64 0,.int .i64 0] 90)):=by go_grown
   go_wp2_with (refine Zd rfl 90 _ _ rfl u2.heap.size [.int .i64 f,.int .i64 (k:Int),.int .i64 pc] rfl rfl pN (by kernel_rfl) rfl rfl ?_)
   intro u3 p3 g3
   have pG:=p3.out
   have b3:Below u2.heap.size u2 u3:=hbN.grown g3 hbN.size (fun q e=>by cases e;exact Nat.le_refl _)
   replace pZ2:=pZ2.below b3
   have bz:=Zb b2 b3
   clear p3 g3 hbN pN b2 b3
   generalize u2.heap.size=G at *
   have sp:=hO.sp.below bz
   have bx:=hO.bx.below bz
   have mc:=hO.mc.below bz
   have ls:=hO.ls.below bz
   have mv:=Ze hO.mv bz
   have kp:=hO.kp.belowR bz
   have bl:=Zb hO.bl bz
   have hmo:=hO.mo
   have hfr:=hO.fr
   obtain ⟨st,sh,pr,hln⟩:L'.map (·.1)=onS at9 (L.map (·.1)) ((nxM rows r.1).take j)∧YJ (L'.map (·.1))∧L <+: L'∧L'.length≤L.length+j:=⟨hO.st,hO.sh,hO.pr,hO.ln⟩
   have HPR:Hid (L <+: L'):=pr
   have HS9:Hid (L'.map (·.1)=onS at9 (L.map (·.1)) ((nxM rows r.1).take j)):=st
   clear hO bz st pr
   go_wp2_with fail
   have hdr:Below u3.heap.size u3 u3.drew:=by go_grown
   refine wp_region_held_drew (S:=(fun w'=>w'.rangeAt G 0 [.int .i64 f,.int .i64 (k:Int),.int .i64 pc]∧w'.rangeAt Z 0 (Zf cs.1.val cs.2.1.val cs.2.2.val z))) (by kernel_rfl) ⟨Yt pG,Yt pZ2⟩ (fun hS0=>?_)
   refine tkm 0 27 (.slice va vn vc) ?_
   refine wpAnyH_take (i:=1) (oi:=⟨some 28,_,_,_,_,_⟩) (v:=.agg ([.int .i64 f,.int .i64 (k:Int),.int .i64 pc]).toArray) rfl (by kernel_rfl) (by kernel_rfl) (by kernel_rfl) (fun _ _ _ h=>h) (yieldsIf_load_mid (by rfl) 90 _ rfl G 0 rfl ([.int .i64 f,.int .i64 (k:Int),.int .i64 pc]) _ (fun _ h=>h.1) Tryz.underlying90 rfl (by kernel_rfl)) (by assumption) ?_
   simp only [Act.put,tka,tkb,tkc]
   refine tkm 2 29 (.pointer (some ⟨X,0,none⟩)) ?_
   refine wpAnyH_take (i:=3) (oi:=⟨some 30,_,_,_,_,_⟩) (v:=.agg (Zf cs.1.val cs.2.1.val cs.2.2.val z).toArray) rfl (by kernel_rfl) (by kernel_rfl) (by kernel_rfl) (fun _ _ _ h=>h) (yieldsIf_load_mid (by rfl) 69 _ rfl Z 0 rfl (Zf cs.1.val cs.2.1.val cs.2.2.val z) _ (fun _ h=>h.2) Tryz.underlying69 rfl (by kernel_rfl)) (by assumption) ?_
   simp only [Act.put,tka,tkb,tkc]
   refine tkm 4 31 (.int .i64 (at9:Int)) ?_
   refine tkm 5 32 (.int .i64 (k:Int)) ?_
   replace sp:=sp.below hdr
   replace bx:=bx.below hdr
   replace mc:=mc.below hdr
   replace ls:=ls.below hdr
   replace mv:=Ze mv hdr
   replace kp:=kp.belowR hdr
   replace bl:=Zb bl hdr
   replace pG:=pG.below hdr
   replace pZ2:=pZ2.below hdr
   clear hdr
   generalize u3.drew=V at *
   have kM:=Ln sp bx bl.size (by have:=HPR.out.length_le;omega) sh (hV.below bl) hx (by omega) at9 (k:Int)
   refine tkr 6 33 (fun K hK=>?_)
   go_simp
   refine kM.mono ?_
   rintro e V1 ⟨vs2,rfl,sp2,bx2,k2,m2⟩
   replace mc:=k2.blk sp bx mc (by decide) (by decide)
   replace pG:=k2.blk sp bx pG (by decide) (by decide)
   replace pZ2:=k2.blk sp bx pZ2 (by decide) (by decide)
   replace ls:=k2.ownI sp bx ls
   replace mv:=k2.row sp bx mv (by decide) (by decide)
   replace bl:=sp.belowK k2 hBX bl
   have hmo0:=hmo
   have kp2:=kp.trans hmo0 k2
   replace hmo:=hmo.trans kp.size m2
   clear hmo0
   clear kp sp bx k2 m2 kM
   go_wp2_with fail
   refine hK.out _ _ ⟨Yt pG,Yt pZ2⟩ (fun hS1=>?_)
   clear hK
   try simp only [Act.put,tka,tkb,tkc]
   have HIX:Hid (ixS (XW at9 (onS at9 (L.map (·.1)) ((nxM rows r.1).take j)) ((k:Int),z)) z=ixS ((Vh at9 L' (k:Int) z).map (·.1)) z):=by rw [Hid,Ua,HS9.out]
   generalize ixS ((Vh at9 L' (k:Int) z).map (·.1)) z=ix at *
   refine tkm 7 34 (.agg #[.int .i64 f,.int .i64 (k:Int),.int .i64 pc,.int .i64 (ix:Int)]) ?_
   refine tkr 8 35 (fun K hK=>?_)
   have hal:Below V1.heap.size V1 (V1.alloc (.cells #[.int .i64 f,.int .i64 (k:Int),.int .i64 pc,.int .i64 (ix:Int)] 204)):=by go_grown
   have pQ:Blk (V1.alloc (.cells #[.int .i64 f,.int .i64 (k:Int),.int .i64 pc,.int .i64 (ix:Int)] 204)) V1.heap.size 204 [.int .i64 f,.int .i64 (k:Int),.int .i64 pc,.int .i64 (ix:Int)]:=Zo _ _ _ rfl
   replace sp2:=sp2.below hal
   replace bx2:=bx2.below hal
   replace mc:=mc.below hal
   replace pG:=pG.below hal
   replace pZ2:=pZ2.below hal
   replace ls:=ls.below hal
   replace mv:=Ze mv hal
   replace bl:=Zb bl hal
   replace kp2:=kp2.belowR hal
   go_simp
   refine hK.out _ _ ⟨Yt pG,Yt pZ2⟩ (fun hS2=>?_)
   clear hK hal
   generalize (V1.alloc (.cells #[.int .i64 f,.int .i64 (k:Int),.int .i64 pc,.int .i64 (ix:Int)] 204))=V2 at *
   generalize V1.heap.size=q1 at *
   try simp only [Act.put,tka,tkb,tkc]
   refine tkr 9 36 (fun K hK=>?_)
   have hml:((Yo rows F r.1).take j).length≤3:=by have:=List.length_take_le j (Yo rows F r.1);omega
   refine Y4 rfl _ _ 200 rfl w0.heap.size 204 i0 _ 4 32 Tryz.underlying200 hi9 hz0 hz1 hz2 rfl (by decide) (.slice va vn vc) _ _ rfl mv ⟨q1,0,none⟩ 1 1 [.int .i64 f,.int .i64 (k:Int),.int .i64 pc,.int .i64 (ix:Int)] rfl rfl (Ww pQ) (fun u hu=>by simp only [List.mem_cons,List.not_mem_nil,or_false] at hu;rcases hu with rfl | rfl | rfl | rfl<;>rfl) (by unfold maxLen;omega) (by omega) bl.size ?_
   intro v5 V3 q5 gr at5
   have mvne:=fun {e:Nat} {gg:Nat} {cc:List Value} (hB:Blk V2 gg e cc) (he:204≠e)=>Zg mv hB he
   replace bx2:=bx2.kept gr (mvne bx2 (by decide))
   replace mc:=mc.kept gr (mvne mc (by decide))
   replace pG:=pG.kept gr (mvne pG (by decide))
   replace pZ2:=pZ2.kept gr (mvne pZ2 (by decide))
   replace ls:ZG V3 bL (some ⟨lb,lo,none⟩,ln,lc) (Zj rows r.1 3):=World.ownsRow.kept ls gr (Ap3.types ls mv (by decide)).or
   replace bl:=bl.grown gr bl.size (fun q e=>(ZM mv e).1)
   have hfr2:∀ q,v5.ownBlock=some q→w.heap.size≤q:=fun q hq=>by
    rcases at5 with e9 | e9
    ·exact hfr q (e9▸hq)
    rw [e9] at hq;cases hq;exact kp2.size
   have sp3:=sp2.mvgrown (HPR.out.trans (N1 _ _ _ _)) (by omega) HOLD.out mv hfr gr
   have kp3:=kp2.mvgrown gr hfr
   have HMV2:(Yo rows F r.1).take (j+1)=(Yo rows F r.1).take j++[(f,(k:Int),pc,(ix:Int))]:=by rw [HMV.out,HIX.out]
   have q6:V3.ownsRow w0.heap.size 204 4 v5 ((Yo rows F r.1).take (j+1)).length (Yu ((Yo rows F r.1).take (j+1))):=by
    rw [HMV2,Xl,List.length_append]
    exact q5
   have st9:JD w0 w V3 X nb Y bL (.slice (some ⟨g,0,none⟩) L.length c) vs2 v5 cs rows F L (Vh at9 L' (k:Int) z) at9 (j+1) r.1 (some ⟨lb,lo,none⟩,ln,lc):=
    ⟨sp3,bx2,mc,ls,by rw [Ua,HS9.out,HST.out],by rw [Ua];exact Ub sh hx,HPR.out.trans (N1 _ _ _ _),by have:=N0 at9 L' (k:Int) z;omega,q6,kp3,hmo,bl,hfr2⟩
   refine hK.out _ _ ⟨Yt pG,Yt pZ2⟩ (fun hS3=>?_)
   clear hK
   try simp only [Act.put,tka,tkb,tkc]
   refine tkm 10 5 v5 ?_
   refine wpAnyH_done (by kernel_rfl) ?_ _
   clear sp3 bx2 mc ls q6 q5 kp3 kp2 hmo bl hfr2 hfr sp2 mv gr at5 mvne pG pZ2 pQ hS0 hS1 hS2 hS3 HMV HMV2 HIX HST HS9 HPR sh
   go_wp2
   go_roundw
   case rel=>exact ⟨j+1,_,_,by go_num,by omega,st9⟩
   case measure=>simp [intOf];omega
  have hpre:=hO.pr
  have hr2:L'[at9]?=some (r,.slice none 0 0):=by
   obtain ⟨U,rfl⟩:=hpre
   rw [List.getElem?_append_left hla]
   exact HR.out
  have hla2:(at9:Int)<(L'.length:Int):=by have:=hpre.length_le;omega
  obtain ⟨g2,c2,rfl,hg2,hrg2⟩:=hO.sp.at9 hr2
  have HFin:Hid (Jz (.returned (.tuple #[])) w0 w (wr.setCell ⟨g2,at9*22+21,none⟩ (.slice va vn vc)) X nb (.slice (some ⟨g,0,none⟩) L.length c) cs rows F L at9 r.1):=hO.fin HR.out (by omega) (by omega)
  have cX0:wr.cell? ⟨X,0,none⟩=some (.slice (some ⟨g2,0,none⟩) L'.length c2):=by simpa using hO.bx.cell 0
  have cM:=hrg2 21 (.slice none 0 0) rfl
  have fM:=hO.sp.row.frozenAt (at9*22+21)
  clear hrg2 hO hpre hr2 HR
  go_wp2
  go_end0
  exact HFin.out


theorem Ue {w:World} {a:Option Addr} {len cap:Nat} {rows:List (List I3)} (hC:XL w a len cap rows) (hp:Zn rows=true):∃ cs,Z6 w a cs rows:=(hC.rowsAt hp).2
def WG (rows:List (List I3)) (z:V4):List (Zp V4):=WQ (nxM rows) 2000 0 [(z,0,0)]
def Ri (e:Ending) (w w':World) (a:Option Addr) (rows:List (List I3)) (F:List (Zp V4)):Prop:=
 ∃ vs nb cs L,e=.returned (.tuple #[.agg #[vs,.map (some nb)],.int .i64 0])∧Y6 w' w.heap.size nb vs cs (Yo rows F) L L.length∧L.map (·.1)=F∧Z6 w a cs rows∧Below w.heap.size w w'
structure Pk (w wr:World) (X R nb:Nat) (vs:Value) (cs:Sl × Sl × Sl) (rows:List (List I3)) (z0:V4) (L:List (Zp V4 × Value)) (at9:Nat):Prop where
 sp:Y6 wr w.heap.size nb vs cs (Yo rows (WG rows z0)) L at9
 bx:Blk wr X 125 [vs,.map (some nb)]
 br:Blk wr R 125 [.slice none 0 0,.map none]
 sh:YJ (L.map (·.1))
 rn:WQ (nxM rows) (2000 - at9) at9 (L.map (·.1))=WG rows z0
 ln:L.length≤1+3*at9
 le:at9≤L.length
 a2:at9≤2000
 bl:Below w.heap.size w wr
theorem Pk.fin {w wr:World} {X R nb:Nat} {vs:Value} {cs:Sl × Sl × Sl} {rows:List (List I3)} {z0:V4} {L:List (Zp V4 × Value)} {at9:Nat} (h:Pk w wr X R nb vs cs rows z0 L at9) (hx:at9=L.length∨at9=2000):L.map (·.1)=WG rows z0:=by
 have e:=h.rn
 rcases hx with hx | hx
 ·rw [Qa (by simp;omega)] at e
  exact e
 subst hx
 exact e
theorem Pk.go {w wr w':World} {X R nb:Nat} {vs vs':Value} {cs:Sl × Sl × Sl} {rows:List (List I3)} {z0:V4} {L L':List (Zp V4 × Value)} {at9:Nat} {r:Zp V4} {mv:Value} (h:Pk w wr X R nb vs cs rows z0 L at9) (hr:L[at9]?=some (r,mv)) (hRX:R≠X) (hBX:w.heap.size≤X) (ha:at9<2000)
  (sp:Y6 w' w.heap.size nb vs' cs (Yo rows (WG rows z0)) L' (at9+1)) (bx:Blk w' X 125 [vs',.map (some nb)]) (st:L'.map (·.1)=onS at9 (L.map (·.1)) (nxM rows r.1)) (sh:YJ (L'.map (·.1))) (ln:L'.length≤L.length+3) (kp:Ym wr w' X nb vs):Pk w w' X R nb vs' cs rows z0 L' (at9+1):=by
 have hl:at9<L.length:=(List.getElem?_eq_some_iff.1 hr).1
 have hlm:at9<(L.map (·.1)).length:=by simpa using hl
 have hat:((L.map (·.1))[at9]'hlm)=r:=by
  have e:=(List.getElem?_eq_some_iff.1 hr).2
  simp [e]
 obtain ⟨D,hm,_⟩:=h.sp.map
 refine ⟨sp,bx,(kp.block R h.br.lt hRX (WX hm h.br) (Zg h.sp.row h.br (by decide))).trans h.br,sh,?_,by have:=h.ln;omega,?_,by omega,h.sp.belowK kp hBX h.bl⟩
 ·have e:=h.rn
  rw [show 2000 - at9=(1999 - at9)+1 by omega,Re hlm,hat,← st] at e
  rw [show 2000 - (at9+1)=1999 - at9 by omega]
  exact e
 have h2:=(WZ at9 (nxM rows r.1) (L.map (·.1))).length_le
 rw [← st] at h2
 simp at h2
 omega
theorem Pk.pre {w wr:World} {X R nb:Nat} {vs:Value} {cs:Sl × Sl × Sl} {rows:List (List I3)} {z0:V4} {L:List (Zp V4 × Value)} {at9:Nat} {r:Zp V4} {mv:Value} (h:Pk w wr X R nb vs cs rows z0 L at9) (hr:L[at9]?=some (r,mv)) (ha:at9<2000):onS at9 (L.map (·.1)) (nxM rows r.1) <+: WG rows z0:=by
 have hl:at9<L.length:=(List.getElem?_eq_some_iff.1 hr).1
 have hlm:at9<(L.map (·.1)).length:=by simpa using hl
 have hat:((L.map (·.1))[at9]'hlm)=r:=by
  have e:=(List.getElem?_eq_some_iff.1 hr).2
  simp [e]
 have e:=h.rn
 rw [show 2000 - at9=(1999 - at9)+1 by omega,Re hlm,hat] at e
 rw [← e]
 exact TR _ _ _ _

theorem Mg (a:Option Addr) (len cap:Nat) (rows:List (List I3)) (s:S4) (z0:V4) (w:World) (hC:XL w a len cap rows) (h:Yk w s z0) (hV:Ys w) (hp:Zn rows=true) (hz:Zk z0=true) :
  Calls Tryz.prog 65 #[.agg #[.slice a len cap],s.val] w fun e w'=>if (WG rows z0).length≤2000 then Ri e w w' a rows (WG rows z0) else (e=.returned (.tuple #[.agg #[.slice none 0 0,.map none],.int .i64 15])∧Below w.heap.size w w'):=by
 have kM:=fun W hC h hV=>VF a len cap rows s z0 W hC h hV hp hz
 have hM:=fun (W:World) (hb:Below w.heap.size w W)=>h.below hb
 obtain ⟨cs,hR⟩:=Ue hC hp
 have hI:∀ k,k<3→ZK w (slK cs k).1 (slK cs k).2.1 (slK cs k).2.2 (Yn rows k):=by
  obtain ⟨b,off,_,_,hk⟩:=hR
  exact fun k h3=>(hk k h3).2
 obtain ⟨⟨a0,n0,c0⟩,⟨a1,n1,c1⟩,⟨a2,n2,c2⟩,⟨a3,n3,c3⟩⟩:=s
 have uA:S4.val ((a0,n0,c0),(a1,n1,c1),(a2,n2,c2),(a3,n3,c3))=.agg #[.slice a0 n0 c0,.slice a1 n1 c1,.slice a2 n2 c2,.slice a3 n3 c3]:=rfl
 rw [uA] at kM ⊢
 clear uA h
 have bw:Below w.heap.size w (((w.alloc (.cells #[.slice a len cap] 25)).alloc (.cells #[.slice a0 n0 c0,.slice a1 n1 c1,.slice a2 n2 c2,.slice a3 n3 c3] 74)).alloc (.cells #[.slice none 0 0,.map none] 125)):=by go_grown
 have pP:Blk (((w.alloc (.cells #[.slice a len cap] 25)).alloc (.cells #[.slice a0 n0 c0,.slice a1 n1 c1,.slice a2 n2 c2,.slice a3 n3 c3] 74)).alloc (.cells #[.slice none 0 0,.map none] 125)) w.heap.size 25 [.slice a len cap]:=Zq _ (Zq _ (Zo _ _ _ rfl))
 have pS:Blk (((w.alloc (.cells #[.slice a len cap] 25)).alloc (.cells #[.slice a0 n0 c0,.slice a1 n1 c1,.slice a2 n2 c2,.slice a3 n3 c3] 74)).alloc (.cells #[.slice none 0 0,.map none] 125)) (w.heap.size+1) 74 [.slice a0 n0 c0,.slice a1 n1 c1,.slice a2 n2 c2,.slice a3 n3 c3]:=Zq _ (Zo _ _ _ (by simp))
 have pR:Blk (((w.alloc (.cells #[.slice a len cap] 25)).alloc (.cells #[.slice a0 n0 c0,.slice a1 n1 c1,.slice a2 n2 c2,.slice a3 n3 c3] 74)).alloc (.cells #[.slice none 0 0,.map none] 125)) (w.heap.size+2) 125 [.slice none 0 0,.map none]:=Zo _ _ _ (by simp)
 have hmm:=@run_makeMap Tryz.prog
 go_enter Tryz.func65,Tryz.ntmps65
 go_wp2_with fail
 generalize (((w.alloc (.cells #[.slice a len cap] 25)).alloc (.cells #[.slice a0 n0 c0,.slice a1 n1 c1,.slice a2 n2 c2,.slice a3 n3 c3] 74)).alloc (.cells #[.slice none 0 0,.map none] 125))=U at *
 have kMx:=kM U (hC.below bw) (hM _ bw) (hV.below bw)
 have hRU:=hR.below bw
 clear kM hM hC
 go_wp2_with (first | refine Zc rfl 25 _ rfl w.heap.size rfl pP _ Tryz.underlying25 rfl (by kernel_rfl) ?_ | refine Zc rfl 74 _ rfl (w.heap.size+1) rfl pS _ Tryz.underlying74 rfl (by kernel_rfl) ?_)
 refine kMx.mono ?_
 rintro e w1 ⟨⟨cs',rfl,hR'⟩,hb⟩
 obtain rfl:=hRU.uniq hR'
 replace bw:=Zb bw hb
 replace pR:=pR.below hb
 clear hb kMx pP pS hR' hRU
 have pN:=Blk.new w1 69 [.slice none 0 0,.int .i64 0,.int .i64 0,.int .i64 0,.slice none 0 0,.int .i64 0,.int .i64 0,.int .i64 0,.slice none 0 0,.int .i64 0,.int .i64 0,.int .i64 0,.int .i64 0,.int .i64 0,.int .i64 0,.int .i64 0,.int .i64 0,.int .i64 0]
 have hbN:Below w1.heap.size w1 (w1.alloc (.cells #[.slice none 0 0,.int .i64 0,.int .i64 0,.int .i64 0,.slice none 0 0,.int .i64 0,.int .i64 0,.int .i64 0,.slice none 0 0,.int .i64 0,.int .i64 0,.int .i64 0,.int .i64 0,.int .i64 0,.int .i64 0,.int .i64 0,.int .i64 0,.int .i64 0] 69)):=by go_grown
 go_wp2_with (refine Zd rfl 69 _ _ rfl w1.heap.size (Zf cs.1.val cs.2.1.val cs.2.2.val z0) rfl rfl pN (by kernel_rfl) rfl rfl ?_)
 intro w2 p2 g2
 have pM:=p2.out
 have b2:Below w1.heap.size w1 w2:=hbN.grown g2 hbN.size (fun k e=>by cases e;exact Nat.le_refl _)
 replace bw:=Zb bw b2
 replace pR:=pR.below b2
 clear p2 g2 hbN pN b2
 generalize w1.heap.size=Y at *
 have hN0:UK (.map []) ([]:List (Zp V4)):=UK.start
 have hbs:=bw.size
 have hRlt:=pR.lt
 have pX:=Blk.new (w2.alloc (.map #[] 0)) 125 [.slice none 0 0,.map none]
 have hm0:((w2.alloc (.map #[] 0)).alloc (.cells #[.slice none 0 0,.map none] 125)).ownsMap Tryz.prog 9 (plainElem Tryz.prog 3) w2.heap.size 0 (.map []:DataW Unit):=(World.ownsMap_made (H:=Unit) w2 Tryz.prog 9 (plainElem Tryz.prog 3)).alloc _
 have hbM:Below w2.heap.size w2 (w2.alloc (.map #[] 0)):=⟨rfl,rfl,rfl,by simp,fun k hk=>Below.heap_alloc w2 _ k hk⟩
 have hbX:Below w2.heap.size w2 ((w2.alloc (.map #[] 0)).alloc (.cells #[.slice none 0 0,.map none] 125)):=Zb hbM ⟨rfl,rfl,rfl,by simp,fun k hk=>Below.heap_alloc _ _ k hk⟩
 simp only [World.size_alloc] at pX
 go_wp2_with (refine Zd rfl 125 _ _ rfl (w2.heap.size+1) [.slice none 0 0,.map (some w2.heap.size)] rfl rfl pX (by kernel_rfl) rfl rfl ?_)
 intro w3 p3 g3
 have bx:=p3.out
 have hm3:=hm0.kept g3 (by simp)
 have b3:Below w2.heap.size w2 w3:=hbX.grown g3 hbX.size (fun k e=>by cases e;omega)
 replace bw:=Zb bw b3
 replace pR:=pR.below b3
 replace pM:=pM.below b3
 clear p3 g3 hbX hbM hm0 pX b3 hmm
 have sp0:Y6 w3 w.heap.size w2.heap.size (.slice none 0 0) cs (Yo rows (WG rows z0)) [] 0:=⟨World.ownsRow_nil _ _ _ _,⟨_,hm3,hN0⟩,fun i r mv hi=>by omega,fun i r mv _ hr=>by simp at hr,hbs⟩
 have kT:=Ln sp0 bx bw.size (Nat.le_refl 0) (fun r hr=>by simp at hr) (hV.below bw) hz (by decide) 0 0
 have hXB:w.heap.size≤w2.heap.size+1:=by omega
 have hRX:w.heap.size+2≠w2.heap.size+1:=by omega
 go_wp2_with (refine Zc rfl 69 _ rfl Y rfl pM _ Tryz.underlying69 rfl (by kernel_rfl) ?_)
 refine kT.mono ?_
 rintro e w4 ⟨vs,rfl,sp,bx4,k4,m4⟩
 have st:Pk w w4 (w2.heap.size+1) (w.heap.size+2) w2.heap.size vs cs rows z0 (Vh 0 [] 0 z0) 0:=by
  refine ⟨sp,bx4,?_,?_,?_,?_,Nat.zero_le _,by decide,sp0.belowK k4 hXB bw⟩
  ·exact (k4.block _ pR.lt hRX (WX hm3 pR) (Zg sp0.row pR (by decide))).trans pR
  ·rw [Ua];exact Ub (fun r hr=>by simp at hr) hz
  ·rw [Ua];rfl
  exact N0 0 [] 0 z0
 generalize w2.heap.size+1=X at *
 generalize w2.heap.size=nb at *
 have hRB9:w.heap.size≤w.heap.size+2:=by omega
 generalize w.heap.size+2=R at *
 generalize Vh 0 [] 0 z0=L0 at *
 clear kT sp bx4 k4 m4 sp0 bx bw pR pM hm3 hN0 hRlt hbs
 go_wp2_with fail
 go_loopw [24] (fun s24 wr=>∃ (at9:Nat) (vs:Value) (L:List (Zp V4 × Value)),s24=.int .i64 at9∧Pk w wr X R nb vs cs rows z0 L at9) (fun s24 _=>2000 - (intOf s24).toNat)
 case atStart=>exact ⟨0,_,_,rfl,st⟩
 case round =>
  clear st vs
  obtain ⟨at9,vs,L,rfl,hO⟩:=hrel
  obtain ⟨va,vn,vc,rfl⟩:∃ va vn vc,vs=.slice va vn vc:=ZZ hO.sp.row
  obtain rfl:vn=L.length:=by
   rcases hO.sp.row.2 with ⟨h1,h2⟩ | ⟨gq,cq,cur,h1,_⟩
   ·cases h1;exact h2.symm
   cases h1;rfl
  have cX0:wr.cell? ⟨X,0,none⟩=some (.slice va L.length vc):=by simpa using hO.bx.cell 0
  by_cases hlt:at9<2000
  ·have hlt1:(at9:Int)<2000:=by omega
   by_cases hel:at9=L.length
   ·have hxl:at9=L.length∨at9=2000:=.inl hel
    have hF:=hO.fin hxl
    have hq1:((at9:Int) == (L.length:Int))=true:=by rw [hel];simp
    have hq2:decide ((at9:Int)=(L.length:Int))=true:=by rw [hel];simp
    clear hel
    have hfl:(WG rows z0).length=L.length:=by rw [← hF];simp
    by_cases hbig:2000<L.length
    ·omega
    have hif:(WG rows z0).length≤2000:=by omega
    have hb1:¬ (2000:Int)<(L.length:Int):=by omega
    have pR:=hO.br
    have bw:=hO.bl
    have bx:=hO.bx
    have hRB:w.heap.size≤R:=hRB9
    have sp:=hO.sp
    obtain rfl:at9=L.length:=by have:=hO.le;omega
    clear hO hfl hbig hxl
    go_wp2_with (first | refine Zc rfl 125 _ rfl X rfl bx _ Tryz.underlying125 rfl (by kernel_rfl) ?_ | refine Zd rfl 125 _ _ rfl R [.slice va L.length vc,.map (some nb)] rfl rfl pR (by kernel_rfl) rfl rfl ?_)
    intro w9 p9 g9
    replace bw:=bw.grown g9 bw.size (fun k e=>by cases e;exact hRB)
    replace sp:=sp.grown g9 pR (by decide) (by decide)
    have HG:Hid (Ri (.returned (.tuple #[.agg #[.slice va L.length vc,.map (some nb)],.int .i64 0])) w w9 a rows (WG rows z0)):=⟨_,_,_,_,rfl,sp,hF,hR,bw⟩
    clear g9 pR sp bx bw hF
    go_wp2_with fail
    refine bodyPost_ret (ZF Tryz.results65 _ _ _ _ _ _ rfl p9.out Tryz.underlying125 rfl (by kernel_rfl)) rfl ?_
    exact HG.out
   have hal:at9<L.length:=by have:=hO.le;omega
   have hq1:((at9:Int) == (L.length:Int))=false:=beq_false_of_ne (by omega)
   have hq2:decide ((at9:Int)=(L.length:Int))=false:=decide_eq_false (by omega)
   obtain ⟨r,mv,hr⟩:∃ r mv,L[at9]?=some (r,mv):=⟨L[at9].1,L[at9].2,by rw [List.getElem?_eq_getElem hal]⟩
   obtain rfl:=hO.sp.nil at9 r mv (Nat.le_refl _) hr
   have kG:=GW hO.sp hO.bx hXB hO.bl hr hO.sh hp hV hI (hO.pre hr hlt) (by have:=hO.ln;omega)
   have HGo:=fun (w5:World) (vs5:Value) (L5:List (Zp V4 × Value))=>hO.go (w':=w5) (vs':=vs5) (L':=L5) hr hRX hXB hlt
   clear hel hal hr
   go_wp2_with fail
   refine kG.mono ?_
   rintro e w5 ⟨vs5,L5,rfl,sp5,bx5,st5,sh5,ln5,k5,m5⟩
   have st9:=HGo w5 vs5 L5 sp5 bx5 st5 sh5 ln5 k5
   clear kG HGo sp5 bx5 st5 sh5 ln5 k5 m5 hO cX0
   go_wp2
   go_roundw
   case rel=>exact ⟨at9+1,_,_,by go_num,st9⟩
   case measure=>simp [intOf];omega
  have hlt1:¬ (at9:Int)<2000:=by omega
  have hxl:at9=L.length∨at9=2000:=.inr (by have:=hO.a2;omega)
  have hF:=hO.fin hxl
  have hfl:(WG rows z0).length=L.length:=by rw [← hF];simp
  by_cases hbig:2000<L.length
  ·have hif:¬ (WG rows z0).length≤2000:=by omega
   have hb1:(2000:Int)<(L.length:Int):=by omega
   have pR:=hO.br
   have bw:=hO.bl
   have hRB:w.heap.size≤R:=hRB9
   clear hF hfl hO hbig
   go_wp2_with (refine Zd rfl 125 _ _ rfl R [.slice none 0 0,.map none] rfl rfl pR (by kernel_rfl) rfl rfl ?_)
   intro w9 p9 g9
   replace bw:=bw.grown g9 bw.size (fun k e=>by cases e;exact hRB)
   clear g9 pR
   go_wp2_with fail
   refine bodyPost_ret (ZF Tryz.results65 _ _ _ _ _ _ rfl p9.out Tryz.underlying125 rfl (by kernel_rfl)) rfl ?_
   exact ⟨rfl,bw⟩
  have hif:(WG rows z0).length≤2000:=by omega
  have hb1:¬ (2000:Int)<(L.length:Int):=by omega
  have pR:=hO.br
  have bw:=hO.bl
  have bx:=hO.bx
  have hRB:w.heap.size≤R:=hRB9
  have sp:=hO.sp
  obtain rfl:at9=L.length:=by have:=hO.le;omega
  clear hO hfl hbig hxl
  go_wp2_with (first | refine Zc rfl 125 _ rfl X rfl bx _ Tryz.underlying125 rfl (by kernel_rfl) ?_ | refine Zd rfl 125 _ _ rfl R [.slice va L.length vc,.map (some nb)] rfl rfl pR (by kernel_rfl) rfl rfl ?_)
  intro w9 p9 g9
  replace bw:=bw.grown g9 bw.size (fun k e=>by cases e;exact hRB)
  replace sp:=sp.grown g9 pR (by decide) (by decide)
  have HG:Hid (Ri (.returned (.tuple #[.agg #[.slice va L.length vc,.map (some nb)],.int .i64 0])) w w9 a rows (WG rows z0)):=⟨_,_,_,_,rfl,sp,hF,hR,bw⟩
  clear g9 pR sp bx bw hF
  go_wp2_with fail
  refine bodyPost_ret (ZF Tryz.results65 _ _ _ _ _ _ rfl p9.out Tryz.underlying125 rfl (by kernel_rfl)) rfl ?_
  exact HG.out
theorem M4 (a:Option Addr) (len cap:Nat) (rows:List (List I3)) (s:S4) (w:World) (hC:XL w a len cap rows) (h:Yk w s Zl) (hV:Ys w) (hp:Zn rows=true) :
  Calls Tryz.prog 65 #[.agg #[.slice a len cap],s.val] w fun e w'=>if (Yd rows).length≤2000 then Ri e w w' a rows (Yd rows) else (e=.returned (.tuple #[.agg #[.slice none 0 0,.map none],.int .i64 15])∧Below w.heap.size w w'):=
 Mg a len cap rows s Zl w hC h hV hp ZH
end Go.Proofs.YtmhlokahmblboaaGreatDoor
