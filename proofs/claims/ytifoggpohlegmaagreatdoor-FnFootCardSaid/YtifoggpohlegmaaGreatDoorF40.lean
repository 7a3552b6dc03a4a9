/-
  Joined: MrgI, PutI.
-/
import Derived.Shelf.SlIterI.Nil
import Derived.Shelf.SortM.Plain
import Derived.Shelf.SortM.SortNone
import Derived.Test.YtifoggpohlegmaaGreatDoorF27
import Derived.Test.YtifoggpohlegmaaGreatDoorF37
import Derived.Test.YtifoggpohlegmaaGreatDoorF39

namespace Go.Proofs.YtifoggpohlegmaaGreatDoor
set_option maxRecDepth 100000
set_option maxHeartbeats 16000000
open Go.RowKit Go.Maps Go.Sort Go.Shelf
set_option linter.unusedVariables false
set_option linter.unusedSimpArgs false

def keysI_ren:Go.Shelf.Ren:=⟨fun | 7=>164 | 10=>189 | n=>n,fun | 23=>216 | 26=>3 | 3=>3 | 28=>214 | 0=>0 | 27=>213 | 33=>118 | 4=>4 | n=>n,fun | n=>n⟩
theorem keysI:Go.Proofs.SlLaysZI.n7 Tryz.prog keysI_ren:={
 mixed:=by kernel_rfl
 f7:=⟨Tryz.f164.name,by decide,Tryz.func164.trans (congrArg some (by kernel_rfl))⟩
 f10:=⟨Tryz.f189.name,by decide,Tryz.func189.trans (congrArg some (by kernel_rfl))⟩
 t0:=Tryz.underlying0
 a0:=Tryz.isAgg0
 z0:=Tryz.sizeOf0
 v0:=Tryz.zeroValue0
 t4:=Tryz.underlying4
 a4:=Tryz.isAgg4
 z4:=Tryz.sizeOf4
 v4:=Tryz.zeroValue4
 t23:=Tryz.underlying216
 a23:=Tryz.isAgg216
 z23:=Tryz.sizeOf216
 v23:=Tryz.zeroValue216
 t26:=Tryz.underlying3
 a26:=Tryz.isAgg3
 z26:=Tryz.sizeOf3
 v26:=Tryz.zeroValue3
 t27:=Tryz.underlying213
 a27:=Tryz.isAgg213
 z27:=Tryz.sizeOf213
 v27:=Tryz.zeroValue213
 t28:=Tryz.underlying214
 a28:=Tryz.isAgg214
 z28:=Tryz.sizeOf214
 v28:=Tryz.zeroValue214
 t33:=Tryz.underlying118
 a33:=Tryz.isAgg118
 z33:=Tryz.sizeOf118
 v33:=Tryz.zeroValue118 }
def sortedI_ren:Go.Shelf.Ren:=⟨fun | 6=>163 | 8=>187 | 9=>188 | 11=>201 | 13=>178 | 12=>202 | 23=>198 | 24=>199 | 14=>208 | 15=>209 | 16=>210 | 17=>211 | 18=>212 | 19=>213 | 20=>214 | 21=>215 | 22=>216 | 25=>218 | 26=>204 | 27=>205 | 28=>219 | 29=>220 | 30=>200 | 31=>221 | n=>n,fun | 26=>3 | 28=>214 | 24=>27 | 0=>0 | 3=>3 | 37=>235 | 48=>254 | 50=>256 | 4=>4 | 40=>248 | 39=>247 | 45=>120 | 5=>5 | 9=>9 | 51=>259 | 55=>263 | 57=>270 | 58=>73 | 33=>118 | n=>n,fun | n=>n⟩
theorem sortedI:Go.Proofs.SlLaysZI.n6 Tryz.prog sortedI_ren:={
 mixed:=by kernel_rfl
 f6:=⟨Tryz.f163.name,by decide,Tryz.func163.trans (congrArg some (by kernel_rfl))⟩
 f8:=⟨Tryz.f187.name,by decide,Tryz.func187.trans (congrArg some (by kernel_rfl))⟩
 f11:=⟨Tryz.f201.name,by decide,Tryz.func201.trans (congrArg some (by kernel_rfl))⟩
 t0:=Tryz.underlying0
 a0:=Tryz.isAgg0
 z0:=Tryz.sizeOf0
 v0:=Tryz.zeroValue0
 t24:=Tryz.underlying27
 a24:=Tryz.isAgg27
 z24:=Tryz.sizeOf27
 v24:=Tryz.zeroValue27
 t26:=Tryz.underlying3
 a26:=Tryz.isAgg3
 z26:=Tryz.sizeOf3
 v26:=Tryz.zeroValue3
 t28:=Tryz.underlying214
 a28:=Tryz.isAgg214
 z28:=Tryz.sizeOf214
 v28:=Tryz.zeroValue214
 i26:=by kernel_rfl }
def sortI_ren:Go.Shelf.Ren:=⟨fun | 5=>188 | 8=>178 | 7=>202 | 19=>198 | 20=>199 | 10=>208 | 11=>209 | 12=>210 | 13=>211 | 14=>212 | 15=>213 | 16=>214 | 17=>215 | 18=>216 | 30=>218 | 31=>204 | 32=>205 | 33=>219 | 34=>220 | 35=>200 | 40=>221 | n=>n,fun | 23=>27 | 25=>3 | 3=>3 | 32=>235 | 22=>27 | 0=>0 | 44=>254 | 46=>256 | 4=>4 | 36=>248 | 35=>247 | 41=>120 | 5=>5 | 9=>9 | 53=>259 | 57=>263 | 63=>270 | 64=>73 | n=>n,fun | n=>n⟩
theorem sortI:Go.Proofs.SlLaysM.n5 Tryz.prog sortI_ren:={
 mixed:=by kernel_rfl
 f5:=⟨Tryz.f188.name,by decide,Tryz.func188.trans (congrArg some (by kernel_rfl))⟩
 f7:=⟨Tryz.f202.name,by decide,Tryz.func202.trans (congrArg some (by kernel_rfl))⟩
 f8:=Tryz.func178.trans (congrArg some (by kernel_rfl))
 f10:=⟨Tryz.f208.name,by decide,Tryz.func208.trans (congrArg some (by kernel_rfl))⟩
 f11:=⟨Tryz.f209.name,by decide,Tryz.func209.trans (congrArg some (by kernel_rfl))⟩
 f12:=⟨Tryz.f210.name,by decide,Tryz.func210.trans (congrArg some (by kernel_rfl))⟩
 f13:=⟨Tryz.f211.name,by decide,Tryz.func211.trans (congrArg some (by kernel_rfl))⟩
 f14:=⟨Tryz.f212.name,by decide,Tryz.func212.trans (congrArg some (by kernel_rfl))⟩
 f15:=⟨Tryz.f213.name,by decide,Tryz.func213.trans (congrArg some (by kernel_rfl))⟩
 f16:=⟨Tryz.f214.name,by decide,Tryz.func214.trans (congrArg some (by kernel_rfl))⟩
 f17:=⟨Tryz.f215.name,by decide,Tryz.func215.trans (congrArg some (by kernel_rfl))⟩
 f18:=⟨Tryz.f216.name,by decide,Tryz.func216.trans (congrArg some (by kernel_rfl))⟩
 f19:=Tryz.func198.trans (congrArg some (by kernel_rfl))
 f20:=Tryz.func199.trans (congrArg some (by kernel_rfl))
 f30:=⟨Tryz.f218.name,by decide,Tryz.func218.trans (congrArg some (by kernel_rfl))⟩
 f31:=Tryz.func204.trans (congrArg some (by kernel_rfl))
 f32:=Tryz.func205.trans (congrArg some (by kernel_rfl))
 f33:=⟨Tryz.f219.name,by decide,Tryz.func219.trans (congrArg some (by kernel_rfl))⟩
 f34:=⟨Tryz.f220.name,by decide,Tryz.func220.trans (congrArg some (by kernel_rfl))⟩
 f35:=⟨Tryz.f200.name,by decide,Tryz.func200.trans (congrArg some (by kernel_rfl))⟩
 f40:=⟨Tryz.f221.name,by decide,Tryz.func221.trans (congrArg some (by kernel_rfl))⟩
 t0:=Tryz.underlying0
 a0:=Tryz.isAgg0
 z0:=Tryz.sizeOf0
 v0:=Tryz.zeroValue0
 t3:=Tryz.underlying3
 a3:=Tryz.isAgg3
 z3:=Tryz.sizeOf3
 v3:=Tryz.zeroValue3
 t4:=Tryz.underlying4
 a4:=Tryz.isAgg4
 z4:=Tryz.sizeOf4
 v4:=Tryz.zeroValue4
 t5:=Tryz.underlying5
 a5:=Tryz.isAgg5
 z5:=Tryz.sizeOf5
 v5:=Tryz.zeroValue5
 t9:=Tryz.underlying9
 a9:=Tryz.isAgg9
 z9:=Tryz.sizeOf9
 v9:=Tryz.zeroValue9
 t22:=Tryz.underlying27
 a22:=Tryz.isAgg27
 z22:=Tryz.sizeOf27
 v22:=Tryz.zeroValue27
 t23:=Tryz.underlying27
 a23:=Tryz.isAgg27
 z23:=Tryz.sizeOf27
 v23:=Tryz.zeroValue27
 t25:=Tryz.underlying3
 a25:=Tryz.isAgg3
 z25:=Tryz.sizeOf3
 v25:=Tryz.zeroValue3
 t32:=Tryz.underlying235
 a32:=Tryz.isAgg235
 z32:=Tryz.sizeOf235
 v32:=Tryz.zeroValue235
 t35:=Tryz.underlying247
 a35:=Tryz.isAgg247
 z35:=Tryz.sizeOf247
 v35:=Tryz.zeroValue247
 t36:=Tryz.underlying248
 a36:=Tryz.isAgg248
 z36:=Tryz.sizeOf248
 v36:=Tryz.zeroValue248
 t41:=Tryz.underlying120
 a41:=Tryz.isAgg120
 z41:=Tryz.sizeOf120
 v41:=Tryz.zeroValue120
 t44:=Tryz.underlying254
 a44:=Tryz.isAgg254
 z44:=Tryz.sizeOf254
 v44:=Tryz.zeroValue254
 t46:=Tryz.underlying256
 a46:=Tryz.isAgg256
 z46:=Tryz.sizeOf256
 v46:=Tryz.zeroValue256
 t53:=Tryz.underlying259
 a53:=Tryz.isAgg259
 z53:=Tryz.sizeOf259
 v53:=Tryz.zeroValue259
 t57:=Tryz.underlying263
 a57:=Tryz.isAgg263
 z57:=Tryz.sizeOf263
 v57:=Tryz.zeroValue263
 t63:=Tryz.underlying270
 a63:=Tryz.isAgg270
 z63:=Tryz.sizeOf270
 v63:=Tryz.zeroValue270
 t64:=Tryz.underlying73
 a64:=Tryz.isAgg73
 z64:=Tryz.sizeOf73
 v64:=Tryz.zeroValue73 }

theorem sortsI (m:Nat):AnyZI.SortsIn Tryz.prog sortedI_ren Fence.wide m:=
 ⟨fun blk off cap ss W hH hblk hsz=>callsIn_wide.2 (AnyM.slices_Sort_int sortI blk off cap ss W hH hblk hsz),
  fun p cap W=>callsIn_wide.2 (AnyM.slices_Sort_int_none sortI p cap W)⟩
theorem keysC (mb:Option Nat) (W:World):Calls Tryz.prog 164 #[.map mb] W fun e w'=>e=.returned (.func (.func 189) #[] #[.pointer (some ⟨W.heap.size,0,none⟩)])∧w'=W.alloc (.cells #[.map mb] 216):=
 callsIn_wide.1 (AnyZI.keys_in keysI Fence.wide 5 trivial rfl mb W)
theorem sortedC (b nn:Nat) (D0:DataW Unit) (w:World) (hown:w.ownsMap Tryz.prog 3 (plainElem Tryz.prog 3) b nn D0) (hmax:nn≤1000000000) :
  Calls Tryz.prog 163 #[.func (.func 189) #[] #[.pointer (some ⟨w.heap.size,0,none⟩)]] (w.alloc (.cells #[.map (some b)] 216)) fun e w'=>∃ (v:Value) (ss:List Int),e=.returned v∧ss.Perm (intKeys D0) ∧
   w'.ownsRow (w.alloc (.cells #[.map (some b)] 216)).heap.size 3 1 v ss.length ((ss.mergeSort (fun x y=>decide (x≤y))).map encZ)∧(v=.slice none 0 0↔ss=[])∧Below (w.alloc (.cells #[.map (some b)] 216)).heap.size (w.alloc (.cells #[.map (some b)] 216)) w':=by
 have hbl:=hown.lt
 have hsz:=hown.size_le
 have hseq:SeqGives Fence.wide 2 Tryz.prog 189 #[.pointer (some ⟨w.heap.size,0,none⟩)] encZ (fun ss=>ss.Perm (intKeys D0)) (Maps.size D0) (w.alloc (.cells #[.map (some b)] 216)):=
  AnyZI.keys_gives (ρ:=keysI_ren) { keysI with } Fence.wide _ trivial rfl (by omega) w.heap.size b nn D0 _ (by simp) (by simp) (by
   obtain ⟨es,clock,hb,Ft,hs,hD⟩:=hown
   exact ⟨es,clock,(Below.heap_alloc _ _ b hbl).trans hb,Ft,hs,hD⟩)
 have cS:=AnyZI.sorted_in sortedI Fence.wide 5 trivial trivial trivial trivial rfl (by omega) (sortsI _) (enters_of Tryz.func188 (by kernel_rfl) rfl) 189 #[.pointer (some ⟨w.heap.size,0,none⟩)] trivial (enters_of Tryz.func189 (by kernel_rfl) rfl) _ _ (by unfold maxLen;omega) (by omega) _ hseq
 exact callsIn_wide.1 cS
theorem keys_set {w:World} {b nn:Nat} {D:DataW Unit} {xs ss:List Int} (hown:w.ownsMap Tryz.prog 3 (plainElem Tryz.prog 3) b nn D) (hS:SetD D xs) (hp:ss.Perm (intKeys D)):ss.mergeSort (fun x y=>decide (x≤y))=mrgI xs:=by
 obtain ⟨es,hD,hpw,_⟩:=hown.entries law_int8
 obtain ⟨es',hD',hko⟩:=hown.keysOf
 obtain rfl:es=es':=by rw [hD] at hD';simpa using hD'
 subst hD
 have hp2:(mrgI xs).Perm (intKeys (.map es)):=perm_intKeys hpw (fun p hp=>by obtain ⟨v,hv⟩:=hko p hp;obtain ⟨x,_,hx,_⟩:=Maps.keyOf_i64 Tryz.underlying3 hv;exact ⟨x,hx⟩) (rises_nodup (mrgI_rises xs)) (fun x=>by rw [mrgI_mem,hS.has])
 have hp3:(ss.mergeSort (fun x y=>decide (x≤y))).Perm (mrgI xs):=(List.mergeSort_perm _ _).trans (hp.trans hp2.symm)
 have tr:∀ a b c:Int,decide (a≤b)=true→decide (b≤c)=true→decide (a≤c)=true:=fun a b c h1 h2=>by simp only [decide_eq_true_eq] at *;exact Int.le_trans h1 h2
 have to:∀ a b:Int,(decide (a≤b) || decide (b≤a))=true:=fun a b=>by simp only [Bool.or_eq_true,decide_eq_true_eq];exact Int.le_total a b
 refine hp3.eq_of_pairwise (le:=fun a b=>a≤b) (fun a b _ _ h1 h2=>Int.le_antisymm h1 h2) ?_ ((mrgI_rises xs).imp (fun h=>Int.le_of_lt h))
 have:=List.pairwise_mergeSort tr to ss
 exact this.imp (fun h=>by simpa using h)
theorem merged_is (a:Option Addr) (n c:Nat) (xss:List (List Int)) (w:World) (h:RowsI w a n c xss) (hn:n≤1000000) (hT:xss.flatten.length≤1000000000) (hF:∀ x ∈ xss.flatten,(Lit.int .i64 x).wf=true) :
  Calls Tryz.prog 113 #[.slice a n c] w fun e w'=>RowGot e w' w.heap.size (mrgI xss.flatten)∧Below w.heap.size w w':=by
 have kM:=mapOf_is a n c xss w h hn hT hF
 clear h hF
 generalize xss.flatten=xs at *
 have HL:Hid (xs.length≤1000000000):=hT
 clear hT
 go_enter Tryz.func113,Tryz.ntmps113
 go_wp2_with fail
 refine kM.mono ?_
 rintro e w1 ⟨⟨rfl,D,hm,hS⟩,hb⟩
 have kS:=sortedC w.heap.size xs.length D w1 hm HL.out
 go_wp2_with fail
 refine (keysC _ _).mono ?_
 rintro e w2 ⟨rfl,rfl⟩
 go_wp2_with fail
 refine kS.mono ?_
 rintro e w3 ⟨v,ss,rfl,hp,ho,hnil,hb3⟩
 go_wp2
 go_ret
 have hsz:=hb.size
 refine ⟨⟨v,rfl,?_⟩,hb.trans ?_⟩
 ·have e1:=keys_set hm hS hp
  have e2:ss.length=(mrgI xs).length:=by rw [← e1,List.length_mergeSort]
  rw [e1,e2] at ho
  exact ownsRow_base_a ho (by simp;omega)
 ·exact ((Below.refl _ w1).alloc (Nat.le_refl _) _).mono hsz |>.trans (hb3.mono (by simp;omega))

open Go.RowKit

theorem lone8 {w:World} {G:Nat} {a:Value} (h0:w.cell? ⟨G,0,none⟩=some a):∀ j u,[a][j]?=some u→w.cell? ((⟨G,0,none⟩:Addr).add j)=some u:=by
 intro j u hj
 match j,hj with
 | 0,hj=>simp at hj;subst hj;simpa [Addr.add] using h0
 | (j+1),hj=>simp at hj
theorem l08Put_is (b off n cap:Nat) (xs:List Int) (y:Int) (w:World) (h:Ints .i64 w (some ⟨b,off,none⟩) n cap xs) (hn:n≤1000000) :
  Calls Tryz.prog 183 #[.slice (some ⟨b,off,none⟩) n cap,.int .i64 y] w fun e w'=>RowGot e w' w.heap.size (putI xs y)∧Below w.heap.size w w':=by
 obtain ⟨i0,hi,hz0,hz1,hz2⟩:=info_parts info_int
 have hl:=h.1
 have bw:Below w.heap.size w w:=Below.refl _ _
 have hsz:w.heap.size≤w.heap.size:=Nat.le_refl _
 go_enter Tryz.func183,Tryz.ntmps183
 go_wp2_with fail
 go_loopw [5] (fun si wr=>∃ k:Nat,k≤n∧si=.int .i64 k∧Hid (∀ i,i<k→xs.getD i 0<y)∧w=wr) (fun si _=>n - (Go.RowKit.intOf si).toNat)
 case atStart=>exact ⟨0,by omega,rfl,fun i hi=>by omega,rfl⟩
 case round =>
  obtain ⟨k,hkn,rfl,HY,rfl⟩:=hrel
  have hPut:=putI_at xs y k (by omega) HY.out
  obtain ⟨o2,rD,hD⟩:=slice_l8 h hkn
  have rT:=(slice_h8 h hkn).1
  by_cases hlt:k<n
  ·have hki:(k:Int)<(n:Int):=by omega
   have hk0:(0:Int)≤(k:Int):=by omega
   have hX':=h
   obtain ⟨_,_,_,hcase⟩:=hX'
   rcases hcase with h0 | ⟨b',off',he,hb,hc⟩
   ·omega
   cases he
   have d0:=hc k hlt
   clear hc hb
   obtain ⟨x,hx⟩:∃ x,x=xs.getD k 0:=⟨_,rfl⟩
   rw [← hx] at d0 hPut
   by_cases hxy:x<y
   ·have HN:Hid (∀ i,i<k+1→xs.getD i 0<y):=fun i hi=>by
     by_cases e:i=k
     ·subst e;rw [← hx];exact hxy
     ·exact HY.out i (by omega)
    clear hPut HY rD rT hD hx
    go_wp2
    go_roundw
    case rel=>exact ⟨k+1,by omega,by go_num,HN,by first | rfl | trivial⟩
    case measure=>simp [Go.RowKit.intOf];omega
   ·have hP2:=hPut (.inr hxy)
    clear hPut HY hx
    have hxy':decide (x<y)=false:=by simp;omega
    by_cases hE:x=y
    ·subst hE
     have HQ:Hid (putI xs x=xs):=by
      rw [Hid,hP2,if_pos ⟨by omega,rfl⟩]
     have hxx0:(x == x)=true:=by simp
     clear hP2 rD rT hD hxy
     go_wp2_with (at_builtin;refine wpList_append_own _ rfl _ _ 27 rfl w.heap.size 3 i0 (.int .i64 0) 1 8 Tryz.underlying27 hi hz0 hz1 hz2 rfl (by decide) _ _ _ rfl (empty8 w 3 1 w.heap.size hsz) ⟨b,off,none⟩ n cap (xs.map (Value.int .i64)) rfl (by rw [List.length_map];omega) (news8 (h.below (by go_grown))) (one8 _) ?c3 ?c4 ?c5 ?_)
     case c3=>unfold maxLen;omega
     case c4=>omega
     case c5=>simp
     intro v7 w7 hown7 hgrow7 _
     replace hown7:w7.ownsRow w.heap.size 3 1 v7 n (xs.map (Value.int .i64)):=by simpa using hown7
     have bw7:Below w.heap.size w w7:=(show Below w.heap.size w (w.alloc (.cells #[] 3)) by go_grown).grown hgrow7 (by simp) (fun g hg=>by simp [Value.ownBlock] at hg;omega)
     obtain ⟨g,c,rfl⟩:=some8 hown7 (by omega)
     have hQ:w7.ownsRow w.heap.size 3 1 (.slice (some ⟨g,0,none⟩) n c) (putI xs x).length ((putI xs x).map (Value.int .i64)):=by
      rw [HQ.out,hl]
      exact hown7
     clear hown7 hgrow7
     go_wp2
     go_ret
     exact ⟨⟨_,rfl,hQ⟩,bw7⟩
    ·have HP:Hid (∀ (v:Value) (W:World),W.ownsRow w.heap.size 3 1 v (0+k+1+(n - k)) (([]++(xs.take k).map (Value.int .i64)++[.int .i64 y])++(xs.drop k).map (Value.int .i64))→W.ownsRow w.heap.size 3 1 v (putI xs y).length ((putI xs y).map (Value.int .i64))):=by
      intro v W q
      rw [if_neg (fun e=>hE e.2)] at hP2
      have hlen:(putI xs y).length=0+k+1+(n - k):=by rw [hP2];simp;omega
      rw [hlen,hP2]
      simpa using q
     have hE':(x == y)=false:=by simp [hE]
     clear hP2 hE hxy
     go_wp2_with fail
     refine wp_region_held_drew (S:=(fun w'=>w.heap.size≤w'.heap.size)) (by kernel_rfl) hsz (fun hS0=>?_)
     refine tkm 1 36 (.slice (some ⟨b,off,none⟩) n cap) ?_
     refine tkm 2 37 (.int .i64 (k:Int)) ?_
     refine tkm 3 38 (.slice (some ⟨b,off,none⟩) k cap) ?_
     refine tkm 5 40 (.int .i64 y) ?_
     refine tkm 8 43 (.slice (some ⟨b,off,none⟩) n cap) ?_
     refine tkm 9 44 (.int .i64 (k:Int)) ?_
     refine tkm 10 45 (.slice (some ⟨b,o2,none⟩) (n - k) (cap - k)) ?_
     refine wpAnyH_ready (rs:=[0,6]) (by kernel_rfl) (by simp) ?_
     refine AllReadyH.cons (o:=⟨some 35,_,_,_,_,_⟩) rfl (fun K hK=>?_) (AllReadyH.cons (o:=⟨some 41,_,_,_,_,_⟩) rfl (fun K hK=>?_) AllReadyH.nil)
     ·have q:=(empty8 w 3 1 w.heap.size hsz).drew
      obtain ⟨V1,hV⟩:∃ V,V=w.heap.size:=⟨_,rfl⟩
      have hal:Below w.heap.size w (w.alloc (.cells #[] 3)).drew:=by go_grown
      replace bw:=bel8 bw hal
      replace hsz:w.heap.size≤(w.alloc (.cells #[] 3)).drew.heap.size:=Nat.le_trans hsz hal.size
      go_simp
      rw [← hV]
      refine hK.out _ _ hsz (fun hS1=>?_)
      clear hK hal
      replace q:(w.alloc (.cells #[] 3)).drew.ownsRow w.heap.size 3 1 (.slice (some ⟨V1,0,none⟩) 0 0) 0 []:=by rw [hV];exact q
      clear hV
      generalize (w.alloc (.cells #[] 3)).drew=U1 at *
      try simp only [Act.put,tka,tkb,tkc]
      refine wpAnyH_ready (rs:=[4,6]) (by kernel_rfl) (by simp) ?_
      refine AllReadyH.cons (o:=⟨some 39,_,_,_,_,_⟩) rfl (fun K hK=>?_) (AllReadyH.cons (o:=⟨some 41,_,_,_,_,_⟩) rfl (fun K hK=>?_) AllReadyH.nil)
      ·refine step_app8 rfl _ _ 27 rfl w.heap.size 3 i0 (.int .i64 0) 1 8 Tryz.underlying27 hi hz0 hz1 hz2 rfl (by decide) (.slice (some ⟨V1,0,none⟩) 0 0) 0 [] rfl q ⟨b,off,none⟩ k cap ((xs.take k).map (Value.int .i64)) rfl (by rw [List.length_map,List.length_take];omega) (news8 ((slice_h8 h hkn).2.below bw)) (one8 _) (by unfold maxLen;omega) (by omega) hsz ?_
       intro v2 U2 q2 gr hob
       replace bw:=bw.grown gr bw.size (fun g hg=>(q.lt g hg).1)
       replace hsz:w.heap.size≤U2.heap.size:=Nat.le_trans hsz gr.size
       refine hK.out _ _ hsz (fun hS2=>?_)
       clear hK q gr hob
       have q:=q2
       clear q2
       try simp only [Act.put,tka,tkb,tkc]
       refine tkr 6 41 (fun K hK=>?_)
       obtain ⟨G,hG⟩:∃ G,G=U2.heap.size:=⟨_,rfl⟩
       have e0:(U2.alloc (.cells #[.int .i64 y] 3)).cell? ⟨G,0,none⟩=some (.int .i64 y):=by subst hG;simp [go_sem]
       have hal:Below U2.heap.size U2 (U2.alloc (.cells #[.int .i64 y] 3)):=by go_grown
       have hap:∀ g,Value.ownBlock v2=some g→g≠G:=fun g hg e=>by have:=(q.lt g hg).2;omega
       replace q:=owns8 q hal
       replace bw:=bel8 bw hal
       replace hsz:w.heap.size≤(U2.alloc (.cells #[.int .i64 y] 3)).heap.size:=Nat.le_trans hsz hal.size
       go_simp
       rw [← hG]
       refine hK.out _ _ hsz (fun hS3=>?_)
       clear hK hal
       clear hG
       generalize (U2.alloc (.cells #[.int .i64 y] 3))=U3 at *
       try simp only [Act.put,tka,tkb,tkc]
       refine tkr 7 42 (fun K hK=>?_)
       refine step_app8 rfl _ _ 27 rfl w.heap.size 3 i0 (.int .i64 0) 1 8 Tryz.underlying27 hi hz0 hz1 hz2 rfl (by decide) v2 (0+k) ([]++(xs.take k).map (Value.int .i64)) rfl q ⟨G,0,none⟩ 1 1 [.int .i64 y] rfl rfl (lone8 e0) (one8 [y]) (by unfold maxLen;omega) (by omega) hsz ?_
       intro v4 U4 q2 gr hob
       replace bw:=bw.grown gr bw.size (fun g hg=>(q.lt g hg).1)
       replace hsz:w.heap.size≤U4.heap.size:=Nat.le_trans hsz gr.size
       refine hK.out _ _ hsz (fun hS4=>?_)
       clear hK q gr hob
       have q:=q2
       clear q2
       clear e0 hap
       try simp only [Act.put,tka,tkb,tkc]
       refine tkr 11 46 (fun K hK=>?_)
       refine step_app8 rfl _ _ 27 rfl w.heap.size 3 i0 (.int .i64 0) 1 8 Tryz.underlying27 hi hz0 hz1 hz2 rfl (by decide) v4 (0+k+1) (([]++(xs.take k).map (Value.int .i64))++[.int .i64 y]) rfl q ⟨b,o2,none⟩ (n - k) (cap - k) ((xs.drop k).map (Value.int .i64)) rfl (by rw [List.length_map,List.length_drop];omega) (news8 (hD.below bw)) (one8 _) (by unfold maxLen;omega) (by omega) hsz ?_
       intro v5 U5 q2 gr hob
       replace bw:=bw.grown gr bw.size (fun g hg=>(q.lt g hg).1)
       replace hsz:w.heap.size≤U5.heap.size:=Nat.le_trans hsz gr.size
       refine hK.out _ _ hsz (fun hS5=>?_)
       clear hK q gr hob
       have q:=q2
       clear q2
       try simp only [Act.put,tka,tkb,tkc]
       refine tkm 12 4 v5 ?_
       refine wpAnyH_done (by kernel_rfl) ?_ _
       have hQ:=HP.out _ _ q
       obtain ⟨g,c,rfl⟩:=some8 q (by omega)
       clear q rT rD
       go_wp2
       go_ret
       exact ⟨⟨_,rfl,hQ⟩,bw⟩
      ·obtain ⟨G,hG⟩:∃ G,G=U1.heap.size:=⟨_,rfl⟩
       have e0:(U1.alloc (.cells #[.int .i64 y] 3)).cell? ⟨G,0,none⟩=some (.int .i64 y):=by subst hG;simp [go_sem]
       have hal:Below U1.heap.size U1 (U1.alloc (.cells #[.int .i64 y] 3)):=by go_grown
       have hap:∀ g,Value.ownBlock (.slice (some ⟨V1,0,none⟩) 0 0)=some g→g≠G:=fun g hg e=>by have:=(q.lt g hg).2;omega
       replace q:=owns8 q hal
       replace bw:=bel8 bw hal
       replace hsz:w.heap.size≤(U1.alloc (.cells #[.int .i64 y] 3)).heap.size:=Nat.le_trans hsz hal.size
       go_simp
       rw [← hG]
       refine hK.out _ _ hsz (fun hS6=>?_)
       clear hK hal
       clear hG
       generalize (U1.alloc (.cells #[.int .i64 y] 3))=U6 at *
       try simp only [Act.put,tka,tkb,tkc]
       refine tkr 4 39 (fun K hK=>?_)
       have hGl:=World.block_lt_of_cell? _ _ e0
       refine step_app8 rfl _ _ 27 rfl w.heap.size 3 i0 (.int .i64 0) 1 8 Tryz.underlying27 hi hz0 hz1 hz2 rfl (by decide) (.slice (some ⟨V1,0,none⟩) 0 0) 0 [] rfl q ⟨b,off,none⟩ k cap ((xs.take k).map (Value.int .i64)) rfl (by rw [List.length_map,List.length_take];omega) (news8 ((slice_h8 h hkn).2.below bw)) (one8 _) (by unfold maxLen;omega) (by omega) hsz ?_
       intro v7 U7 q2 gr hob
       replace e0:=grown8 gr e0 (fun e=>hap _ e.symm rfl)
       have hap2:∀ g,Value.ownBlock v7=some g→g≠G:=fun g hg e=>by
        rcases hob with hu | hu
        ·exact hap g (hu▸hg) e
        ·rw [hu] at hg
         simp at hg hGl
         omega
       clear hap hGl
       have hap:=hap2
       clear hap2
       replace bw:=bw.grown gr bw.size (fun g hg=>(q.lt g hg).1)
       replace hsz:w.heap.size≤U7.heap.size:=Nat.le_trans hsz gr.size
       refine hK.out _ _ hsz (fun hS7=>?_)
       clear hK q gr hob
       have q:=q2
       clear q2
       try simp only [Act.put,tka,tkb,tkc]
       refine tkr 7 42 (fun K hK=>?_)
       refine step_app8 rfl _ _ 27 rfl w.heap.size 3 i0 (.int .i64 0) 1 8 Tryz.underlying27 hi hz0 hz1 hz2 rfl (by decide) v7 (0+k) ([]++(xs.take k).map (Value.int .i64)) rfl q ⟨G,0,none⟩ 1 1 [.int .i64 y] rfl rfl (lone8 e0) (one8 [y]) (by unfold maxLen;omega) (by omega) hsz ?_
       intro v8 U8 q2 gr hob
       replace bw:=bw.grown gr bw.size (fun g hg=>(q.lt g hg).1)
       replace hsz:w.heap.size≤U8.heap.size:=Nat.le_trans hsz gr.size
       refine hK.out _ _ hsz (fun hS8=>?_)
       clear hK q gr hob
       have q:=q2
       clear q2
       clear e0 hap
       try simp only [Act.put,tka,tkb,tkc]
       refine tkr 11 46 (fun K hK=>?_)
       refine step_app8 rfl _ _ 27 rfl w.heap.size 3 i0 (.int .i64 0) 1 8 Tryz.underlying27 hi hz0 hz1 hz2 rfl (by decide) v8 (0+k+1) (([]++(xs.take k).map (Value.int .i64))++[.int .i64 y]) rfl q ⟨b,o2,none⟩ (n - k) (cap - k) ((xs.drop k).map (Value.int .i64)) rfl (by rw [List.length_map,List.length_drop];omega) (news8 (hD.below bw)) (one8 _) (by unfold maxLen;omega) (by omega) hsz ?_
       intro v9 U9 q2 gr hob
       replace bw:=bw.grown gr bw.size (fun g hg=>(q.lt g hg).1)
       replace hsz:w.heap.size≤U9.heap.size:=Nat.le_trans hsz gr.size
       refine hK.out _ _ hsz (fun hS9=>?_)
       clear hK q gr hob
       have q:=q2
       clear q2
       try simp only [Act.put,tka,tkb,tkc]
       refine tkm 12 4 v9 ?_
       refine wpAnyH_done (by kernel_rfl) ?_ _
       have hQ:=HP.out _ _ q
       obtain ⟨g,c,rfl⟩:=some8 q (by omega)
       clear q rT rD
       go_wp2
       go_ret
       exact ⟨⟨_,rfl,hQ⟩,bw⟩
     ·obtain ⟨G,hG⟩:∃ G,G=w.heap.size:=⟨_,rfl⟩
      have e0:(w.alloc (.cells #[.int .i64 y] 3)).drew.cell? ⟨G,0,none⟩=some (.int .i64 y):=by subst hG;simp [go_sem]
      have hal:Below w.heap.size w (w.alloc (.cells #[.int .i64 y] 3)).drew:=by go_grown
      replace bw:=bel8 bw hal
      replace hsz:w.heap.size≤(w.alloc (.cells #[.int .i64 y] 3)).drew.heap.size:=Nat.le_trans hsz hal.size
      go_simp
      rw [← hG]
      refine hK.out _ _ hsz (fun hS10=>?_)
      clear hK hal
      clear hG
      generalize (w.alloc (.cells #[.int .i64 y] 3)).drew=U10 at *
      try simp only [Act.put,tka,tkb,tkc]
      refine tkr 0 35 (fun K hK=>?_)
      have q:=(empty8 U10 3 1 w.heap.size hsz)
      obtain ⟨V11,hV⟩:∃ V,V=U10.heap.size:=⟨_,rfl⟩
      have hap:∀ g,(Value.slice (some ⟨U10.heap.size,0,none⟩) 0 0).ownBlock=some g→g≠G:=fun g hg e=>by have hGl:=World.block_lt_of_cell? _ _ e0;simp [Value.ownBlock] at hg;simp at hGl;omega
      have hal:Below U10.heap.size U10 (U10.alloc (.cells #[] 3)):=by go_grown
      replace e0:=cell8 hal e0
      replace bw:=bel8 bw hal
      replace hsz:w.heap.size≤(U10.alloc (.cells #[] 3)).heap.size:=Nat.le_trans hsz hal.size
      go_simp
      rw [← hV]
      refine hK.out _ _ hsz (fun hS11=>?_)
      clear hK hal
      replace q:(U10.alloc (.cells #[] 3)).ownsRow w.heap.size 3 1 (.slice (some ⟨V11,0,none⟩) 0 0) 0 []:=by rw [hV];exact q
      replace hap:∀ g,(Value.slice (some ⟨V11,0,none⟩) 0 0).ownBlock=some g→g≠G:=by rw [hV];exact hap
      clear hV
      generalize (U10.alloc (.cells #[] 3))=U11 at *
      try simp only [Act.put,tka,tkb,tkc]
      refine tkr 4 39 (fun K hK=>?_)
      have hGl:=World.block_lt_of_cell? _ _ e0
      refine step_app8 rfl _ _ 27 rfl w.heap.size 3 i0 (.int .i64 0) 1 8 Tryz.underlying27 hi hz0 hz1 hz2 rfl (by decide) (.slice (some ⟨V11,0,none⟩) 0 0) 0 [] rfl q ⟨b,off,none⟩ k cap ((xs.take k).map (Value.int .i64)) rfl (by rw [List.length_map,List.length_take];omega) (news8 ((slice_h8 h hkn).2.below bw)) (one8 _) (by unfold maxLen;omega) (by omega) hsz ?_
      intro v12 U12 q2 gr hob
      replace e0:=grown8 gr e0 (fun e=>hap _ e.symm rfl)
      have hap2:∀ g,Value.ownBlock v12=some g→g≠G:=fun g hg e=>by
       rcases hob with hu | hu
       ·exact hap g (hu▸hg) e
       ·rw [hu] at hg
        simp at hg hGl
        omega
      clear hap hGl
      have hap:=hap2
      clear hap2
      replace bw:=bw.grown gr bw.size (fun g hg=>(q.lt g hg).1)
      replace hsz:w.heap.size≤U12.heap.size:=Nat.le_trans hsz gr.size
      refine hK.out _ _ hsz (fun hS12=>?_)
      clear hK q gr hob
      have q:=q2
      clear q2
      try simp only [Act.put,tka,tkb,tkc]
      refine tkr 7 42 (fun K hK=>?_)
      refine step_app8 rfl _ _ 27 rfl w.heap.size 3 i0 (.int .i64 0) 1 8 Tryz.underlying27 hi hz0 hz1 hz2 rfl (by decide) v12 (0+k) ([]++(xs.take k).map (Value.int .i64)) rfl q ⟨G,0,none⟩ 1 1 [.int .i64 y] rfl rfl (lone8 e0) (one8 [y]) (by unfold maxLen;omega) (by omega) hsz ?_
      intro v13 U13 q2 gr hob
      replace bw:=bw.grown gr bw.size (fun g hg=>(q.lt g hg).1)
      replace hsz:w.heap.size≤U13.heap.size:=Nat.le_trans hsz gr.size
      refine hK.out _ _ hsz (fun hS13=>?_)
      clear hK q gr hob
      have q:=q2
      clear q2
      clear e0 hap
      try simp only [Act.put,tka,tkb,tkc]
      refine tkr 11 46 (fun K hK=>?_)
      refine step_app8 rfl _ _ 27 rfl w.heap.size 3 i0 (.int .i64 0) 1 8 Tryz.underlying27 hi hz0 hz1 hz2 rfl (by decide) v13 (0+k+1) (([]++(xs.take k).map (Value.int .i64))++[.int .i64 y]) rfl q ⟨b,o2,none⟩ (n - k) (cap - k) ((xs.drop k).map (Value.int .i64)) rfl (by rw [List.length_map,List.length_drop];omega) (news8 (hD.below bw)) (one8 _) (by unfold maxLen;omega) (by omega) hsz ?_
      intro v14 U14 q2 gr hob
      replace bw:=bw.grown gr bw.size (fun g hg=>(q.lt g hg).1)
      replace hsz:w.heap.size≤U14.heap.size:=Nat.le_trans hsz gr.size
      refine hK.out _ _ hsz (fun hS14=>?_)
      clear hK q gr hob
      have q:=q2
      clear q2
      try simp only [Act.put,tka,tkb,tkc]
      refine tkm 12 4 v14 ?_
      refine wpAnyH_done (by kernel_rfl) ?_ _
      have hQ:=HP.out _ _ q
      obtain ⟨g,c,rfl⟩:=some8 q (by omega)
      clear q rT rD
      go_wp2
      go_ret
      exact ⟨⟨_,rfl,hQ⟩,bw⟩
  ·obtain rfl:k=n:=by omega
   have hkk:¬ ((k:Int)<(k:Int)):=by omega
   have hkb:decide ((k:Int)<(k:Int))=false:=by simp
   have hP2:=hPut (.inl (by omega))
   have HP:Hid (∀ (v:Value) (W:World),W.ownsRow w.heap.size 3 1 v (0+k+1+0) (([]++(xs.take k).map (Value.int .i64)++[.int .i64 y])++(xs.drop k).map (Value.int .i64))→W.ownsRow w.heap.size 3 1 v (putI xs y).length ((putI xs y).map (Value.int .i64))):=by
    intro v W q
    rw [if_neg (by omega)] at hP2
    have hlen:(putI xs y).length=0+k+1+0:=by rw [hP2];simp;omega
    rw [hlen,hP2]
    simpa using q
   clear hPut HY hP2
   go_wp2_with fail
   refine wp_region_held_drew (S:=(fun w'=>w.heap.size≤w'.heap.size)) (by kernel_rfl) hsz (fun hS0=>?_)
   refine tkm 1 36 (.slice (some ⟨b,off,none⟩) k cap) ?_
   refine tkm 2 37 (.int .i64 (k:Int)) ?_
   refine tkm 3 38 (.slice (some ⟨b,off,none⟩) k cap) ?_
   refine tkm 5 40 (.int .i64 y) ?_
   refine tkm 8 43 (.slice (some ⟨b,off,none⟩) k cap) ?_
   refine tkm 9 44 (.int .i64 (k:Int)) ?_
   refine tkm 10 45 (.slice (some ⟨b,o2,none⟩) 0 (cap - k)) ?_
   refine wpAnyH_ready (rs:=[0,6]) (by kernel_rfl) (by simp) ?_
   refine AllReadyH.cons (o:=⟨some 35,_,_,_,_,_⟩) rfl (fun K hK=>?_) (AllReadyH.cons (o:=⟨some 41,_,_,_,_,_⟩) rfl (fun K hK=>?_) AllReadyH.nil)
   ·have q:=(empty8 w 3 1 w.heap.size hsz).drew
    obtain ⟨V15,hV⟩:∃ V,V=w.heap.size:=⟨_,rfl⟩
    have hal:Below w.heap.size w (w.alloc (.cells #[] 3)).drew:=by go_grown
    replace bw:=bel8 bw hal
    replace hsz:w.heap.size≤(w.alloc (.cells #[] 3)).drew.heap.size:=Nat.le_trans hsz hal.size
    go_simp
    rw [← hV]
    refine hK.out _ _ hsz (fun hS15=>?_)
    clear hK hal
    replace q:(w.alloc (.cells #[] 3)).drew.ownsRow w.heap.size 3 1 (.slice (some ⟨V15,0,none⟩) 0 0) 0 []:=by rw [hV];exact q
    clear hV
    generalize (w.alloc (.cells #[] 3)).drew=U15 at *
    try simp only [Act.put,tka,tkb,tkc]
    refine wpAnyH_ready (rs:=[4,6]) (by kernel_rfl) (by simp) ?_
    refine AllReadyH.cons (o:=⟨some 39,_,_,_,_,_⟩) rfl (fun K hK=>?_) (AllReadyH.cons (o:=⟨some 41,_,_,_,_,_⟩) rfl (fun K hK=>?_) AllReadyH.nil)
    ·refine step_app8 rfl _ _ 27 rfl w.heap.size 3 i0 (.int .i64 0) 1 8 Tryz.underlying27 hi hz0 hz1 hz2 rfl (by decide) (.slice (some ⟨V15,0,none⟩) 0 0) 0 [] rfl q ⟨b,off,none⟩ k cap ((xs.take k).map (Value.int .i64)) rfl (by rw [List.length_map,List.length_take];omega) (news8 ((slice_h8 h hkn).2.below bw)) (one8 _) (by unfold maxLen;omega) (by omega) hsz ?_
     intro v16 U16 q2 gr hob
     replace bw:=bw.grown gr bw.size (fun g hg=>(q.lt g hg).1)
     replace hsz:w.heap.size≤U16.heap.size:=Nat.le_trans hsz gr.size
     refine hK.out _ _ hsz (fun hS16=>?_)
     clear hK q gr hob
     have q:=q2
     clear q2
     try simp only [Act.put,tka,tkb,tkc]
     refine tkr 6 41 (fun K hK=>?_)
     obtain ⟨G,hG⟩:∃ G,G=U16.heap.size:=⟨_,rfl⟩
     have e0:(U16.alloc (.cells #[.int .i64 y] 3)).cell? ⟨G,0,none⟩=some (.int .i64 y):=by subst hG;simp [go_sem]
     have hal:Below U16.heap.size U16 (U16.alloc (.cells #[.int .i64 y] 3)):=by go_grown
     have hap:∀ g,Value.ownBlock v16=some g→g≠G:=fun g hg e=>by have:=(q.lt g hg).2;omega
     replace q:=owns8 q hal
     replace bw:=bel8 bw hal
     replace hsz:w.heap.size≤(U16.alloc (.cells #[.int .i64 y] 3)).heap.size:=Nat.le_trans hsz hal.size
     go_simp
     rw [← hG]
     refine hK.out _ _ hsz (fun hS17=>?_)
     clear hK hal
     clear hG
     generalize (U16.alloc (.cells #[.int .i64 y] 3))=U17 at *
     try simp only [Act.put,tka,tkb,tkc]
     refine tkr 7 42 (fun K hK=>?_)
     refine step_app8 rfl _ _ 27 rfl w.heap.size 3 i0 (.int .i64 0) 1 8 Tryz.underlying27 hi hz0 hz1 hz2 rfl (by decide) v16 (0+k) ([]++(xs.take k).map (Value.int .i64)) rfl q ⟨G,0,none⟩ 1 1 [.int .i64 y] rfl rfl (lone8 e0) (one8 [y]) (by unfold maxLen;omega) (by omega) hsz ?_
     intro v18 U18 q2 gr hob
     replace bw:=bw.grown gr bw.size (fun g hg=>(q.lt g hg).1)
     replace hsz:w.heap.size≤U18.heap.size:=Nat.le_trans hsz gr.size
     refine hK.out _ _ hsz (fun hS18=>?_)
     clear hK q gr hob
     have q:=q2
     clear q2
     clear e0 hap
     try simp only [Act.put,tka,tkb,tkc]
     refine tkr 11 46 (fun K hK=>?_)
     refine step_app8 rfl _ _ 27 rfl w.heap.size 3 i0 (.int .i64 0) 1 8 Tryz.underlying27 hi hz0 hz1 hz2 rfl (by decide) v18 (0+k+1) (([]++(xs.take k).map (Value.int .i64))++[.int .i64 y]) rfl q ⟨b,o2,none⟩ 0 (cap - k) ((xs.drop k).map (Value.int .i64)) rfl (by rw [List.length_map,List.length_drop];omega) (news8 (hD.below bw)) (one8 _) (by unfold maxLen;omega) (by omega) hsz ?_
     intro v19 U19 q2 gr hob
     replace bw:=bw.grown gr bw.size (fun g hg=>(q.lt g hg).1)
     replace hsz:w.heap.size≤U19.heap.size:=Nat.le_trans hsz gr.size
     refine hK.out _ _ hsz (fun hS19=>?_)
     clear hK q gr hob
     have q:=q2
     clear q2
     try simp only [Act.put,tka,tkb,tkc]
     refine tkm 12 4 v19 ?_
     refine wpAnyH_done (by kernel_rfl) ?_ _
     have hQ:=HP.out _ _ q
     obtain ⟨g,c,rfl⟩:=some8 q (by omega)
     clear q rT rD
     go_wp2
     go_ret
     exact ⟨⟨_,rfl,hQ⟩,bw⟩
    ·obtain ⟨G,hG⟩:∃ G,G=U15.heap.size:=⟨_,rfl⟩
     have e0:(U15.alloc (.cells #[.int .i64 y] 3)).cell? ⟨G,0,none⟩=some (.int .i64 y):=by subst hG;simp [go_sem]
     have hal:Below U15.heap.size U15 (U15.alloc (.cells #[.int .i64 y] 3)):=by go_grown
     have hap:∀ g,Value.ownBlock (.slice (some ⟨V15,0,none⟩) 0 0)=some g→g≠G:=fun g hg e=>by have:=(q.lt g hg).2;omega
     replace q:=owns8 q hal
     replace bw:=bel8 bw hal
     replace hsz:w.heap.size≤(U15.alloc (.cells #[.int .i64 y] 3)).heap.size:=Nat.le_trans hsz hal.size
     go_simp
     rw [← hG]
     refine hK.out _ _ hsz (fun hS20=>?_)
     clear hK hal
     clear hG
     generalize (U15.alloc (.cells #[.int .i64 y] 3))=U20 at *
     try simp only [Act.put,tka,tkb,tkc]
     refine tkr 4 39 (fun K hK=>?_)
     have hGl:=World.block_lt_of_cell? _ _ e0
     refine step_app8 rfl _ _ 27 rfl w.heap.size 3 i0 (.int .i64 0) 1 8 Tryz.underlying27 hi hz0 hz1 hz2 rfl (by decide) (.slice (some ⟨V15,0,none⟩) 0 0) 0 [] rfl q ⟨b,off,none⟩ k cap ((xs.take k).map (Value.int .i64)) rfl (by rw [List.length_map,List.length_take];omega) (news8 ((slice_h8 h hkn).2.below bw)) (one8 _) (by unfold maxLen;omega) (by omega) hsz ?_
     intro v21 U21 q2 gr hob
     replace e0:=grown8 gr e0 (fun e=>hap _ e.symm rfl)
     have hap2:∀ g,Value.ownBlock v21=some g→g≠G:=fun g hg e=>by
      rcases hob with hu | hu
      ·exact hap g (hu▸hg) e
      ·rw [hu] at hg
       simp at hg hGl
       omega
     clear hap hGl
     have hap:=hap2
     clear hap2
     replace bw:=bw.grown gr bw.size (fun g hg=>(q.lt g hg).1)
     replace hsz:w.heap.size≤U21.heap.size:=Nat.le_trans hsz gr.size
     refine hK.out _ _ hsz (fun hS21=>?_)
     clear hK q gr hob
     have q:=q2
     clear q2
     try simp only [Act.put,tka,tkb,tkc]
     refine tkr 7 42 (fun K hK=>?_)
     refine step_app8 rfl _ _ 27 rfl w.heap.size 3 i0 (.int .i64 0) 1 8 Tryz.underlying27 hi hz0 hz1 hz2 rfl (by decide) v21 (0+k) ([]++(xs.take k).map (Value.int .i64)) rfl q ⟨G,0,none⟩ 1 1 [.int .i64 y] rfl rfl (lone8 e0) (one8 [y]) (by unfold maxLen;omega) (by omega) hsz ?_
     intro v22 U22 q2 gr hob
     replace bw:=bw.grown gr bw.size (fun g hg=>(q.lt g hg).1)
     replace hsz:w.heap.size≤U22.heap.size:=Nat.le_trans hsz gr.size
     refine hK.out _ _ hsz (fun hS22=>?_)
     clear hK q gr hob
     have q:=q2
     clear q2
     clear e0 hap
     try simp only [Act.put,tka,tkb,tkc]
     refine tkr 11 46 (fun K hK=>?_)
     refine step_app8 rfl _ _ 27 rfl w.heap.size 3 i0 (.int .i64 0) 1 8 Tryz.underlying27 hi hz0 hz1 hz2 rfl (by decide) v22 (0+k+1) (([]++(xs.take k).map (Value.int .i64))++[.int .i64 y]) rfl q ⟨b,o2,none⟩ 0 (cap - k) ((xs.drop k).map (Value.int .i64)) rfl (by rw [List.length_map,List.length_drop];omega) (news8 (hD.below bw)) (one8 _) (by unfold maxLen;omega) (by omega) hsz ?_
     intro v23 U23 q2 gr hob
     replace bw:=bw.grown gr bw.size (fun g hg=>(q.lt g hg).1)
     replace hsz:w.heap.size≤U23.heap.size:=Nat.le_trans hsz gr.size
     refine hK.out _ _ hsz (fun hS23=>?_)
     clear hK q gr hob
     have q:=q2
     clear q2
     try simp only [Act.put,tka,tkb,tkc]
     refine tkm 12 4 v23 ?_
     refine wpAnyH_done (by kernel_rfl) ?_ _
     have hQ:=HP.out _ _ q
     obtain ⟨g,c,rfl⟩:=some8 q (by omega)
     clear q rT rD
     go_wp2
     go_ret
     exact ⟨⟨_,rfl,hQ⟩,bw⟩
   ·obtain ⟨G,hG⟩:∃ G,G=w.heap.size:=⟨_,rfl⟩
    have e0:(w.alloc (.cells #[.int .i64 y] 3)).drew.cell? ⟨G,0,none⟩=some (.int .i64 y):=by subst hG;simp [go_sem]
    have hal:Below w.heap.size w (w.alloc (.cells #[.int .i64 y] 3)).drew:=by go_grown
    replace bw:=bel8 bw hal
    replace hsz:w.heap.size≤(w.alloc (.cells #[.int .i64 y] 3)).drew.heap.size:=Nat.le_trans hsz hal.size
    go_simp
    rw [← hG]
    refine hK.out _ _ hsz (fun hS24=>?_)
    clear hK hal
    clear hG
    generalize (w.alloc (.cells #[.int .i64 y] 3)).drew=U24 at *
    try simp only [Act.put,tka,tkb,tkc]
    refine tkr 0 35 (fun K hK=>?_)
    have q:=(empty8 U24 3 1 w.heap.size hsz)
    obtain ⟨V25,hV⟩:∃ V,V=U24.heap.size:=⟨_,rfl⟩
    have hap:∀ g,(Value.slice (some ⟨U24.heap.size,0,none⟩) 0 0).ownBlock=some g→g≠G:=fun g hg e=>by have hGl:=World.block_lt_of_cell? _ _ e0;simp [Value.ownBlock] at hg;simp at hGl;omega
    have hal:Below U24.heap.size U24 (U24.alloc (.cells #[] 3)):=by go_grown
    replace e0:=cell8 hal e0
    replace bw:=bel8 bw hal
    replace hsz:w.heap.size≤(U24.alloc (.cells #[] 3)).heap.size:=Nat.le_trans hsz hal.size
    go_simp
    rw [← hV]
    refine hK.out _ _ hsz (fun hS25=>?_)
    clear hK hal
    replace q:(U24.alloc (.cells #[] 3)).ownsRow w.heap.size 3 1 (.slice (some ⟨V25,0,none⟩) 0 0) 0 []:=by rw [hV];exact q
    replace hap:∀ g,(Value.slice (some ⟨V25,0,none⟩) 0 0).ownBlock=some g→g≠G:=by rw [hV];exact hap
    clear hV
    generalize (U24.alloc (.cells #[] 3))=U25 at *
    try simp only [Act.put,tka,tkb,tkc]
    refine tkr 4 39 (fun K hK=>?_)
    have hGl:=World.block_lt_of_cell? _ _ e0
    refine step_app8 rfl _ _ 27 rfl w.heap.size 3 i0 (.int .i64 0) 1 8 Tryz.underlying27 hi hz0 hz1 hz2 rfl (by decide) (.slice (some ⟨V25,0,none⟩) 0 0) 0 [] rfl q ⟨b,off,none⟩ k cap ((xs.take k).map (Value.int .i64)) rfl (by rw [List.length_map,List.length_take];omega) (news8 ((slice_h8 h hkn).2.below bw)) (one8 _) (by unfold maxLen;omega) (by omega) hsz ?_
    intro v26 U26 q2 gr hob
    replace e0:=grown8 gr e0 (fun e=>hap _ e.symm rfl)
    have hap2:∀ g,Value.ownBlock v26=some g→g≠G:=fun g hg e=>by
     rcases hob with hu | hu
     ·exact hap g (hu▸hg) e
     ·rw [hu] at hg
      simp at hg hGl
      omega
    clear hap hGl
    have hap:=hap2
    clear hap2
    replace bw:=bw.grown gr bw.size (fun g hg=>(q.lt g hg).1)
    replace hsz:w.heap.size≤U26.heap.size:=Nat.le_trans hsz gr.size
    refine hK.out _ _ hsz (fun hS26=>?_)
    clear hK q gr hob
    have q:=q2
    clear q2
    try simp only [Act.put,tka,tkb,tkc]
    refine tkr 7 42 (fun K hK=>?_)
    refine step_app8 rfl _ _ 27 rfl w.heap.size 3 i0 (.int .i64 0) 1 8 Tryz.underlying27 hi hz0 hz1 hz2 rfl (by decide) v26 (0+k) ([]++(xs.take k).map (Value.int .i64)) rfl q ⟨G,0,none⟩ 1 1 [.int .i64 y] rfl rfl (lone8 e0) (one8 [y]) (by unfold maxLen;omega) (by omega) hsz ?_
    intro v27 U27 q2 gr hob
    replace bw:=bw.grown gr bw.size (fun g hg=>(q.lt g hg).1)
    replace hsz:w.heap.size≤U27.heap.size:=Nat.le_trans hsz gr.size
    refine hK.out _ _ hsz (fun hS27=>?_)
    clear hK q gr hob
    have q:=q2
    clear q2
    clear e0 hap
    try simp only [Act.put,tka,tkb,tkc]
    refine tkr 11 46 (fun K hK=>?_)
    refine step_app8 rfl _ _ 27 rfl w.heap.size 3 i0 (.int .i64 0) 1 8 Tryz.underlying27 hi hz0 hz1 hz2 rfl (by decide) v27 (0+k+1) (([]++(xs.take k).map (Value.int .i64))++[.int .i64 y]) rfl q ⟨b,o2,none⟩ 0 (cap - k) ((xs.drop k).map (Value.int .i64)) rfl (by rw [List.length_map,List.length_drop];omega) (news8 (hD.below bw)) (one8 _) (by unfold maxLen;omega) (by omega) hsz ?_
    intro v28 U28 q2 gr hob
    replace bw:=bw.grown gr bw.size (fun g hg=>(q.lt g hg).1)
    replace hsz:w.heap.size≤U28.heap.size:=Nat.le_trans hsz gr.size
    refine hK.out _ _ hsz (fun hS28=>?_)
    clear hK q gr hob
    have q:=q2
    clear q2
    try simp only [Act.put,tka,tkb,tkc]
    refine tkm 12 4 v28 ?_
    refine wpAnyH_done (by kernel_rfl) ?_ _
    have hQ:=HP.out _ _ q
    obtain ⟨g,c,rfl⟩:=some8 q (by omega)
    clear q rT rD
    go_wp2
    go_ret
    exact ⟨⟨_,rfl,hQ⟩,bw⟩
end Go.Proofs.YtifoggpohlegmaaGreatDoor
