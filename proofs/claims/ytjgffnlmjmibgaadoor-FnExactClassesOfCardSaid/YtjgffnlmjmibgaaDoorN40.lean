/-
  Joined: Num, NumOK, PackList, NumbersPlain.
-/
import Derived.Test.YtjgffnlmjmibgaaDoorN39

namespace Go.Proofs.YtjgffnlmjmibgaaDoor
set_option maxRecDepth 100000
set_option maxHeartbeats 16000000
open Go.RowKit

theorem appendNumber_any (base m:Nat) (v:Value) (xs:List Int) (n:Nat) (w:World) (hn:n≤999999999) (hown:w.ownsRow base 5 1 v m (u8s xs)) (hb:base≤w.heap.size) (hm:m≤1099511627776) :
  Calls Tryd.prog 94 #[v,.int .i64 n] w fun e w'=>∃ v',e=.returned v'∧w'.ownsRow base 5 1 v' (m+(pack n).length) (u8s (xs++pack n))∧Below base w w':=by
 obtain ⟨i0,hi,hz0,hz1,hz2⟩:=info_parts info_u8
 go_enter Tryd.func94,Tryd.ntmps94
 go_wp2
 go_loopw [0,1] (fun sv si wr=>∃ (k:Nat) (ys:List Int),k≤999999999∧si=.int .i64 k∧wr.ownsRow base 5 1 sv (m+ys.length) (u8s (xs++ys))∧Hid (ys++pack k=pack n)∧Below base w wr) (fun _ si _=>(intOf si).toNat)
 case atStart=>exact ⟨n,[],hn,rfl,by simpa using hown,by simp [Hid],Below.refl _ _⟩
 case round =>
  obtain ⟨k,ys,hk,rfl,ho,HY,hbel⟩:=hrel
  have hlen:ys.length≤4:=by
   have h1:=congrArg List.length HY.out
   have h2:=pack_len k
   have h3:=pack_len n
   simp at h1;omega
  have hbw:base≤wr.heap.size:=by have:=hbel.size;omega
  by_cases hlt:128≤k
  ·go_wp2_with (at_builtin;refine wpList_append_own _ rfl _ _ 22 rfl base 5 i0 (.int .u8 0) 1 1 Tryd.underlying22 hi hz0 hz1 hz2 rfl (by decide) _ _ _ rfl (ho.alloc _) ⟨wr.heap.size,0,none⟩ 1 1 [.int .u8 ((k:Int) % 128+128)] rfl rfl (cell_one_new _ _ _) (one_u8 _) ?c3 ?c4 ?c5 ?_)
   case c3=>unfold maxLen;omega
   case c4=>omega
   case c5=>simp;omega
   intro v' w1 hown' hgrow _
   have R:w1.ownsRow base 5 1 v' (m+(ys++[(k:Int) % 128+128]).length) (u8s (xs++(ys++[(k:Int) % 128+128]))):=by simpa [Nat.add_assoc] using hown'
   have hb1:Below base w w1:=(hbel.alloc hbw _).grown hgrow (by simp;omega) (fun j hj=>(ho.lt _ hj).1)
   clear hown' hgrow ho
   go_wp2
   go_roundw
   case rel=>exact ⟨k / 128,ys++[(k:Int) % 128+128],by omega,by go_num,R,by rw [Hid,List.append_assoc,List.singleton_append,← pack_step hlt (by omega)];exact HY.out,hb1⟩
   case measure=>simp [intOf];omega
  ·go_wp2_with (at_builtin;refine wpList_append_own _ rfl _ _ 22 rfl base 5 i0 (.int .u8 0) 1 1 Tryd.underlying22 hi hz0 hz1 hz2 rfl (by decide) _ _ _ rfl (ho.alloc _) ⟨wr.heap.size,0,none⟩ 1 1 [.int .u8 (k:Int)] rfl rfl (cell_one_new _ _ _) (one_u8 _) ?d3 ?d4 ?d5 ?_)
   case d3=>unfold maxLen;omega
   case d4=>omega
   case d5=>simp;omega
   intro v' w1 hown' hgrow _
   have hb1:Below base w w1:=(hbel.alloc hbw _).grown hgrow (by simp;omega) (fun j hj=>(ho.lt _ hj).1)
   have hp:pack n=ys++[(k:Int)]:=by rw [← HY.out,pack_small (by omega)]
   have R:w1.ownsRow base 5 1 v' (m+(pack n).length) (u8s (xs++pack n)):=by rw [hp];simpa [Nat.add_assoc] using hown'
   clear hown' hgrow ho hp HY
   go_wp2
   go_ret
   exact ⟨v',rfl,R,hb1⟩


theorem numberOK_yes (n:Int) (w:World) (h:0≤n∧n≤999999999):Calls Tryd.prog 95 #[.int .i64 n] w fun e w'=>e=.returned (.bool true)∧w=w':=by
 obtain ⟨h1,h2⟩:=h
 go_enter Tryd.func95,Tryd.ntmps95
 go_wp2
 go_ret
 exact ⟨rfl,rfl⟩
theorem numberOK_no (n:Int) (w:World) (h:¬ (0≤n∧n≤999999999)):Calls Tryd.prog 95 #[.int .i64 n] w fun e w'=>e=.returned (.bool false)∧w=w':=by
 by_cases h1:0≤n
 ·have h2:decide (n≤999999999)=false:=by simp;omega
  clear h
  go_enter Tryd.func95,Tryd.ntmps95
  go_wp2
  go_ret
  exact ⟨rfl,rfl⟩
 ·clear h
  go_enter Tryd.func95,Tryd.ntmps95
  go_wp2
  go_ret
  exact ⟨rfl,rfl⟩


def allOk (zs:List Int):Prop:=∀ z ∈ zs,0≤z∧z≤999999999
def packs (zs:List Int):List Int:=zs.flatMap fun z=>pack z.toNat
def packL (zs:List Int):List Int:=pack zs.length++packs zs

theorem packs_len:∀ zs:List Int,(packs zs).length≤5*zs.length
 | []=>by simp [packs]
 | z::zs=>by
  have h:=packs_len zs
  have h2:=(pack_len z.toNat).2
  simp only [packs,List.flatMap_cons,List.length_append,List.length_cons] at h ⊢
  omega
theorem packs_snoc (zs:List Int) (k:Nat) (h:k<zs.length):packs (zs.take (k+1))=packs (zs.take k)++pack (zs.getD k 0).toNat:=by
 have g:zs.getD k 0=zs[k]:=by simp [List.getElem?_eq_getElem h]
 rw [g,List.take_succ_eq_append_getElem h]
 unfold packs
 rw [List.flatMap_append]
 simp only [List.flatMap_cons,List.flatMap_nil,List.append_nil]
theorem getD_mem {zs:List Int} {k:Nat} (h:k<zs.length):zs.getD k 0 ∈ zs:=by
 simp [List.getElem?_eq_getElem h]


theorem nats_of {zs:List Int} (h:∀ z ∈ zs,0≤z∧z≤999999999):∃ ns:List Nat,zs=ns.map (fun z:Nat=>(z:Int))∧∀ n ∈ ns,n≤999999999:=by
 refine ⟨zs.map Int.toNat,?_,?_⟩
 ·rw [List.map_map]
  conv=>lhs;rw [← List.map_id zs]
  apply List.map_congr_left
  intro z hz
  have:=h z hz
  simp only [id,Function.comp]
  omega
 ·intro n hn
  obtain ⟨z,hz,rfl⟩:=List.mem_map.1 hn
  have:=h z hz
  omega
theorem packL_nats (ns:List Nat):packL (ns.map (fun z:Nat=>(z:Int)))=pack ns.length++packsN ns:=by
 unfold packL packs packsN
 rw [List.length_map]
 congr 1
 induction ns with
 | nil=>rfl
 | cons n ns ih=>simp [List.flatMap_cons,ih]
theorem packsN_byte {ns:List Nat} (h:∀ n ∈ ns,n≤999999999):∀ x ∈ packsN ns,0≤x∧x≤255:=by
 intro x hx
 obtain ⟨n,hn,hx⟩:=List.mem_flatMap.1 hx
 exact pack_byte n (by have:=h n hn;omega) x hx
theorem packL_byte {ns:List Nat} (h:∀ n ∈ ns,n≤999999999) (hl:ns.length≤4096):∀ x ∈ pack ns.length++packsN ns,0≤x∧x≤255:=by
 intro x hx
 rcases List.mem_append.1 hx with hx | hx
 ·exact pack_byte _ (by omega) x hx
 ·exact packsN_byte h x hx
theorem listed_pack {ns:List Nat} (h:∀ n ∈ ns,n≤999999999) (hl:ns.length≤4096):Listed (strOfNums (pack ns.length++packsN ns)) ns:=by
 have hb:=bytesAt_str _ (packL_byte h hl)
 have hn:=num_of_bytes (by omega) (bytesAt_left hb)
 refine listed_of hn hl (numsAt_of_bytes h ?_) rfl ?_
 ·simpa using bytesAt_right hb
 ·rw [strOfNums_size,List.length_append]
end Go.Proofs.YtjgffnlmjmibgaaDoor
