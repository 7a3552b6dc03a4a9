/-
  Joined: AstI, RevL.
-/
import Derived.Deep.CutRange
import Derived.Shelf.Slices.Reverse
import Derived.Test.YtifoggpohlegmaaGreatDoorW29

namespace Go.Proofs.YtifoggpohlegmaaGreatDoor
set_option maxRecDepth 100000
set_option maxHeartbeats 16000000
open Go.RowKit
set_option linter.unusedVariables false
set_option linter.unusedSimpArgs false
def CutF (w W:World) (c:Int) (s4 s5:Value):Prop:=∃ X,s4=.pointer (some ⟨X,0,none⟩)∧s5=.int .i64 c∧Below w.heap.size w W
def CutK (w W:World) (cs:Sl × Sl × Sl) (rows:List (List I3)) (F:List (Rec6 V4)) (s4 s5:Value):Prop:=
 ∃ X va vc nb L,s4=.pointer (some ⟨X,0,none⟩)∧s5=.int .i64 0∧Blk W X 106 [.slice va L.length vc,.map (some nb)]∧SpcD W w.heap.size nb (.slice va L.length vc) cs (mvsOf rows F) L L.length∧L.map (·.1)=F∧w.heap.size≤X∧Below w.heap.size w W
theorem SpcD.lower {w:World} {B B' nb d:Nat} {vs:Value} {cs:Sl × Sl × Sl} {M:V4→List I4} {L:List (Rec6 V4 × Value)} (h:SpcD w B nb vs cs M L d) (hB:B'≤B):SpcD w B' nb vs cs M L d:=
 ⟨own_lower h.row hB,h.map,fun i r mv h1 h2=>own_lower (h.mvs i r mv h1 h2) hB,h.nil,Nat.le_trans hB h.low⟩
theorem CutK.mk9 {w W:World} {cs:Sl × Sl × Sl} {rows:List (List I3)} {F:List (Rec6 V4)} {s4 s5 va vs:Value} {X nb B:Nat} {L:List (Rec6 V4 × Value)} (h4:s4=.pointer (some ⟨X,0,none⟩)) (h5:s5=.int .i64 0) (hX:Blk W X 106 [vs,.map (some nb)]) (sp:SpcD W B nb vs cs (mvsOf rows F) L L.length) (hL:L.map (·.1)=F) (hBX:w.heap.size≤X) (hB:w.heap.size≤B) (b:Below w.heap.size w W):CutK w W cs rows F s4 s5:=by
 obtain ⟨va,vn,vc,rfl⟩:=own_slice6 sp.row
 obtain rfl:vn=L.length:=by
  rcases sp.row.2 with ⟨h1,h2⟩ | ⟨gq,cq,cur,h1,_⟩
  ·cases h1;exact h2.symm
  ·cases h1;rfl
 exact ⟨X,va,vc,nb,L,h4,h5,hX,sp.lower hB,hL,hBX,b⟩

def codeF (rows:List (List I3)):Int:=if progOk rows then (if (fullS rows).length≤2000 then 0 else 15) else 1
theorem spaceOf_not (a:Option Addr) (len cap:Nat) (rows:List (List I3)) (s:S4) (w:World) (hC:Codes w a len cap rows) (h:Vmem w s zeroV) (hV:VmShape w) (hc:codeF rows≠0) :
  Calls Tryz.prog 67 #[.agg #[.slice a len cap],s.val] w fun e w'=>e=.returned (.tuple #[.agg #[.slice none 0 0,.map none],.int .i64 (codeF rows)])∧Below w.heap.size w w':=by
 unfold codeF at hc ⊢
 cases hp:progOk rows
 ·exact spaceOf_bad a len cap rows s zeroV w hC h hV (by rw [hp];rfl)
 ·rw [hp] at hc
  by_cases hf:(fullS rows).length≤2000
  ·rw [if_pos rfl,if_pos hf] at hc
   exact absurd rfl hc
  ·rw [if_pos rfl,if_neg hf]
   refine (spaceOf_is a len cap rows s w hC h hV hp).mono fun e w' h=>?_
   rw [if_neg hf] at h
   exact h
theorem spaceOf_yes (a:Option Addr) (len cap:Nat) (rows:List (List I3)) (s:S4) (w:World) (hC:Codes w a len cap rows) (h:Vmem w s zeroV) (hV:VmShape w) (hp:progOk rows=true) (hf:(fullS rows).length≤2000) :
  Calls Tryz.prog 67 #[.agg #[.slice a len cap],s.val] w fun e w'=>SpcGot e w w' a rows (fullS rows):=by
 refine (spaceOf_is a len cap rows s w hC h hV hp).mono fun e w' h=>?_
 rw [if_pos hf] at h
 exact h
theorem code_parts {rows:List (List I3)} (h:codeF rows=0):progOk rows=true∧(fullS rows).length≤2000:=by
 unfold codeF at h
 cases hp:progOk rows
 ·rw [hp] at h;simp at h
 ·rw [hp] at h
  by_cases hf:(fullS rows).length≤2000
  ·exact ⟨rfl,hf⟩
  ·rw [if_pos rfl,if_neg hf] at h
   simp at h
theorem rcC_one (cs:Sl × Sl × Sl) (r:Rec6 V4) {mv:Value} (h:mv.oneCell'=true):(rcC cs r mv).all (·.oneCell')=true:=by
 unfold rcC
 rw [List.all_cons,List.all_append,mach_one]
 simp only [List.all_cons,List.all_nil,h,Bool.and_true,Bool.and_self]
 rfl
theorem SpcD.mvone {w:World} {B nb:Nat} {vs:Value} {cs:Sl × Sl × Sl} {M:V4→List I4} {L:List (Rec6 V4 × Value)} (h:SpcD w B nb vs cs M L L.length) {j:Nat} {r:Rec6 V4} {mv:Value} (hr:L[j]?=some (r,mv)):mv.oneCell'=true:=by
 obtain ⟨a,k,c,rfl⟩:=own_slice6 (h.mvs j r mv (List.getElem?_eq_some_iff.1 hr).1 hr)
 rfl

open Go.RowKit Go.Shelf

def rev_ren:Go.Shelf.Ren:=⟨fun | 112=>138 | x=>x,fun | 0=>0 | 3=>3 | 4=>4 | 28=>27 | x=>x,fun x=>x⟩
theorem revInt:Lays.n112 Tryz.prog rev_ren:={
 mixed:=by kernel_rfl
 f112:=Tryz.func138.trans (congrArg some (by kernel_rfl))
 t0:=Tryz.underlying0
 a0:=Tryz.isAgg0
 z0:=Tryz.sizeOf0
 v0:=Tryz.zeroValue0
 t3:=Tryz.underlying3
 a3:=Tryz.isAgg3
 z3:=Tryz.sizeOf3
 v3:=Tryz.zeroValue3
 t4:=Tryz.underlying4
 a4:=Tryz.isAgg4
 z4:=Tryz.sizeOf4
 v4:=Tryz.zeroValue4
 t28:=Tryz.underlying27
 a28:=Tryz.isAgg27
 z28:=Tryz.sizeOf27
 v28:=Tryz.zeroValue27 }

open Go.Sort in
theorem rev_owns {w:World} {B g n cap m:Nat} {xs ys:List Int} (h:OwnI w B (some ⟨g,0,none⟩,n,cap) xs) (hy:ys.length=n) :
  OwnI (putRow (Value.int .i64) (Sort.ahead w m) g 0 ys.toArray) B (some ⟨g,0,none⟩,n,cap) ys∧w.grownBy (putRow (Value.int .i64) (Sort.ahead w m) g 0 ys.toArray) (some g):=by
 rcases h.2 with ⟨hv,_⟩ | ⟨g',cap',cur,hv,hB,hg,hn,hc,hsz,ht⟩
 ·cases hv
 cases hv
 have hgl:g<w.heap.size:=(Array.getElem?_eq_some_iff.1 hg).1
 refine ⟨⟨by simp [hy],.inr ⟨g,cap,putCells (Value.int .i64) 0 ys.toArray cur,rfl,hB,?_,hn,hc,?_,?_⟩⟩,⟨rfl,rfl,rfl,?_,?_⟩⟩
 ·show ((Sort.ahead w m).heap.modify g _)[g]?=_
  rw [Array.getElem?_modify]
  simp [Sort.ahead,hg,onCells]
 ·simpa [putCells] using hsz
 ·apply List.ext_getElem?
  intro t
  by_cases h3:t<n
  ·rw [List.getElem?_take_of_lt (by simpa using h3)]
   have hcz:t<cur.size:=by rw [hsz];simp only at hn ⊢;omega
   simp only [putCells,Array.getElem?_toList,Array.getElem?_mapIdx,Array.getElem?_eq_getElem hcz,Option.map_some]
   rw [if_pos ⟨Nat.zero_le _,by simp;omega⟩,List.getElem?_map,List.getElem?_eq_getElem (show t<ys.length by omega)]
   simp [getElem!_pos,show t<ys.length by omega]
  ·rw [List.getElem?_eq_none (by rw [List.length_take];simp only;omega),List.getElem?_eq_none (by simp;omega)]
 ·show w.heap.size≤((Sort.ahead w m).heap.modify g _).size
  simp [Sort.ahead]
 ·intro k hk hne
  show ((Sort.ahead w m).heap.modify g _)[k]?=_
  rw [Array.getElem?_modify]
  have:g≠k:=fun e=>hne (by rw [e])
  simp [Sort.ahead,this]
theorem rev_is {w:World} {B g cap:Nat} {zs:List Int} (h:OwnI w B (some ⟨g,0,none⟩,zs.length,cap) zs) (hl:zs.length≤1000000) :
  Calls Tryz.prog 138 #[.slice (some ⟨g,0,none⟩) zs.length cap] w fun e w'=>e=.returned (.tuple #[])∧OwnI w' B (some ⟨g,0,none⟩,zs.length,cap) zs.reverse∧w.grownBy w' (some g):=by
 have hH:Go.Sort.Holds (Value.int .i64) w g 0 zs.toArray:=by
  intro j hj
  have hj2:j<zs.length:=by simpa using hj
  rw [Nat.zero_add]
  refine ⟨?_,h.frz9 j⟩
  rw [h.at9 hj2]
  simp [List.getD,getElem!_pos,hj2]
 refine (Any.slices_Reverse_int revInt g 0 cap zs w hH (by omega)).mono ?_
 rintro e w' ⟨rfl,n,rfl⟩
 exact ⟨rfl,rev_owns (ys:=zs.reverse) h (by simp)⟩
theorem rev_none (a:Option Addr) (cap:Nat) (w:World) :
  Calls Tryz.prog 138 #[.slice a 0 cap] w fun e w'=>e=.returned (.tuple #[])∧w=w':=by
 refine (Any.slices_Reverse_int_empty revInt a cap w).mono ?_
 rintro e w' ⟨rfl,rfl⟩
 exact ⟨rfl,rfl⟩
end Go.Proofs.YtifoggpohlegmaaGreatDoor
