/-
  Joined: AstI, CntI.
-/
import Derived.Test.YtifoggpohlegmaaGreatDoorS37
import Derived.Test.YtifoggpohlegmaaGreatDoorS38

namespace Go.Proofs.YtifoggpohlegmaaGreatDoor
set_option maxRecDepth 100000
set_option maxHeartbeats 16000000
open Go.RowKit
set_option linter.unusedVariables false
set_option linter.unusedSimpArgs false
def CutF (w W:World) (c:Int) (s4 s5:Value):Prop:=∃ X,s4=.pointer (some ⟨X,0,none⟩)∧s5=.int .i64 c∧Below w.heap.size w W
def CutK (w W:World) (cs:Sl × Sl × Sl) (rows:List (List I3)) (F:List (Rec6 V4)) (s4 s5:Value):Prop:=
 ∃ X va vc nb L,s4=.pointer (some ⟨X,0,none⟩)∧s5=.int .i64 0∧Blk W X 106 [.slice va L.length vc,.map (some nb)]∧SpcD W w.heap.size nb (.slice va L.length vc) cs (mvsOf rows F) L L.length∧L.map (·.1)=F∧w.heap.size≤X∧Below w.heap.size w W
theorem SpcD.lower {w:World} {B B' nb d:Nat} {vs:Value} {cs:Sl × Sl × Sl} {M:V4→List I4} {L:List (Rec6 V4 × Value)} (h:SpcD w B nb vs cs M L d) (hB:B'≤B):SpcD w B' nb vs cs M L d:=
 ⟨own_lower h.row hB,h.map,fun i r mv h1 h2=>own_lower (h.mvs i r mv h1 h2) hB,h.nil,Nat.le_trans hB h.low⟩
theorem CutK.mk9 {w W:World} {cs:Sl × Sl × Sl} {rows:List (List I3)} {F:List (Rec6 V4)} {s4 s5 va vs:Value} {X nb B:Nat} {L:List (Rec6 V4 × Value)} (h4:s4=.pointer (some ⟨X,0,none⟩)) (h5:s5=.int .i64 0) (hX:Blk W X 106 [vs,.map (some nb)]) (sp:SpcD W B nb vs cs (mvsOf rows F) L L.length) (hL:L.map (·.1)=F) (hBX:w.heap.size≤X) (hB:w.heap.size≤B) (b:Below w.heap.size w W):CutK w W cs rows F s4 s5:=by
 obtain ⟨va,vn,vc,rfl⟩:=own_slice6 sp.row
 obtain rfl:vn=L.length:=by
  rcases sp.row.2 with ⟨h1,h2⟩ | ⟨gq,cq,cur,h1,_⟩
  ·cases h1;exact h2.symm
  ·cases h1;rfl
 exact ⟨X,va,vc,nb,L,h4,h5,hX,sp.lower hB,hL,hBX,b⟩

def codeF (rows:List (List I3)):Int:=if progOk rows then (if (fullS rows).length≤2000 then 0 else 15) else 1
theorem spaceOf_not (a:Option Addr) (len cap:Nat) (rows:List (List I3)) (s:S4) (w:World) (hC:Codes w a len cap rows) (h:Vmem w s zeroV) (hV:VmShape w) (hc:codeF rows≠0) :
  Calls Tryz.prog 67 #[.agg #[.slice a len cap],s.val] w fun e w'=>e=.returned (.tuple #[.agg #[.slice none 0 0,.map none],.int .i64 (codeF rows)])∧Below w.heap.size w w':=by
 unfold codeF at hc ⊢
 cases hp:progOk rows
 ·exact spaceOf_bad a len cap rows s zeroV w hC h hV (by rw [hp];rfl)
 ·rw [hp] at hc
  by_cases hf:(fullS rows).length≤2000
  ·rw [if_pos rfl,if_pos hf] at hc
   exact absurd rfl hc
  ·rw [if_pos rfl,if_neg hf]
   refine (spaceOf_is a len cap rows s w hC h hV hp).mono fun e w' h=>?_
   rw [if_neg hf] at h
   exact h
theorem spaceOf_yes (a:Option Addr) (len cap:Nat) (rows:List (List I3)) (s:S4) (w:World) (hC:Codes w a len cap rows) (h:Vmem w s zeroV) (hV:VmShape w) (hp:progOk rows=true) (hf:(fullS rows).length≤2000) :
  Calls Tryz.prog 67 #[.agg #[.slice a len cap],s.val] w fun e w'=>SpcGot e w w' a rows (fullS rows):=by
 refine (spaceOf_is a len cap rows s w hC h hV hp).mono fun e w' h=>?_
 rw [if_pos hf] at h
 exact h
theorem code_parts {rows:List (List I3)} (h:codeF rows=0):progOk rows=true∧(fullS rows).length≤2000:=by
 unfold codeF at h
 cases hp:progOk rows
 ·rw [hp] at h;simp at h
 ·rw [hp] at h
  by_cases hf:(fullS rows).length≤2000
  ·exact ⟨rfl,hf⟩
  ·rw [if_pos rfl,if_neg hf] at h
   simp at h
theorem rcC_one (cs:Sl × Sl × Sl) (r:Rec6 V4) {mv:Value} (h:mv.oneCell'=true):(rcC cs r mv).all (·.oneCell')=true:=by
 unfold rcC
 rw [List.all_cons,List.all_append,mach_one]
 simp only [List.all_cons,List.all_nil,h,Bool.and_true,Bool.and_self]
 rfl
theorem SpcD.mvone {w:World} {B nb:Nat} {vs:Value} {cs:Sl × Sl × Sl} {M:V4→List I4} {L:List (Rec6 V4 × Value)} (h:SpcD w B nb vs cs M L L.length) {j:Nat} {r:Rec6 V4} {mv:Value} (hr:L[j]?=some (r,mv)):mv.oneCell'=true:=by
 obtain ⟨a,k,c,rfl⟩:=own_slice6 (h.mvs j r mv (List.getElem?_eq_some_iff.1 hr).1 hr)
 rfl
theorem SpcD.strgrown {W W':World} {B B' nb d n e s:Nat} {vs v:Value} {cs:Sl × Sl × Sl} {M:V4→List I4} {L:List (Rec6 V4 × Value)} {xs:List Value} (h:SpcD W B nb vs cs M L d) (ho:W.ownsRow B' e s v n xs) (gr:W.grownBy W' v.ownBlock) (h1:111≠e:=by decide) (h2:192≠e:=by decide):SpcD W' B nb vs cs M L d:=by
 obtain ⟨D,hm,hn⟩:=h.map
 exact ⟨h.row.kept gr (Ap3.types h.row ho h1).or,⟨D,hm.kept gr (fun e=>map_own hm ho e.symm),hn⟩,fun i r mv' hi hr=>(h.mvs i r mv' hi hr).kept gr (Ap3.types (h.mvs i r mv' hi hr) ho h2).or,h.nil,h.low⟩


def CtOk (rows:List (List I3)) (L:List (Rec6 V4 × Value)) (cts:List Int):Prop:=cts.length=L.length∧∀ i r mv,L[i]?=some (r,mv)→cts.getD i 0=0∨cts.getD i 0=(cntM rows r.1:Int)
theorem CtOk.put {rows:List (List I3)} {L:List (Rec6 V4 × Value)} {cts:List Int} (h:CtOk rows L cts) {at9:Nat} {r:Rec6 V4} {mv:Value} (hr:L[at9]?=some (r,mv)):CtOk rows L (cts.set at9 (cntM rows r.1:Int)):=by
 have hl:at9<L.length:=(List.getElem?_eq_some_iff.1 hr).1
 refine ⟨by simp [h.1],fun i r' mv' hi=>?_⟩
 by_cases e:at9=i
 ·subst e
  rw [hr] at hi
  cases hi
  right
  simp [List.getD,h.1,hl]
 ·have:=h.2 i r' mv' hi
  simp only [List.getD,List.getElem?_set_ne e] at this ⊢
  exact this
def RunsGot (e:Ending) (w w':World) (rows:List (List I3)) (L:List (Rec6 V4 × Value)) (Bc g c:Nat) (m:V4):Prop:=
 ∃ cts',e=.returned (.int .i64 (cntM rows m:Int))∧OwnI w' Bc (some ⟨g,0,none⟩,L.length,c) cts'∧CtOk rows L cts'∧w.grownBy w' (some g)
def RunsC (rows:List (List I3)) (L:List (Rec6 V4 × Value)) (X nb vc B Bc g c:Nat) (va:Option Addr) (cs:Sl × Sl × Sl) (at9:Nat) (m:V4):Prop:=∀ (w:World) (cts:List Int),SpcD w B nb (.slice va L.length vc) cs (mvsOf rows (L.map (·.1))) L L.length→Blk w X 106 [.slice va L.length vc,.map (some nb)]→OwnI w Bc (some ⟨g,0,none⟩,L.length,c) cts→CtOk rows L cts →
 Calls Tryz.prog 97 #[.pointer (some ⟨X,0,none⟩),.int .i64 at9,.slice (some ⟨g,0,none⟩) L.length c] w fun e w'=>RunsGot e w w' rows L Bc g c m
def sumC (rows:List (List I3)) (m:V4) (j:Nat):Nat:=((enabM rows m 3).take j).foldl (fun s k=>capN (s+cntM rows (goM rows m k).1)) 0
theorem sumC_zero (rows:List (List I3)) (m:V4):sumC rows m 0=0:=by simp [sumC]
theorem sumC_succ {rows:List (List I3)} {m:V4} {j:Nat} {k:Int} (h:(enabM rows m 3)[j]?=some k):sumC rows m (j+1)=capN (sumC rows m j+cntM rows (goM rows m k).1):=by
 unfold sumC
 rw [List.take_add_one,h]
 simp [List.foldl_append]
theorem sumC_all {rows:List (List I3)} (hp:progOk rows=true) {m:V4} (hs:shapeOk m=true) (hne:enabM rows m 3≠[]) {j:Nat} (hj:(enabM rows m 3).length≤j):sumC rows m j=cntM rows m:=by
 unfold sumC
 rw [List.take_of_length_le hj,cap_fold _ _ _ (by decide),cnt_eq hp hs,if_neg hne,Nat.zero_add]
theorem sumC_le (rows:List (List I3)) (m:V4) (j:Nat):sumC rows m j≤1000000:=by
 cases j with
 | zero=>rw [sumC_zero];omega
 | succ j =>
  cases h:(enabM rows m 3)[j]? with
  | some k=>rw [sumC_succ h];exact capN_le _
  | none =>
   have e:sumC rows m (j+1)=sumC rows m j:=by unfold sumC;rw [List.take_add_one,h];simp
   rw [e]
   exact sumC_le rows m j
theorem move_at {rows:List (List I3)} {F:List (Rec6 V4)} {m:V4} {j:Nat} {k:Int} (h:(enabM rows m 3)[j]?=some k):(mvsOf rows F m)[j]?=some (mvOf rows F m k):=by
 unfold mvsOf
 rw [List.getElem?_map,h]
 rfl
theorem range_move {w:World} {B G cap:Nat} {xs:List I4} (h:w.ownsRow B 192 4 (.slice (some ⟨G,0,none⟩) xs.length cap) xs.length (flat4 xs)) {j:Nat} {x:I4} (hx:xs[j]?=some x):w.rangeAt G (j*4) [.int .i64 x.1,.int .i64 x.2.1,.int .i64 x.2.2.1,.int .i64 x.2.2.2]:=by
 have hl:j<xs.length:=(List.getElem?_eq_some_iff.1 hx).1
 have hg:xs.getD j (0,0,0,0)=x:=by simp [List.getD,hx]
 obtain ⟨f0,f1,f2,f3⟩:=flat4_at xs j hl
 rw [hg] at f0 f1 f2 f3
 intro q v hq
 have hq4:q<4:=by have:=(List.getElem?_eq_some_iff.1 hq).1;simpa using this
 rw [h.cellAt (j*4+q) (by omega)]
 match q,hq4 with
 | 0,_=>simp at hq;subst hq;exact f0
 | 1,_=>simp at hq;subst hq;exact f1
 | 2,_=>simp at hq;subst hq;exact f2
 | 3,_=>simp at hq;subst hq;exact f3
theorem SpcD.mvrow {w:World} {B nb d:Nat} {vs:Value} {cs:Sl × Sl × Sl} {M:V4→List I4} {L:List (Rec6 V4 × Value)} (h:SpcD w B nb vs cs M L d) {i:Nat} {r:Rec6 V4} {mv:Value} (hi:i<d) (hr:L[i]?=some (r,mv)):∃ ma mc,mv=.slice ma (M r.1).length mc:=by
 rcases (h.mvs i r mv hi hr).2 with ⟨h1,h2⟩ | ⟨gq,cq,cur,h1,_⟩
 ·exact ⟨none,0,by rw [h1,h2]⟩
 ·exact ⟨_,_,h1⟩
theorem cnt_int {a b s:Nat} (ha:a≤1000000) (hb:b≤1000000) (hs:s=capN (a+b)):min (wrap64 ((a:Int)+(b:Int))) 1000000=(s:Int):=by
 rw [hs,capN_eq]
 unfold wrap64
 omega

theorem runs_step (rows:List (List I3)) (L:List (Rec6 V4 × Value)) (X nb vc B Bc g c:Nat) (va:Option Addr) (cs:Sl × Sl × Sl) (hp:progOk rows=true) (hsh:Shaped (L.map (·.1))) (hcl:∀ r ∈ L.map (·.1),∀ t ∈ nxM rows r.1,t.2 ∈ (L.map (·.1)).map (·.1)) (hl:L.length≤2000) {at9:Nat} {r:Rec6 V4} {mv:Value} (hr:L[at9]?=some (r,mv))
  (ih:∀ at' r' mv',L[at']?=some (r',mv')→leftN rows r'.1<leftN rows r.1→RunsC rows L X nb vc B Bc g c va cs at' r'.1):RunsC rows L X nb vc B Bc g c va cs at9 r.1:=by
 intro w cts sp bx ho hct
 have hla:at9<L.length:=(List.getElem?_eq_some_iff.1 hr).1
 have hrm:r ∈ L.map (·.1):=List.mem_map.2 ⟨_,List.mem_of_getElem? hr,rfl⟩
 have hs:=hsh r hrm
 obtain ⟨g1,c1,e1,hg1,hrg⟩:=sp.at9 hr
 cases e1
 obtain ⟨ma,mc,rfl⟩:=sp.mvrow hla hr
 have cX0:w.cell? ⟨X,0,none⟩=some (.slice (some ⟨g1,0,none⟩) L.length vc):=by simpa using bx.cell 0
 have cM:=hrg 21 _ rfl
 have hlt:(at9:Int)<(L.length:Int):=by omega
 have ha0:(0:Int)≤(at9:Int):=by omega
 have hml:(mvsOf rows (L.map (·.1)) r.1).length=(enabM rows r.1 3).length:=by simp [mvsOf]
 have hen:=enabM_len rows r.1 3
 by_cases hne:enabM rows r.1 3=[]
 ·have h0:(mvsOf rows (L.map (·.1)) r.1).length=0:=by rw [hml,hne];rfl
  have hc1:cntM rows r.1=1:=by rw [cnt_eq hp hs,if_pos hne]
  have HG:Hid (RunsGot (.returned (.int .i64 1)) w w rows L Bc g c r.1):=⟨cts,by rw [hc1];rfl,ho,hct,World.grownBy.refl _ _⟩
  rw [h0] at cM
  clear hc1 hne hml hrg ih hcl hsh hct h0
  go_enter Tryz.func97,Tryz.ntmps97
  go_wp2
  go_ret
  exact HG.out
 ·have hn1:0<(enabM rows r.1 3).length:=List.length_pos_iff.2 hne
  have mvr:=sp.mvs at9 r _ hla hr
  rw [hml] at cM mvr
  have HC:Hid (cts.getD at9 0=0∨cts.getD at9 0=(cntM rows r.1:Int)):=hct.2 at9 r _ hr
  have hcb:=cnt_bounds hp (leftN rows r.1) r.1 hs (Nat.le_refl _)
  have cC:=ho.at9 hla
  obtain ⟨n,hn⟩:∃ n,n=(enabM rows r.1 3).length:=⟨_,rfl⟩
  rw [← hn] at cM mvr hn1 hen
  have HN:Hid (n=(enabM rows r.1 3).length):=hn
  have hnz:((n:Int) == 0)=false:=beq_false_of_ne (by omega)
  have hnz2:decide ((n:Int)=0)=false:=decide_eq_false (by omega)
  obtain ⟨G,mc',e2,_⟩:=own_some6 mvr hn1
  cases e2
  clear hn hml hrg
  by_cases hcz:cts.getD at9 0=0
  ·rw [hcz] at cC
   have HPut:=hct.put hr
   have hmr:∀ j k,(enabM rows r.1 3)[j]?=some k→w.rangeAt G (j*4) [.int .i64 (goM rows r.1 k).2,.int .i64 k,.int .i64 (r.1.1.getD k.toNat 0),.int .i64 (ixS (L.map (·.1)) (goM rows r.1 k).1:Int)]:=by
    have hmv2:w.ownsRow B 192 4 (.slice (some ⟨G,0,none⟩) (mvsOf rows (L.map (·.1)) r.1).length mc) (mvsOf rows (L.map (·.1)) r.1).length (flat4 (mvsOf rows (L.map (·.1)) r.1)):=by
     have e3:(mvsOf rows (L.map (·.1)) r.1).length=n:=by rw [HN.out];simp [mvsOf]
     rw [e3]
     exact mvr
    exact fun j k h=>range_move hmv2 (move_at h)
   have HGG:Hid (G≠g):=fun e=>(Ap3.types mvr ho (by decide)) G rfl (by rw [e];rfl)
   have st:OwnI w Bc (some ⟨g,0,none⟩,L.length,c) cts∧CtOk rows L cts∧w.grownBy w (some g):=⟨ho,hct,World.grownBy.refl _ _⟩
   have hsz0:=sumC_zero rows r.1
   go_enter Tryz.func97,Tryz.ntmps97
   go_wp2_with fail
   go_loopw [8,29] (fun s8 s29 wr=>∃ (j:Nat) (cts':List Int),s29=.int .i64 j∧j≤n∧s8=.int .i64 (sumC rows r.1 j:Int)∧OwnI wr Bc (some ⟨g,0,none⟩,L.length,c) cts'∧CtOk rows L cts'∧w.grownBy wr (some g)) (fun _ s29 _=>n - (intOf s29).toNat)
   case atStart=>exact ⟨0,cts,rfl,Nat.zero_le _,by rw [hsz0];rfl,st⟩
   case round =>
    clear st hsz0 cC hcz
    obtain ⟨j,cts',rfl,hjn,rfl,ho',hct',gr⟩:=hrel
    by_cases hlt2:j<n
    ·have hkj:(enabM rows r.1 3)[j]?=some ((enabM rows r.1 3).getD j 0):=by rw [List.getD,List.getElem?_eq_getElem (by rw [← HN.out];exact hlt2)];rfl
     generalize (enabM rows r.1 3).getD j 0=k at hkj
     have hz:=enab_halt (List.mem_of_getElem? hkj)
     have hx:=goM_shape hp hs hz
     have hlf:=left_step hp hs hz
     have hnm:(goM rows r.1 k).1 ∈ (L.map (·.1)).map (·.1):=hcl r hrm _ (List.mem_map.2 ⟨k,List.mem_of_getElem? hkj,rfl⟩)
     obtain ⟨r',hr',he'⟩:=ixS_get hnm
     obtain ⟨mv',hL'⟩:∃ mv',L[ixS (L.map (·.1)) (goM rows r.1 k).1]?=some (r',mv'):=by
      rw [List.getElem?_map] at hr'
      obtain ⟨y,hy,rfl⟩:=Option.map_eq_some_iff.1 hr'
      exact ⟨y.2,by rw [hy]⟩
     have kR:=ih _ r' mv' hL' (by rw [he'];omega)
     rw [he'] at kR
     have hsu:=sumC_succ hkj
     have hcb2:=cnt_bounds hp _ _ hx (Nat.le_refl _)
     have hsl:=sumC_le rows r.1 j
     have hsl2:=sumC_le rows r.1 (j+1)
     have hmid:=hmr j k hkj
     have hrw:wr.rangeAt G (j*4) [.int .i64 (goM rows r.1 k).2,.int .i64 k,.int .i64 (r.1.1.getD k.toNat 0),.int .i64 (ixS (L.map (·.1)) (goM rows r.1 k).1:Int)]:=fun q v hq=>by
      have h1:=hmid q v hq
      exact cell_grownB gr h1 (fun e=>HGG.out (by cases e;rfl))
     generalize ixS (L.map (·.1)) (goM rows r.1 k).1=ix at *
     have hcn:=hcb2.2
     generalize (goM rows r.1 k).2=f at *
     generalize r.1.1.getD k.toNat 0=pc at *
     have HSU:Hid (min (wrap64 ((sumC rows r.1 j:Int)+(cntM rows (goM rows r.1 k).1:Int))) 1000000=(sumC rows r.1 (j+1):Int)):=cnt_int hsl hcn hsu
     have hlt3:(j:Int)<(n:Int):=by omega
     have hj0:(0:Int)≤(j:Int):=by omega
     clear hsu hkj hz hx hlf hnm hr' he' hL' hmid hmr
     have pN:=Blk.new wr 192 [.int .i64 0,.int .i64 0,.int .i64 0,.int .i64 0]
     have hbN:Below wr.heap.size wr (wr.alloc (.cells #[.int .i64 0,.int .i64 0,.int .i64 0,.int .i64 0] 192)):=by go_grown
     go_wp2_with (first | refine wpList_load_mid rfl 192 _ rfl G (j*4) rfl [.int .i64 f,.int .i64 k,.int .i64 pc,.int .i64 (ix:Int)] _ hrw Tryz.underlying192 rfl (by kernel_rfl) ?_ | refine wpList_store_blk rfl 192 _ _ rfl wr.heap.size [.int .i64 f,.int .i64 k,.int .i64 pc,.int .i64 (ix:Int)] rfl rfl pN (by kernel_rfl) rfl rfl ?_)
     intro w3 p3 g3
     have b3:Below wr.heap.size wr w3:=hbN.grown g3 hbN.size (fun q e=>by cases e;exact Nat.le_refl _)
     have cE:w3.cell? ⟨wr.heap.size,3,none⟩=some (.int .i64 (ix:Int)):=by simpa using p3.out.cell 3
     have gr3:w.grownBy w3 (some g):=grown_tr gr (grown_new b3)
     have ho3:=ho'.below b3
     have sp3:=sp.strgrown ho gr3 (by decide) (by decide)
     have bx3:=bx.kept gr3 (own_ne_blk9 ho bx (by decide))
     have kRx:=kR w3 cts' sp3 bx3 ho3 hct'
     clear p3 g3 pN hbN b3 hrw kR gr ho' sp3 bx3 ho3
     generalize wr.heap.size=E at *
     go_wp2_with fail
     refine kRx.mono ?_
     rintro e w4 ⟨cts4,rfl,ho4,hct4,g4⟩
     have gr4:=grown_tr gr3 g4
     clear kRx gr3 g4 cE
     have st9:∃ (j9:Nat) (cts':List Int),(Value.int .i64 ((j:Int)+1))=.int .i64 (j9:Int)∧j9≤n∧(Value.int .i64 (min (wrap64 ((sumC rows r.1 j:Int)+(cntM rows (goM rows r.1 k).1:Int))) 1000000))=.int .i64 (sumC rows r.1 j9:Int)∧OwnI w4 Bc (some ⟨g,0,none⟩,L.length,c) cts'∧CtOk rows L cts'∧w.grownBy w4 (some g):=⟨j+1,cts4,by go_num,by omega,by rw [HSU.out],ho4,hct4,gr4⟩
     clear ho4 hct4 gr4 HSU hcb hcb2 hsl hsl2 hcn HPut HC
     go_wp2
     exact ⟨st9,by simp [intOf];omega⟩
    ·have hjn2:j=n:=by omega
     have hlt3:¬ (j:Int)<(n:Int):=by omega
     have hsa:sumC rows r.1 j=cntM rows r.1:=sumC_all hp hs hne (by rw [← HN.out];omega)
     rw [hsa]
     have cC:=ho'.at9 hla
     have fC:=ho'.frz9 at9
     have ho9:=ho'.set9 at9 (cntM rows r.1:Int)
     have gr9:=grown_tr gr (grown_cell wr g at9 (.int .i64 (cntM rows r.1:Int)))
     have cD:=ho9.at9 hla
     have hct9:=hct'.put hr
     have e9:(cts'.set at9 (cntM rows r.1:Int)).getD at9 0=(cntM rows r.1:Int):=by simp [List.getD,hct'.1,hla]
     rw [e9] at cD
     have HG:Hid (RunsGot (.returned (.int .i64 (cntM rows r.1:Int))) w (wr.setCell ⟨g,at9,none⟩ (.int .i64 (cntM rows r.1:Int))) rows L Bc g c r.1):=⟨_,rfl,ho9,hct9,gr9⟩
     generalize cts'.getD at9 0=old at cC
     generalize cntM rows r.1=cn at *
     clear ho' ho9 gr9 hct9 e9 hsa hjn2 gr hct' hmr ih hcl hsh HPut HC hcb
     go_wp2
     go_ret
     exact HG.out
  ·have hcv:cts.getD at9 0=(cntM rows r.1:Int):=HC.out.resolve_left hcz
   rw [hcv] at cC hcz
   have HG:Hid (RunsGot (.returned (.int .i64 (cntM rows r.1:Int))) w w rows L Bc g c r.1):=⟨cts,rfl,ho,hct,World.grownBy.refl _ _⟩
   have hc1:((cntM rows r.1:Int) == 0)=false:=beq_false_of_ne hcz
   have hc2:decide ((cntM rows r.1:Int)=0)=false:=decide_eq_false hcz
   generalize cntM rows r.1=cn at *
   clear HC hcz hcv hct ih hcl hsh mvr
   go_enter Tryz.func97,Tryz.ntmps97
   go_wp2
   go_ret
   exact HG.out
end Go.Proofs.YtifoggpohlegmaaGreatDoor
