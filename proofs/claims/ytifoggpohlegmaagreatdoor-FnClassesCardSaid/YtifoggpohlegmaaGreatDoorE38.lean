/-
  Joined: AstI, CntI, RbgI.
-/
import Derived.Deep.CutRange
import Derived.Test.YtifoggpohlegmaaGreatDoorE35
import Derived.Test.YtifoggpohlegmaaGreatDoorE36

namespace Go.Proofs.YtifoggpohlegmaaGreatDoor
set_option maxRecDepth 100000
set_option maxHeartbeats 16000000
open Go.RowKit
set_option linter.unusedVariables false
set_option linter.unusedSimpArgs false
def L9 (w W:World) (cs:Sl × Sl × Sl) (rows:List (List I3)) (F:List (Zr V4)) (s4 s5:Value):Prop:=
 ∃ X va vc nb L,s4=.pointer (some ⟨X,0,none⟩)∧s5=.int .i64 0∧Blk W X 106 [.slice va L.length vc,.map (some nb)]∧YY W w.heap.size nb (.slice va L.length vc) cs (Yp rows F) L L.length∧L.map (·.1)=F∧w.heap.size≤X∧Below w.heap.size w W
theorem YY.lower {w:World} {B B' nb d:Nat} {vs:Value} {cs:Sl × Sl × Sl} {M:V4→List I4} {L:List (Zr V4 × Value)} (h:YY w B nb vs cs M L d) (hB:B'≤B):YY w B' nb vs cs M L d:=
 ⟨XJ h.row hB,h.map,fun i r mv h1 h2=>XJ (h.mvs i r mv h1 h2) hB,h.nil,Nat.le_trans hB h.low⟩
theorem L9.mk9 {w W:World} {cs:Sl × Sl × Sl} {rows:List (List I3)} {F:List (Zr V4)} {s4 s5 va vs:Value} {X nb B:Nat} {L:List (Zr V4 × Value)} (h4:s4=.pointer (some ⟨X,0,none⟩)) (h5:s5=.int .i64 0) (hX:Blk W X 106 [vs,.map (some nb)]) (sp:YY W B nb vs cs (Yp rows F) L L.length) (hL:L.map (·.1)=F) (hBX:w.heap.size≤X) (hB:w.heap.size≤B) (b:Below w.heap.size w W):L9 w W cs rows F s4 s5:=by
 obtain ⟨va,vn,vc,rfl⟩:=Z0 sp.row
 obtain rfl:vn=L.length:=by
  rcases sp.row.2 with ⟨h1,h2⟩ | ⟨gq,cq,cur,h1,_⟩
  ·cases h1;exact h2.symm
  cases h1;rfl
 exact ⟨X,va,vc,nb,L,h4,h5,hX,sp.lower hB,hL,hBX,b⟩

def Xl (rows:List (List I3)):Int:=if Zn rows then (if (Yd rows).length≤2000 then 0 else 15) else 1
theorem Mo (a:Option Addr) (len cap:Nat) (rows:List (List I3)) (s:S4) (w:World) (hC:XP w a len cap rows) (h:Yl w s Zl) (hV:Yu w) (hp:Zn rows=true) (hf:(Yd rows).length≤2000) :
  Calls Tryz.prog 67 #[.agg #[.slice a len cap],s.val] w fun e w'=>Rp e w w' a rows (Yd rows):=by
 refine (M9 a len cap rows s w hC h hV hp).mono fun e w' h=>?_
 rw [if_pos hf] at h
 exact h
theorem UU {rows:List (List I3)} (h:Xl rows=0):Zn rows=true∧(Yd rows).length≤2000:=by
 unfold Xl at h
 cases hp:Zn rows
 ·rw [hp] at h;simp at h
 rw [hp] at h
 by_cases hf:(Yd rows).length≤2000
 ·exact ⟨rfl,hf⟩
 rw [if_pos rfl,if_neg hf] at h
 simp at h
theorem YY.strgrown {W W':World} {B B' nb d n e s:Nat} {vs v:Value} {cs:Sl × Sl × Sl} {M:V4→List I4} {L:List (Zr V4 × Value)} {xs:List Value} (h:YY W B nb vs cs M L d) (ho:W.ownsRow B' e s v n xs) (gr:W.grownBy W' v.ownBlock) (h1:111≠e:=by decide) (h2:192≠e:=by decide):YY W' B nb vs cs M L d:=by
 obtain ⟨D,hm,hn⟩:=h.map
 exact ⟨h.row.kept gr (Ap3.types h.row ho h1).or,⟨D,hm.kept gr (fun e=>Wz hm ho e.symm),hn⟩,fun i r mv' hi hr=>(h.mvs i r mv' hi hr).kept gr (Ap3.types (h.mvs i r mv' hi hr) ho h2).or,h.nil,h.low⟩


def Pq (rows:List (List I3)) (L:List (Zr V4 × Value)) (cts:List Int):Prop:=cts.length=L.length∧∀ i r mv,L[i]?=some (r,mv)→cts.getD i 0=0∨cts.getD i 0=(Z8 rows r.1:Int)
theorem Pq.put {rows:List (List I3)} {L:List (Zr V4 × Value)} {cts:List Int} (h:Pq rows L cts) {at9:Nat} {r:Zr V4} {mv:Value} (hr:L[at9]?=some (r,mv)):Pq rows L (cts.set at9 (Z8 rows r.1:Int)):=by
 have hl:at9<L.length:=(List.getElem?_eq_some_iff.1 hr).1
 refine ⟨by simp [h.1],fun i r' mv' hi=>?_⟩
 by_cases e:at9=i
 ·subst e
  rw [hr] at hi
  cases hi
  right
  simp [List.getD,h.1,hl]
 have:=h.2 i r' mv' hi
 simp only [List.getD,List.getElem?_set_ne e] at this ⊢
 exact this
def S6 (e:Ending) (w w':World) (rows:List (List I3)) (L:List (Zr V4 × Value)) (Bc g c:Nat) (m:V4):Prop:=
 ∃ cts',e=.returned (.int .i64 (Z8 rows m:Int))∧ZI w' Bc (some ⟨g,0,none⟩,L.length,c) cts'∧Pq rows L cts'∧w.grownBy w' (some g)
def JM (rows:List (List I3)) (L:List (Zr V4 × Value)) (X nb vc B Bc g c:Nat) (va:Option Addr) (cs:Sl × Sl × Sl) (at9:Nat) (m:V4):Prop:=∀ (w:World) (cts:List Int),YY w B nb (.slice va L.length vc) cs (Yp rows (L.map (·.1))) L L.length→Blk w X 106 [.slice va L.length vc,.map (some nb)]→ZI w Bc (some ⟨g,0,none⟩,L.length,c) cts→Pq rows L cts →
 Calls Tryz.prog 97 #[.pointer (some ⟨X,0,none⟩),.int .i64 at9,.slice (some ⟨g,0,none⟩) L.length c] w fun e w'=>S6 e w w' rows L Bc g c m
def Up (rows:List (List I3)) (m:V4) (j:Nat):Nat:=((Zj rows m 3).take j).foldl (fun s k=>T7 (s+Z8 rows (goM rows m k).1)) 0
theorem Pl (rows:List (List I3)) (m:V4):Up rows m 0=0:=by simp [Up]
theorem Pk {rows:List (List I3)} {m:V4} {j:Nat} {k:Int} (h:(Zj rows m 3)[j]?=some k):Up rows m (j+1)=T7 (Up rows m j+Z8 rows (goM rows m k).1):=by
 unfold Up
 rw [List.take_add_one,h]
 simp [List.foldl_append]
theorem GF {rows:List (List I3)} (hp:Zn rows=true) {m:V4} (hs:Zk m=true) (hne:Zj rows m 3≠[]) {j:Nat} (hj:(Zj rows m 3).length≤j):Up rows m j=Z8 rows m:=by
 unfold Up
 rw [List.take_of_length_le hj,Nd _ _ _ (by decide),Rz hp hs,if_neg hne,Nat.zero_add]
theorem P5 (rows:List (List I3)) (m:V4) (j:Nat):Up rows m j≤1000000:=by
 cases j with
 | zero=>rw [Pl];omega
 | succ j =>
  cases h:(Zj rows m 3)[j]? with
  | some k=>rw [Pk h];exact Pw _
  | none =>
   have e:Up rows m (j+1)=Up rows m j:=by unfold Up;rw [List.take_add_one,h];simp
   rw [e]
   exact P5 rows m j
theorem G4 {rows:List (List I3)} {F:List (Zr V4)} {m:V4} {j:Nat} {k:Int} (h:(Zj rows m 3)[j]?=some k):(Yp rows F m)[j]?=some (FO rows F m k):=by
 unfold Yp
 rw [List.getElem?_map,h]
 rfl
theorem M4 {w:World} {B G cap:Nat} {xs:List I4} (h:w.ownsRow B 192 4 (.slice (some ⟨G,0,none⟩) xs.length cap) xs.length (Yo xs)) {j:Nat} {x:I4} (hx:xs[j]?=some x):w.rangeAt G (j*4) [.int .i64 x.1,.int .i64 x.2.1,.int .i64 x.2.2.1,.int .i64 x.2.2.2]:=by
 have hl:j<xs.length:=(List.getElem?_eq_some_iff.1 hx).1
 have hg:xs.getD j (0,0,0,0)=x:=by simp [List.getD,hx]
 obtain ⟨f0,f1,f2,f3⟩:=RH xs j hl
 rw [hg] at f0 f1 f2 f3
 intro q v hq
 have hq4:q<4:=by have:=(List.getElem?_eq_some_iff.1 hq).1;simpa using this
 rw [h.cellAt (j*4+q) (by omega)]
 match q,hq4 with
 | 0,_=>simp at hq;subst hq;exact f0
 | 1,_=>simp at hq;subst hq;exact f1
 | 2,_=>simp at hq;subst hq;exact f2
 | 3,_=>simp at hq;subst hq;exact f3
theorem YY.mvrow {w:World} {B nb d:Nat} {vs:Value} {cs:Sl × Sl × Sl} {M:V4→List I4} {L:List (Zr V4 × Value)} (h:YY w B nb vs cs M L d) {i:Nat} {r:Zr V4} {mv:Value} (hi:i<d) (hr:L[i]?=some (r,mv)):∃ ma mc,mv=.slice ma (M r.1).length mc:=by
 rcases (h.mvs i r mv hi hr).2 with ⟨h1,h2⟩ | ⟨gq,cq,cur,h1,_⟩
 ·exact ⟨none,0,by rw [h1,h2]⟩
 exact ⟨_,_,h1⟩
theorem GS {a b s:Nat} (ha:a≤1000000) (hb:b≤1000000) (hs:s=T7 (a+b)):min (wrap64 ((a:Int)+(b:Int))) 1000000=(s:Int):=by
 rw [hs,Tv]
 unfold wrap64
 omega

theorem Jf (rows:List (List I3)) (L:List (Zr V4 × Value)) (X nb vc B Bc g c:Nat) (va:Option Addr) (cs:Sl × Sl × Sl) (hp:Zn rows=true) (hsh:YM (L.map (·.1))) (hcl:∀ r ∈ L.map (·.1),∀ t ∈ nxM rows r.1,t.2 ∈ (L.map (·.1)).map (·.1)) (hl:L.length≤2000) {at9:Nat} {r:Zr V4} {mv:Value} (hr:L[at9]?=some (r,mv))
  (ih:∀ at' r' mv',L[at']?=some (r',mv')→YE rows r'.1<YE rows r.1→JM rows L X nb vc B Bc g c va cs at' r'.1):JM rows L X nb vc B Bc g c va cs at9 r.1:=by
 intro w cts sp bx ho hct
 have hla:at9<L.length:=(List.getElem?_eq_some_iff.1 hr).1
 have hrm:r ∈ L.map (·.1):=List.mem_map.2 ⟨_,List.mem_of_getElem? hr,rfl⟩
 have hs:=hsh r hrm
 obtain ⟨g1,c1,e1,hg1,hrg⟩:=sp.at9 hr
 cases e1
 obtain ⟨ma,mc,rfl⟩:=sp.mvrow hla hr
 have cX0:w.cell? ⟨X,0,none⟩=some (.slice (some ⟨g1,0,none⟩) L.length vc):=by simpa using bx.cell 0
 have cM:=hrg 21 _ rfl
 have hlt:(at9:Int)<(L.length:Int):=by omega
 have ha0:(0:Int)≤(at9:Int):=by omega
 have hml:(Yp rows (L.map (·.1)) r.1).length=(Zj rows r.1 3).length:=by simp [Yp]
 have hen:=YF rows r.1 3
 by_cases hne:Zj rows r.1 3=[]
 ·have h0:(Yp rows (L.map (·.1)) r.1).length=0:=by rw [hml,hne];rfl
  have hc1:Z8 rows r.1=1:=by rw [Rz hp hs,if_pos hne]
  have HG:Hid (S6 (.returned (.int .i64 1)) w w rows L Bc g c r.1):=⟨cts,by rw [hc1];rfl,ho,hct,World.grownBy.refl _ _⟩
  rw [h0] at cM
  clear hc1 hne hml hrg ih hcl hsh hct h0
  go_enter Tryz.func97,Tryz.ntmps97
  go_wp2
  go_ret
  exact HG.out
 have hn1:0<(Zj rows r.1 3).length:=List.length_pos_iff.2 hne
 have mvr:=sp.mvs at9 r _ hla hr
 rw [hml] at cM mvr
 have HC:Hid (cts.getD at9 0=0∨cts.getD at9 0=(Z8 rows r.1:Int)):=hct.2 at9 r _ hr
 have hcb:=WM hp (YE rows r.1) r.1 hs (Nat.le_refl _)
 have cC:=ho.at9 hla
 obtain ⟨n,hn⟩:∃ n,n=(Zj rows r.1 3).length:=⟨_,rfl⟩
 rw [← hn] at cM mvr hn1 hen
 have HN:Hid (n=(Zj rows r.1 3).length):=hn
 have hnz:((n:Int) == 0)=false:=beq_false_of_ne (by omega)
 have hnz2:decide ((n:Int)=0)=false:=decide_eq_false (by omega)
 obtain ⟨G,mc',e2,_⟩:=XK mvr hn1
 cases e2
 clear hn hml hrg
 by_cases hcz:cts.getD at9 0=0
 ·rw [hcz] at cC
  have HPut:=hct.put hr
  have hmr:∀ j k,(Zj rows r.1 3)[j]?=some k→w.rangeAt G (j*4) [.int .i64 (goM rows r.1 k).2,.int .i64 k,.int .i64 (r.1.1.getD k.toNat 0),.int .i64 (ixS (L.map (·.1)) (goM rows r.1 k).1:Int)]:=by
   have hmv2:w.ownsRow B 192 4 (.slice (some ⟨G,0,none⟩) (Yp rows (L.map (·.1)) r.1).length mc) (Yp rows (L.map (·.1)) r.1).length (Yo (Yp rows (L.map (·.1)) r.1)):=by
    have e3:(Yp rows (L.map (·.1)) r.1).length=n:=by rw [HN.out];simp [Yp]
    rw [e3]
    exact mvr
   exact fun j k h=>M4 hmv2 (G4 h)
  have HGG:Hid (G≠g):=fun e=>(Ap3.types mvr ho (by decide)) G rfl (by rw [e];rfl)
  have st:ZI w Bc (some ⟨g,0,none⟩,L.length,c) cts∧Pq rows L cts∧w.grownBy w (some g):=⟨ho,hct,World.grownBy.refl _ _⟩
  have hsz0:=Pl rows r.1
  go_enter Tryz.func97,Tryz.ntmps97
  go_wp2_with fail
  go_loopw [8,29] (fun s8 s29 wr=>∃ (j:Nat) (cts':List Int),s29=.int .i64 j∧j≤n∧s8=.int .i64 (Up rows r.1 j:Int)∧ZI wr Bc (some ⟨g,0,none⟩,L.length,c) cts'∧Pq rows L cts'∧w.grownBy wr (some g)) (fun _ s29 _=>n - (intOf s29).toNat)
  case atStart=>exact ⟨0,cts,rfl,Nat.zero_le _,by rw [hsz0];rfl,st⟩
  case round =>
   clear st hsz0 cC hcz
   obtain ⟨j,cts',rfl,hjn,rfl,ho',hct',gr⟩:=hrel
   by_cases hlt2:j<n
   ·have hkj:(Zj rows r.1 3)[j]?=some ((Zj rows r.1 3).getD j 0):=by rw [List.getD,List.getElem?_eq_getElem (by rw [← HN.out];exact hlt2)];rfl
    generalize (Zj rows r.1 3).getD j 0=k at hkj
    have hz:=Yb (List.mem_of_getElem? hkj)
    have hx:=ZW hp hs hz
    have hlf:=Y4 hp hs hz
    have hnm:(goM rows r.1 k).1 ∈ (L.map (·.1)).map (·.1):=hcl r hrm _ (List.mem_map.2 ⟨k,List.mem_of_getElem? hkj,rfl⟩)
    obtain ⟨r',hr',he'⟩:=Lr hnm
    obtain ⟨mv',hL'⟩:∃ mv',L[ixS (L.map (·.1)) (goM rows r.1 k).1]?=some (r',mv'):=by
     rw [List.getElem?_map] at hr'
     obtain ⟨y,hy,rfl⟩:=Option.map_eq_some_iff.1 hr'
     exact ⟨y.2,by rw [hy]⟩
    have kR:=ih _ r' mv' hL' (by rw [he'];omega)
    rw [he'] at kR
    have hsu:=Pk hkj
    have hcb2:=WM hp _ _ hx (Nat.le_refl _)
    have hsl:=P5 rows r.1 j
    have hsl2:=P5 rows r.1 (j+1)
    have hmid:=hmr j k hkj
    have hrw:wr.rangeAt G (j*4) [.int .i64 (goM rows r.1 k).2,.int .i64 k,.int .i64 (r.1.1.getD k.toNat 0),.int .i64 (ixS (L.map (·.1)) (goM rows r.1 k).1:Int)]:=fun q v hq=>by
     have h1:=hmid q v hq
     exact Zd gr h1 (fun e=>HGG.out (by cases e;rfl))
    generalize ixS (L.map (·.1)) (goM rows r.1 k).1=ix at *
    have hcn:=hcb2.2
    generalize (goM rows r.1 k).2=f at *
    generalize r.1.1.getD k.toNat 0=pc at *
    have HSU:Hid (min (wrap64 ((Up rows r.1 j:Int)+(Z8 rows (goM rows r.1 k).1:Int))) 1000000=(Up rows r.1 (j+1):Int)):=GS hsl hcn hsu
    have hlt3:(j:Int)<(n:Int):=by omega
    have hj0:(0:Int)≤(j:Int):=by omega
    clear hsu hkj hz hx hlf hnm hr' he' hL' hmid hmr
    have pN:=Blk.new wr 192 [.int .i64 0,.int .i64 0,.int .i64 0,.int .i64 0]
    have hbN:Below wr.heap.size wr (wr.alloc (.cells #[.int .i64 0,.int .i64 0,.int .i64 0,.int .i64 0] 192)):=by go_grown
    go_wp2_with (first | refine wpList_load_mid rfl 192 _ rfl G (j*4) rfl [.int .i64 f,.int .i64 k,.int .i64 pc,.int .i64 (ix:Int)] _ hrw Tryz.underlying192 rfl (by kernel_rfl) ?_ | refine Ze rfl 192 _ _ rfl wr.heap.size [.int .i64 f,.int .i64 k,.int .i64 pc,.int .i64 (ix:Int)] rfl rfl pN (by kernel_rfl) rfl rfl ?_)
    intro w3 p3 g3
    have b3:Below wr.heap.size wr w3:=hbN.grown g3 hbN.size (fun q e=>by cases e;exact Nat.le_refl _)
    have cE:w3.cell? ⟨wr.heap.size,3,none⟩=some (.int .i64 (ix:Int)):=by simpa using p3.out.cell 3
    have gr3:w.grownBy w3 (some g):=ZM gr (Yc b3)
    have ho3:=ho'.below b3
    have sp3:=sp.strgrown ho gr3 (by decide) (by decide)
    have bx3:=bx.kept gr3 (Zg ho bx (by decide))
    have kRx:=kR w3 cts' sp3 bx3 ho3 hct'
    clear p3 g3 pN hbN b3 hrw kR gr ho' sp3 bx3 ho3
    generalize wr.heap.size=E at *
    go_wp2_with fail
    refine kRx.mono ?_
    rintro e w4 ⟨cts4,rfl,ho4,hct4,g4⟩
    have gr4:=ZM gr3 g4
    clear kRx gr3 g4 cE
    have st9:∃ (j9:Nat) (cts':List Int),(Value.int .i64 ((j:Int)+1))=.int .i64 (j9:Int)∧j9≤n∧(Value.int .i64 (min (wrap64 ((Up rows r.1 j:Int)+(Z8 rows (goM rows r.1 k).1:Int))) 1000000))=.int .i64 (Up rows r.1 j9:Int)∧ZI w4 Bc (some ⟨g,0,none⟩,L.length,c) cts'∧Pq rows L cts'∧w.grownBy w4 (some g):=⟨j+1,cts4,by go_num,by omega,by rw [HSU.out],ho4,hct4,gr4⟩
    clear ho4 hct4 gr4 HSU hcb hcb2 hsl hsl2 hcn HPut HC
    go_wp2
    exact ⟨st9,by simp [intOf];omega⟩
   have hjn2:j=n:=by omega
   have hlt3:¬ (j:Int)<(n:Int):=by omega
   have hsa:Up rows r.1 j=Z8 rows r.1:=GF hp hs hne (by rw [← HN.out];omega)
   rw [hsa]
   have cC:=ho'.at9 hla
   have fC:=ho'.frz9 at9
   have ho9:=ho'.set9 at9 (Z8 rows r.1:Int)
   have gr9:=ZM gr (Zv wr g at9 (.int .i64 (Z8 rows r.1:Int)))
   have cD:=ho9.at9 hla
   have hct9:=hct'.put hr
   have e9:(cts'.set at9 (Z8 rows r.1:Int)).getD at9 0=(Z8 rows r.1:Int):=by simp [List.getD,hct'.1,hla]
   rw [e9] at cD
   have HG:Hid (S6 (.returned (.int .i64 (Z8 rows r.1:Int))) w (wr.setCell ⟨g,at9,none⟩ (.int .i64 (Z8 rows r.1:Int))) rows L Bc g c r.1):=⟨_,rfl,ho9,hct9,gr9⟩
   generalize cts'.getD at9 0=old at cC
   generalize Z8 rows r.1=cn at *
   clear ho' ho9 gr9 hct9 e9 hsa hjn2 gr hct' hmr ih hcl hsh HPut HC hcb
   go_wp2
   go_ret
   exact HG.out
 have hcv:cts.getD at9 0=(Z8 rows r.1:Int):=HC.out.resolve_left hcz
 rw [hcv] at cC hcz
 have HG:Hid (S6 (.returned (.int .i64 (Z8 rows r.1:Int))) w w rows L Bc g c r.1):=⟨cts,rfl,ho,hct,World.grownBy.refl _ _⟩
 have hc1:((Z8 rows r.1:Int) == 0)=false:=beq_false_of_ne hcz
 have hc2:decide ((Z8 rows r.1:Int)=0)=false:=decide_eq_false hcz
 generalize Z8 rows r.1=cn at *
 clear HC hcz hcv hct ih hcl hsh mvr
 go_enter Tryz.func97,Tryz.ntmps97
 go_wp2
 go_ret
 exact HG.out


theorem RJ (xs:List I3) (x:I3):Zo (xs++[x])=Zo xs++[.int .i64 x.1,.int .i64 x.2.1,.int .i64 x.2.2]:=by simp [Zo,I3.cells]
theorem Qr {w:World} {g t:Nat} {a b c:Value} (h:Blk w g t [a,b,c]):∀ j u,[a,b,c][j]?=some u→w.cell? ((⟨g,0,none⟩:Addr).add j)=some u:=X5 h

end Go.Proofs.YtifoggpohlegmaaGreatDoor
