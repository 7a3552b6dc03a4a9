/-
  Joined: AstI, CntI, RbgI, VisI.
-/
import Derived.Deep.CutRange
import Derived.Test.YtmhlokahmblboaaGreatDoorK34
import Derived.Test.YtmhlokahmblboaaGreatDoorK36

namespace Go.Proofs.YtmhlokahmblboaaGreatDoor
set_option maxRecDepth 100000
set_option maxHeartbeats 16000000
open Go.RowKit
set_option linter.unusedVariables false
set_option linter.unusedSimpArgs false
def L2 (w W:World) (cs:Sl × Sl × Sl) (rows:List (List I3)) (F:List (Zp V4)) (s4 s5:Value):Prop:=
 ∃ X va vc nb L,s4=.pointer (some ⟨X,0,none⟩)∧s5=.int .i64 0∧Blk W X 125 [.slice va L.length vc,.map (some nb)]∧Y6 W w.heap.size nb (.slice va L.length vc) cs (Yo rows F) L L.length∧L.map (·.1)=F∧w.heap.size≤X∧Below w.heap.size w W
theorem Y6.lower {w:World} {B B' nb d:Nat} {vs:Value} {cs:Sl × Sl × Sl} {M:V4→List I4} {L:List (Zp V4 × Value)} (h:Y6 w B nb vs cs M L d) (hB:B'≤B):Y6 w B' nb vs cs M L d:=
 ⟨XF h.row hB,h.map,fun i r mv h1 h2=>XF (h.mvs i r mv h1 h2) hB,h.nil,Nat.le_trans hB h.low⟩
theorem L2.mk9 {w W:World} {cs:Sl × Sl × Sl} {rows:List (List I3)} {F:List (Zp V4)} {s4 s5 va vs:Value} {X nb B:Nat} {L:List (Zp V4 × Value)} (h4:s4=.pointer (some ⟨X,0,none⟩)) (h5:s5=.int .i64 0) (hX:Blk W X 125 [vs,.map (some nb)]) (sp:Y6 W B nb vs cs (Yo rows F) L L.length) (hL:L.map (·.1)=F) (hBX:w.heap.size≤X) (hB:w.heap.size≤B) (b:Below w.heap.size w W):L2 w W cs rows F s4 s5:=by
 obtain ⟨va,vn,vc,rfl⟩:=ZZ sp.row
 obtain rfl:vn=L.length:=by
  rcases sp.row.2 with ⟨h1,h2⟩ | ⟨gq,cq,cur,h1,_⟩
  ·cases h1;exact h2.symm
  cases h1;rfl
 exact ⟨X,va,vc,nb,L,h4,h5,hX,sp.lower hB,hL,hBX,b⟩

def Xi (rows:List (List I3)):Int:=if Zn rows then (if (Yd rows).length≤2000 then 0 else 15) else 1
theorem Mh (a:Option Addr) (len cap:Nat) (rows:List (List I3)) (s:S4) (w:World) (hC:XL w a len cap rows) (h:Yk w s Zl) (hV:Ys w) (hp:Zn rows=true) (hf:(Yd rows).length≤2000) :
  Calls Tryz.prog 65 #[.agg #[.slice a len cap],s.val] w fun e w'=>Ri e w w' a rows (Yd rows):=by
 refine (M4 a len cap rows s w hC h hV hp).mono fun e w' h=>?_
 rw [if_pos hf] at h
 exact h
theorem UN {rows:List (List I3)} (h:Xi rows=0):Zn rows=true∧(Yd rows).length≤2000:=by
 unfold Xi at h
 cases hp:Zn rows
 ·rw [hp] at h;simp at h
 rw [hp] at h
 by_cases hf:(Yd rows).length≤2000
 ·exact ⟨rfl,hf⟩
 rw [if_pos rfl,if_neg hf] at h
 simp at h
theorem Y6.strgrown {W W':World} {B B' nb d n e s:Nat} {vs v:Value} {cs:Sl × Sl × Sl} {M:V4→List I4} {L:List (Zp V4 × Value)} {xs:List Value} (h:Y6 W B nb vs cs M L d) (ho:W.ownsRow B' e s v n xs) (gr:W.grownBy W' v.ownBlock) (h1:202≠e:=by decide) (h2:204≠e:=by decide):Y6 W' B nb vs cs M L d:=by
 obtain ⟨D,hm,hn⟩:=h.map
 exact ⟨h.row.kept gr (Ap3.types h.row ho h1).or,⟨D,hm.kept gr (fun e=>WY hm ho e.symm),hn⟩,fun i r mv' hi hr=>(h.mvs i r mv' hi hr).kept gr (Ap3.types (h.mvs i r mv' hi hr) ho h2).or,h.nil,h.low⟩


def Pj (rows:List (List I3)) (L:List (Zp V4 × Value)) (cts:List Int):Prop:=cts.length=L.length∧∀ i r mv,L[i]?=some (r,mv)→cts.getD i 0=0∨cts.getD i 0=(Z7 rows r.1:Int)
theorem Pj.put {rows:List (List I3)} {L:List (Zp V4 × Value)} {cts:List Int} (h:Pj rows L cts) {at9:Nat} {r:Zp V4} {mv:Value} (hr:L[at9]?=some (r,mv)):Pj rows L (cts.set at9 (Z7 rows r.1:Int)):=by
 have hl:at9<L.length:=(List.getElem?_eq_some_iff.1 hr).1
 refine ⟨by simp [h.1],fun i r' mv' hi=>?_⟩
 by_cases e:at9=i
 ·subst e
  rw [hr] at hi
  cases hi
  right
  simp [List.getD,h.1,hl]
 have:=h.2 i r' mv' hi
 simp only [List.getD,List.getElem?_set_ne e] at this ⊢
 exact this
def SW (e:Ending) (w w':World) (rows:List (List I3)) (L:List (Zp V4 × Value)) (Bc g c:Nat) (m:V4):Prop:=
 ∃ cts',e=.returned (.int .i64 (Z7 rows m:Int))∧ZG w' Bc (some ⟨g,0,none⟩,L.length,c) cts'∧Pj rows L cts'∧w.grownBy w' (some g)
def JI (rows:List (List I3)) (L:List (Zp V4 × Value)) (X nb vc B Bc g c:Nat) (va:Option Addr) (cs:Sl × Sl × Sl) (at9:Nat) (m:V4):Prop:=∀ (w:World) (cts:List Int),Y6 w B nb (.slice va L.length vc) cs (Yo rows (L.map (·.1))) L L.length→Blk w X 125 [.slice va L.length vc,.map (some nb)]→ZG w Bc (some ⟨g,0,none⟩,L.length,c) cts→Pj rows L cts →
 Calls Tryz.prog 66 #[.pointer (some ⟨X,0,none⟩),.int .i64 at9,.slice (some ⟨g,0,none⟩) L.length c] w fun e w'=>SW e w w' rows L Bc g c m
def Uh (rows:List (List I3)) (m:V4) (j:Nat):Nat:=((Zj rows m 3).take j).foldl (fun s k=>T0 (s+Z7 rows (goM rows m k).1)) 0
theorem Pe (rows:List (List I3)) (m:V4):Uh rows m 0=0:=by simp [Uh]
theorem Pd {rows:List (List I3)} {m:V4} {j:Nat} {k:Int} (h:(Zj rows m 3)[j]?=some k):Uh rows m (j+1)=T0 (Uh rows m j+Z7 rows (goM rows m k).1):=by
 unfold Uh
 rw [List.take_add_one,h]
 simp [List.foldl_append]
theorem GD {rows:List (List I3)} (hp:Zn rows=true) {m:V4} (hs:Zk m=true) (hne:Zj rows m 3≠[]) {j:Nat} (hj:(Zj rows m 3).length≤j):Uh rows m j=Z7 rows m:=by
 unfold Uh
 rw [List.take_of_length_le hj,P6 _ _ _ (by decide),Rs hp hs,if_neg hne,Nat.zero_add]
theorem PY (rows:List (List I3)) (m:V4) (j:Nat):Uh rows m j≤1000000:=by
 cases j with
 | zero=>rw [Pe];omega
 | succ j =>
  cases h:(Zj rows m 3)[j]? with
  | some k=>rw [Pd h];exact Pp _
  | none =>
   have e:Uh rows m (j+1)=Uh rows m j:=by unfold Uh;rw [List.take_add_one,h];simp
   rw [e]
   exact PY rows m j
theorem G2 {rows:List (List I3)} {F:List (Zp V4)} {m:V4} {j:Nat} {k:Int} (h:(Zj rows m 3)[j]?=some k):(Yo rows F m)[j]?=some (FN rows F m k):=by
 unfold Yo
 rw [List.getElem?_map,h]
 rfl
theorem MY {w:World} {B G cap:Nat} {xs:List I4} (h:w.ownsRow B 204 4 (.slice (some ⟨G,0,none⟩) xs.length cap) xs.length (Yu xs)) {j:Nat} {x:I4} (hx:xs[j]?=some x):w.rangeAt G (j*4) [.int .i64 x.1,.int .i64 x.2.1,.int .i64 x.2.2.1,.int .i64 x.2.2.2]:=by
 have hl:j<xs.length:=(List.getElem?_eq_some_iff.1 hx).1
 have hg:xs.getD j (0,0,0,0)=x:=by simp [List.getD,hx]
 obtain ⟨f0,f1,f2,f3⟩:=RA xs j hl
 rw [hg] at f0 f1 f2 f3
 intro q v hq
 have hq4:q<4:=by have:=(List.getElem?_eq_some_iff.1 hq).1;simpa using this
 rw [h.cellAt (j*4+q) (by omega)]
 match q,hq4 with
 | 0,_=>simp at hq;subst hq;exact f0
 | 1,_=>simp at hq;subst hq;exact f1
 | 2,_=>simp at hq;subst hq;exact f2
 | 3,_=>simp at hq;subst hq;exact f3
theorem Y6.mvrow {w:World} {B nb d:Nat} {vs:Value} {cs:Sl × Sl × Sl} {M:V4→List I4} {L:List (Zp V4 × Value)} (h:Y6 w B nb vs cs M L d) {i:Nat} {r:Zp V4} {mv:Value} (hi:i<d) (hr:L[i]?=some (r,mv)):∃ ma mc,mv=.slice ma (M r.1).length mc:=by
 rcases (h.mvs i r mv hi hr).2 with ⟨h1,h2⟩ | ⟨gq,cq,cur,h1,_⟩
 ·exact ⟨none,0,by rw [h1,h2]⟩
 exact ⟨_,_,h1⟩
theorem GQ {a b s:Nat} (ha:a≤1000000) (hb:b≤1000000) (hs:s=T0 (a+b)):min (wrap64 ((a:Int)+(b:Int))) 1000000=(s:Int):=by
 rw [hs,Tn]
 unfold wrap64
 omega

theorem Jb (rows:List (List I3)) (L:List (Zp V4 × Value)) (X nb vc B Bc g c:Nat) (va:Option Addr) (cs:Sl × Sl × Sl) (hp:Zn rows=true) (hsh:YJ (L.map (·.1))) (hcl:∀ r ∈ L.map (·.1),∀ t ∈ nxM rows r.1,t.2 ∈ (L.map (·.1)).map (·.1)) (hl:L.length≤2000) {at9:Nat} {r:Zp V4} {mv:Value} (hr:L[at9]?=some (r,mv))
  (ih:∀ at' r' mv',L[at']?=some (r',mv')→YC rows r'.1<YC rows r.1→JI rows L X nb vc B Bc g c va cs at' r'.1):JI rows L X nb vc B Bc g c va cs at9 r.1:=by
 intro w cts sp bx ho hct
 have hla:at9<L.length:=(List.getElem?_eq_some_iff.1 hr).1
 have hrm:r ∈ L.map (·.1):=List.mem_map.2 ⟨_,List.mem_of_getElem? hr,rfl⟩
 have hs:=hsh r hrm
 obtain ⟨g1,c1,e1,hg1,hrg⟩:=sp.at9 hr
 cases e1
 obtain ⟨ma,mc,rfl⟩:=sp.mvrow hla hr
 have cX0:w.cell? ⟨X,0,none⟩=some (.slice (some ⟨g1,0,none⟩) L.length vc):=by simpa using bx.cell 0
 have cM:=hrg 21 _ rfl
 have hlt:(at9:Int)<(L.length:Int):=by omega
 have ha0:(0:Int)≤(at9:Int):=by omega
 have hml:(Yo rows (L.map (·.1)) r.1).length=(Zj rows r.1 3).length:=by simp [Yo]
 have hen:=YD rows r.1 3
 by_cases hne:Zj rows r.1 3=[]
 ·have h0:(Yo rows (L.map (·.1)) r.1).length=0:=by rw [hml,hne];rfl
  have hc1:Z7 rows r.1=1:=by rw [Rs hp hs,if_pos hne]
  have HG:Hid (SW (.returned (.int .i64 1)) w w rows L Bc g c r.1):=⟨cts,by rw [hc1];rfl,ho,hct,World.grownBy.refl _ _⟩
  rw [h0] at cM
  clear hc1 hne hml hrg ih hcl hsh hct h0
  go_enter Tryz.func66,Tryz.ntmps66
  go_wp2
  go_ret
  exact HG.out
 have hn1:0<(Zj rows r.1 3).length:=List.length_pos_iff.2 hne
 have mvr:=sp.mvs at9 r _ hla hr
 rw [hml] at cM mvr
 have HC:Hid (cts.getD at9 0=0∨cts.getD at9 0=(Z7 rows r.1:Int)):=hct.2 at9 r _ hr
 have hcb:=WE hp (YC rows r.1) r.1 hs (Nat.le_refl _)
 have cC:=ho.at9 hla
 obtain ⟨n,hn⟩:∃ n,n=(Zj rows r.1 3).length:=⟨_,rfl⟩
 rw [← hn] at cM mvr hn1 hen
 have HN:Hid (n=(Zj rows r.1 3).length):=hn
 have hnz:((n:Int) == 0)=false:=beq_false_of_ne (by omega)
 have hnz2:decide ((n:Int)=0)=false:=decide_eq_false (by omega)
 obtain ⟨G,mc',e2,_⟩:=XG mvr hn1
 cases e2
 clear hn hml hrg
 by_cases hcz:cts.getD at9 0=0
 ·rw [hcz] at cC
  have HPut:=hct.put hr
  have hmr:∀ j k,(Zj rows r.1 3)[j]?=some k→w.rangeAt G (j*4) [.int .i64 (goM rows r.1 k).2,.int .i64 k,.int .i64 (r.1.1.getD k.toNat 0),.int .i64 (ixS (L.map (·.1)) (goM rows r.1 k).1:Int)]:=by
   have hmv2:w.ownsRow B 204 4 (.slice (some ⟨G,0,none⟩) (Yo rows (L.map (·.1)) r.1).length mc) (Yo rows (L.map (·.1)) r.1).length (Yu (Yo rows (L.map (·.1)) r.1)):=by
    have e3:(Yo rows (L.map (·.1)) r.1).length=n:=by rw [HN.out];simp [Yo]
    rw [e3]
    exact mvr
   exact fun j k h=>MY hmv2 (G2 h)
  have HGG:Hid (G≠g):=fun e=>(Ap3.types mvr ho (by decide)) G rfl (by rw [e];rfl)
  have st:ZG w Bc (some ⟨g,0,none⟩,L.length,c) cts∧Pj rows L cts∧w.grownBy w (some g):=⟨ho,hct,World.grownBy.refl _ _⟩
  have hsz0:=Pe rows r.1
  go_enter Tryz.func66,Tryz.ntmps66
  go_wp2_with fail
  go_loopw [8,29] (fun s8 s29 wr=>∃ (j:Nat) (cts':List Int),s29=.int .i64 j∧j≤n∧s8=.int .i64 (Uh rows r.1 j:Int)∧ZG wr Bc (some ⟨g,0,none⟩,L.length,c) cts'∧Pj rows L cts'∧w.grownBy wr (some g)) (fun _ s29 _=>n - (intOf s29).toNat)
  case atStart=>exact ⟨0,cts,rfl,Nat.zero_le _,by rw [hsz0];rfl,st⟩
  case round =>
   clear st hsz0 cC hcz
   obtain ⟨j,cts',rfl,hjn,rfl,ho',hct',gr⟩:=hrel
   by_cases hlt2:j<n
   ·have hkj:(Zj rows r.1 3)[j]?=some ((Zj rows r.1 3).getD j 0):=by rw [List.getD,List.getElem?_eq_getElem (by rw [← HN.out];exact hlt2)];rfl
    generalize (Zj rows r.1 3).getD j 0=k at hkj
    have hz:=Ya (List.mem_of_getElem? hkj)
    have hx:=ZV hp hs hz
    have hlf:=YX hp hs hz
    have hnm:(goM rows r.1 k).1 ∈ (L.map (·.1)).map (·.1):=hcl r hrm _ (List.mem_map.2 ⟨k,List.mem_of_getElem? hkj,rfl⟩)
    obtain ⟨r',hr',he'⟩:=Lm hnm
    obtain ⟨mv',hL'⟩:∃ mv',L[ixS (L.map (·.1)) (goM rows r.1 k).1]?=some (r',mv'):=by
     rw [List.getElem?_map] at hr'
     obtain ⟨y,hy,rfl⟩:=Option.map_eq_some_iff.1 hr'
     exact ⟨y.2,by rw [hy]⟩
    have kR:=ih _ r' mv' hL' (by rw [he'];omega)
    rw [he'] at kR
    have hsu:=Pd hkj
    have hcb2:=WE hp _ _ hx (Nat.le_refl _)
    have hsl:=PY rows r.1 j
    have hsl2:=PY rows r.1 (j+1)
    have hmid:=hmr j k hkj
    have hrw:wr.rangeAt G (j*4) [.int .i64 (goM rows r.1 k).2,.int .i64 k,.int .i64 (r.1.1.getD k.toNat 0),.int .i64 (ixS (L.map (·.1)) (goM rows r.1 k).1:Int)]:=fun q v hq=>by
     have h1:=hmid q v hq
     exact Zh gr h1 (fun e=>HGG.out (by cases e;rfl))
    generalize ixS (L.map (·.1)) (goM rows r.1 k).1=ix at *
    have hcn:=hcb2.2
    generalize (goM rows r.1 k).2=f at *
    generalize r.1.1.getD k.toNat 0=pc at *
    have HSU:Hid (min (wrap64 ((Uh rows r.1 j:Int)+(Z7 rows (goM rows r.1 k).1:Int))) 1000000=(Uh rows r.1 (j+1):Int)):=GQ hsl hcn hsu
    have hlt3:(j:Int)<(n:Int):=by omega
    have hj0:(0:Int)≤(j:Int):=by omega
    clear hsu hkj hz hx hlf hnm hr' he' hL' hmid hmr
    have pN:=Blk.new wr 204 [.int .i64 0,.int .i64 0,.int .i64 0,.int .i64 0]
    have hbN:Below wr.heap.size wr (wr.alloc (.cells #[.int .i64 0,.int .i64 0,.int .i64 0,.int .i64 0] 204)):=by go_grown
    go_wp2_with (first | refine wpList_load_mid rfl 204 _ rfl G (j*4) rfl [.int .i64 f,.int .i64 k,.int .i64 pc,.int .i64 (ix:Int)] _ hrw Tryz.underlying204 rfl (by kernel_rfl) ?_ | refine Zd rfl 204 _ _ rfl wr.heap.size [.int .i64 f,.int .i64 k,.int .i64 pc,.int .i64 (ix:Int)] rfl rfl pN (by kernel_rfl) rfl rfl ?_)
    intro w3 p3 g3
    have b3:Below wr.heap.size wr w3:=hbN.grown g3 hbN.size (fun q e=>by cases e;exact Nat.le_refl _)
    have cE:w3.cell? ⟨wr.heap.size,3,none⟩=some (.int .i64 (ix:Int)):=by simpa using p3.out.cell 3
    have gr3:w.grownBy w3 (some g):=ZL gr (Yb b3)
    have ho3:=ho'.below b3
    have sp3:=sp.strgrown ho gr3 (by decide) (by decide)
    have bx3:=bx.kept gr3 (Zg ho bx (by decide))
    have kRx:=kR w3 cts' sp3 bx3 ho3 hct'
    clear p3 g3 pN hbN b3 hrw kR gr ho' sp3 bx3 ho3
    generalize wr.heap.size=E at *
    go_wp2_with fail
    refine kRx.mono ?_
    rintro e w4 ⟨cts4,rfl,ho4,hct4,g4⟩
    have gr4:=ZL gr3 g4
    clear kRx gr3 g4 cE
    have st9:∃ (j9:Nat) (cts':List Int),(Value.int .i64 ((j:Int)+1))=.int .i64 (j9:Int)∧j9≤n∧(Value.int .i64 (min (wrap64 ((Uh rows r.1 j:Int)+(Z7 rows (goM rows r.1 k).1:Int))) 1000000))=.int .i64 (Uh rows r.1 j9:Int)∧ZG w4 Bc (some ⟨g,0,none⟩,L.length,c) cts'∧Pj rows L cts'∧w.grownBy w4 (some g):=⟨j+1,cts4,by go_num,by omega,by rw [HSU.out],ho4,hct4,gr4⟩
    clear ho4 hct4 gr4 HSU hcb hcb2 hsl hsl2 hcn HPut HC
    go_wp2
    exact ⟨st9,by simp [intOf];omega⟩
   have hjn2:j=n:=by omega
   have hlt3:¬ (j:Int)<(n:Int):=by omega
   have hsa:Uh rows r.1 j=Z7 rows r.1:=GD hp hs hne (by rw [← HN.out];omega)
   rw [hsa]
   have cC:=ho'.at9 hla
   have fC:=ho'.frz9 at9
   have ho9:=ho'.set9 at9 (Z7 rows r.1:Int)
   have gr9:=ZL gr (Zu wr g at9 (.int .i64 (Z7 rows r.1:Int)))
   have cD:=ho9.at9 hla
   have hct9:=hct'.put hr
   have e9:(cts'.set at9 (Z7 rows r.1:Int)).getD at9 0=(Z7 rows r.1:Int):=by simp [List.getD,hct'.1,hla]
   rw [e9] at cD
   have HG:Hid (SW (.returned (.int .i64 (Z7 rows r.1:Int))) w (wr.setCell ⟨g,at9,none⟩ (.int .i64 (Z7 rows r.1:Int))) rows L Bc g c r.1):=⟨_,rfl,ho9,hct9,gr9⟩
   generalize cts'.getD at9 0=old at cC
   generalize Z7 rows r.1=cn at *
   clear ho' ho9 gr9 hct9 e9 hsa hjn2 gr hct' hmr ih hcl hsh HPut HC hcb
   go_wp2
   go_ret
   exact HG.out
 have hcv:cts.getD at9 0=(Z7 rows r.1:Int):=HC.out.resolve_left hcz
 rw [hcv] at cC hcz
 have HG:Hid (SW (.returned (.int .i64 (Z7 rows r.1:Int))) w w rows L Bc g c r.1):=⟨cts,rfl,ho,hct,World.grownBy.refl _ _⟩
 have hc1:((Z7 rows r.1:Int) == 0)=false:=beq_false_of_ne hcz
 have hc2:decide ((Z7 rows r.1:Int)=0)=false:=decide_eq_false hcz
 generalize Z7 rows r.1=cn at *
 clear HC hcz hcv hct ih hcl hsh mvr
 go_enter Tryz.func66,Tryz.ntmps66
 go_wp2
 go_ret
 exact HG.out


theorem RC (xs:List I3) (x:I3):Zr (xs++[x])=Zr xs++[.int .i64 x.1,.int .i64 x.2.1,.int .i64 x.2.2]:=by simp [Zr,I3.cells]
theorem Qk {w:World} {g t:Nat} {a b c:Value} (h:Blk w g t [a,b,c]):∀ j u,[a,b,c][j]?=some u→w.cell? ((⟨g,0,none⟩:Addr).add j)=some u:=Ww h


structure Kp7 (w w':World) (X:Nat) (bv sv:Value):Prop where
 os:w'.os=w.os
 tape:w'.tape=w.tape
 output:w'.output=w.output
 size:w.heap.size≤w'.heap.size
 block:∀ j,j<w.heap.size→j≠X→bv.ownBlock≠some j→sv.ownBlock≠some j→w'.heap[j]?=w.heap[j]?
theorem Kp7.refl (w:World) (X:Nat) (bv sv:Value):Kp7 w w X bv sv:=⟨rfl,rfl,rfl,Nat.le_refl _,fun _ _ _ _ _=>rfl⟩
theorem Kp7.belowR {a b c:World} {X:Nat} {bv sv:Value} (h:Kp7 a b X bv sv) (k:Below b.heap.size b c):Kp7 a c X bv sv:=
 ⟨k.os.trans h.os,k.tape.trans h.tape,k.output.trans h.output,Nat.le_trans h.size k.size,fun j hj h1 h2 h3=>(k.block j (Nat.lt_of_lt_of_le hj h.size)).trans (h.block j hj h1 h2 h3)⟩
theorem Kp7.grX {a b c:World} {X:Nat} {bv sv:Value} (h:Kp7 a b X bv sv) (k:b.grownBy c (some X)):Kp7 a c X bv sv:=
 ⟨k.os.trans h.os,k.tape.trans h.tape,k.output.trans h.output,Nat.le_trans h.size k.size,fun j hj h1 h2 h3=>(k.block j (Nat.lt_of_lt_of_le hj h.size) (fun e=>h1 (by cases e;rfl))).trans (h.block j hj h1 h2 h3)⟩
theorem Kp7.grB {a b c:World} {X:Nat} {bv sv bv':Value} (h:Kp7 a b X bv sv) (hm:ZU a bv bv') (k:b.grownBy c bv'.ownBlock):Kp7 a c X bv sv:=
 ⟨k.os.trans h.os,k.tape.trans h.tape,k.output.trans h.output,Nat.le_trans h.size k.size,fun j hj h1 h2 h3=>(k.block j (Nat.lt_of_lt_of_le hj h.size) (fun e=>by
  rcases hm with hm | ⟨g,hg,hm⟩
  ·exact h2 (hm▸e.symm)
  rw [hm] at e;cases e;omega)).trans (h.block j hj h1 h2 h3)⟩
theorem Kp7.grS {a b c:World} {X:Nat} {bv sv sv':Value} (h:Kp7 a b X bv sv) (hm:ZU a sv sv') (k:b.grownBy c sv'.ownBlock):Kp7 a c X bv sv:=
 ⟨k.os.trans h.os,k.tape.trans h.tape,k.output.trans h.output,Nat.le_trans h.size k.size,fun j hj h1 h2 h3=>(k.block j (Nat.lt_of_lt_of_le hj h.size) (fun e=>by
  rcases hm with hm | ⟨g,hg,hm⟩
  ·exact h3 (hm▸e.symm)
  rw [hm] at e;cases e;omega)).trans (h.block j hj h1 h2 h3)⟩
theorem Kp7.call {a b c:World} {X:Nat} {bv sv bv' uv:Value} (h:Kp7 a b X bv sv) (hm:ZU a bv bv') (k:Kp7 b c X bv' uv) (hu:∀ q,uv.ownBlock=some q→a.heap.size≤q):Kp7 a c X bv sv:=
 ⟨k.os.trans h.os,k.tape.trans h.tape,k.output.trans h.output,Nat.le_trans h.size k.size,fun j hj h1 h2 h3=>(k.block j (Nat.lt_of_lt_of_le hj h.size) h1 (fun e=>by
  rcases hm with hm | ⟨g,hg,hm⟩
  ·exact h2 (hm▸e)
  rw [hm] at e;cases e;omega) (fun e=>by have:=hu j e;omega)).trans (h.block j hj h1 h2 h3)⟩
theorem Kp7.blk {w w':World} {X B B' n n':Nat} {bv sv:Value} {xs ys cx:List Value} (k:Kp7 w w' X bv sv) (hb:w.ownsRow B 90 3 bv n xs) (hz:w.ownsRow B' 3 1 sv n' ys) (hX:Blk w X 31 cx) {g e:Nat} {zs:List Value} (p:Blk w g e zs) (h1:90≠e) (h2:3≠e) (h3:31≠e):Blk w' g e zs:=
 (k.block g p.lt (fun e2=>ZJ hX p h3 e2.symm) (Zg hb p h1) (Zg hz p h2)).trans p
theorem Kp7.row {w w':World} {X B n:Nat} {bv sv:Value} {xs cx:List Value} (k:Kp7 w w' X bv sv) (hb:w.ownsRow B 90 3 bv n xs) (hX:Blk w X 31 cx) {B' n':Nat} {v:Value} {zs:List Value} (ho:w.ownsRow B' 3 1 v n' zs) (ha:Ap3 v sv):w'.ownsRow B' 3 1 v n' zs:=by
 have hlt:=fun g hg=>(ZM ho (g:=g) hg).2
 have hnX:=Zg ho hX (by decide)
 have hap:=Ap3.types ho hb (by decide)
 refine ⟨ho.1,?_⟩
 rcases ho.2 with hn | ⟨g,cap,cur,rfl,hb9,hgg,rest⟩
 ·exact .inl hn
 exact .inr ⟨g,cap,cur,rfl,hb9,(k.block g (hlt g rfl) (fun e=>hnX (by rw [← e];rfl)) (hap g rfl) (ha g rfl)).trans hgg,rest⟩
theorem Kp7.below {a b:World} {X B:Nat} {bv sv:Value} (h:Kp7 a b X bv sv) (hX:B≤X) (hb:∀ k,bv.ownBlock=some k→B≤k) (hs:∀ k,sv.ownBlock=some k→B≤k) (hB:B≤a.heap.size):Below B a b:=
 ⟨h.os,h.tape,h.output,h.size,fun k hk=>h.block k (by omega) (by omega) (fun e=>by have:=hb k e;omega) (fun e=>by have:=hs k e;omega)⟩
def F0 (w:World) (B X V:Nat) (st:St7) (bv:Value):Prop:=Blk w X 31 [bv,.int .i64 st.2.1,.int .i64 st.2.2]∧w.ownsRow B 90 3 bv st.1.length (Zr st.1)∧Blk w V 86 [.func (.func 35) #[] #[.pointer (some ⟨X,0,none⟩),.pointer (some ⟨V,0,none⟩)]]
def VP (e:Ending) (w w':World) (B X V:Nat) (bv sv:Value) (st:St7):Prop:=e=.returned (.tuple #[])∧∃ bv',F0 w' B X V st bv'∧ZU w bv bv'∧Kp7 w w' X bv sv
def Fz (rows:List (List I3)) (f:Nat) (m:V4) (Z:List Int) (st:St7):Prop:=Zk m=true∧YC rows m<f∧Sz rows m Z∧Z.length+3*f≤60∧st.2.2+XU f≤1000000000∧st.1.length≤4*st.2.2∧st.2.1≤st.2.2
def JK (rows:List (List I3)) (wb:World) (X V:Nat) (cs:Sl × Sl × Sl) (f:Nat):Prop:=∀ (m:V4) (Z:List Int) (st:St7),Fz rows f m Z st→∀ (w:World) (bv sv:Value),Below wb.heap.size wb w→F0 w wb.heap.size X V st bv→w.ownsRow wb.heap.size 3 1 sv Z.length (Z.map (Value.int .i64)) →
  Calls Tryz.prog 35 #[.agg (Zf cs.1.val cs.2.1.val cs.2.2.val m).toArray,sv,.pointer (some ⟨X,0,none⟩),.pointer (some ⟨V,0,none⟩)] w fun e w'=>VP e w w' wb.heap.size X V bv sv (Xu rows f m Z st)
theorem GA {rows:List (List I3)} {m:V4} {Z:List Int} {k:Nat} (h:Sz rows m Z):Sz rows (goM rows m (k:Int)).1 (YM rows m Z (k:Int)):=fun j hj=>by
 obtain ⟨h1,h2⟩:=List.mem_filter.1 hj
 obtain ⟨q,rfl,h3,hd⟩:=h j h1
 refine ⟨q,rfl,h3,?_⟩
 rw [Int.toNat_natCast,Int.toNat_natCast] at h2
 have hne:=(Ul (rows:=rows) (m:=m) (k:=k) (l:=q) (by simpa using h2)).1
 rw [WH,Vz hne]
 exact hd
theorem Jn (rows:List (List I3)) (m:V4) (Z:List Int) (k:Int):(YM rows m Z k).length≤Z.length:=List.length_filter_le _ _
theorem Gg {rows:List (List I3)} {m:V4} {Z:List Int} {k:Nat} (h:Sz rows m Z) (hk:k<3) (hd:Z1 rows m k=false):Sz rows m (Z++[(k:Int)]):=fun j hj=>by
 rcases List.mem_append.1 hj with hj | hj
 ·exact h j hj
 rw [List.mem_singleton] at hj
 exact ⟨k,hj,hk,hd⟩
theorem Sf {w W:World} {v v':Value} {u:Value} (h:ZU w v u) (hs:w.heap.size≤W.heap.size) (h':v'.ownBlock=u.ownBlock∨v'.ownBlock=some W.heap.size):ZU w v v':=
 h.trans hs (by rcases h' with h' | h';exact .inl h';exact .inr ⟨_,Nat.le_refl _,h'⟩)
structure On7 (rows:List (List I3)) (wb w wr:World) (X V g bL f:Nat) (cs:Sl × Sl × Sl) (m:V4) (bv sv bvi svi:Value) (sl:Sl) (R:St7) (i:Nat) (Zi:List Int) (st:St7):Prop where
 eq:XJ rows m (Xu rows f) ((Zj rows m 3).drop i) Zi st=R
 ok:Sz rows m Zi
 zl:Zi.length+((Zj rows m 3).length - i)+3*f≤60
 rm:st.2.2+((Zj rows m 3).length - i)*XU f≤1000000000
 bl4:st.1.length+((Zj rows m 3).length - i)≤4*st.2.2
 rl:st.2.1≤st.2.2
 bx:Blk wr X 31 [bvi,.int .i64 st.2.1,.int .i64 st.2.2]
 br:wr.ownsRow wb.heap.size 90 3 bvi st.1.length (Zr st.1)
 vx:Blk wr V 86 [.func (.func 35) #[] #[.pointer (some ⟨X,0,none⟩),.pointer (some ⟨V,0,none⟩)]]
 mc:Blk wr g 69 (Zf cs.1.val cs.2.1.val cs.2.2.val m)
 ls:ZG wr bL sl (Zj rows m 3)
 zr:wr.ownsRow wb.heap.size 3 1 svi Zi.length (Zi.map (Value.int .i64))
 az:Ap3 (.slice sl.1 sl.2.1 sl.2.2) svi
 kp:Kp7 w wr X bv sv
 mb:ZU w bv bvi
 ms:ZU w sv svi
 bl:Below wb.heap.size wb wr

def F3 (rows:List (List I3)) (f:Nat) (m:V4) (i n:Nat) (st:St7) (Zi:List Int):Prop:=Sz rows m Zi∧Zi.length+(n - i)+3*f≤60∧st.2.2+(n - i)*XU f≤1000000000∧st.1.length+(n - i)≤4*st.2.2∧st.2.1≤st.2.2
theorem Hw {w:World} {B e s n:Nat} {a:Option Addr} {k c:Nat} {xs:List Value} (h:w.ownsRow B e s (.slice a k c) n xs):k=n:=by
 rcases h.2 with ⟨h1,h2⟩ | ⟨gq,cq,cur,h1,_⟩
 ·cases h1;exact h2.symm
 cases h1;rfl
theorem On7.skip {rows:List (List I3)} {wb w wr:World} {X V g bL f:Nat} {cs:Sl × Sl × Sl} {m:V4} {bv sv bvi svi:Value} {sl:Sl} {R:St7} {i:Nat} {Zi:List Int} {st:St7} {k:Int} (h:On7 rows wb w wr X V g bL f cs m bv sv bvi svi sl R i Zi st) (hd:(Zj rows m 3).drop i=k::(Zj rows m 3).drop (i+1)) (hk:k ∈ Zi) (hi:i<(Zj rows m 3).length):On7 rows wb w wr X V g bL f cs m bv sv bvi svi sl R (i+1) Zi st:=by
 obtain ⟨e1,e2,e3,e4,e5,e6,e7,e8,e9,e10,e11,e12,e13,e14,e15,e16,e17⟩:=h
 refine ⟨?_,e2,by omega,?_,by omega,e6,e7,e8,e9,e10,e11,e12,e13,e14,e15,e16,e17⟩
 ·rw [hd,WB hk] at e1;exact e1
 have:((Zj rows m 3).length - (i+1))*XU f≤((Zj rows m 3).length - i)*XU f:=Nat.mul_le_mul_right _ (by omega)
 omega

theorem M8 {rows:List (List I3)} {wb:World} {X V:Nat} {cs:Sl × Sl × Sl} (hp:Zn rows=true) (hI:∀ k,k<3→ZK wb (slK cs k).1 (slK cs k).2.1 (slK cs k).2.2 (Yn rows k)) (hBX:wb.heap.size≤X) {f:Nat} (ih:JK rows wb X V cs f):JK rows wb X V cs (f+1):=by
 intro m Z st hcan w bv sv b0 hV hz
 obtain ⟨hs,hf,hZ,hZl,hT,hB4,hR9⟩:=hcan
 obtain ⟨pX,qB,pV⟩:=hV
 obtain ⟨i0,hi9,hz0,hz1,hz2⟩:=info_parts VW
 obtain ⟨i1,hi1,hy0,hy1,hy2⟩:=info_parts Xc
 obtain ⟨R,hR⟩:∃ R,R=Xu rows (f+1) m Z st:=⟨_,rfl⟩
 rw [← hR]
 rw [Xu] at hR
 have hrt:XU (f+1)=1+3*XU f:=rfl
 rw [hrt] at hT
 clear hrt
 obtain ⟨bs,rn,nd⟩:=st
 simp only at pX qB hT hB4 hR9 hR
 have HR:Hid (R=if 5000<nd+1 then (bs,rn,nd+1) else XJ rows m (Xu rows f) (Zj rows m 3) Z (UC rows m (bs,rn,nd))):=hR
 clear hR
 obtain ⟨za,zn,zc,rfl⟩:=ZZ hz
 obtain ⟨ba,bn,bc,rfl⟩:=ZZ qB
 have hXl:=pX.lt
 have kE:=fun (W:World) (b:Below wb.heap.size wb W) (g:Nat) (h:Blk W g 69 (Zf cs.1.val cs.2.1.val cs.2.2.val m))=>VA g cs rows m W ⟨h,fun k hk=>(hI k hk).below b⟩ hp hs
 have kU:=fun (W:World) (b:Below wb.heap.size wb W) (g:Nat) (h:Blk W g 69 (Zf cs.1.val cs.2.1.val cs.2.2.val m))=>GC g cs rows m W ⟨h,fun k hk=>(hI k hk).below b⟩ hp hs
 have hone:=RQ cs.1 cs.2.1 cs.2.2 m
 obtain ⟨x0,x1,x2,x3,x4,x5,x6,x7,x8,x9,x10,x11,x12,x13,x14,x15,x16,x17,hMC⟩:∃ x0 x1 x2 x3 x4 x5 x6 x7 x8 x9 x10 x11 x12 x13 x14 x15 x16 x17:Value,Zf cs.1.val cs.2.1.val cs.2.2.val m=[x0,x1,x2,x3,x4,x5,x6,x7,x8,x9,x10,x11,x12,x13,x14,x15,x16,x17]:=⟨_,_,_,_,_,_,_,_,_,_,_,_,_,_,_,_,_,_,rfl⟩
 have HMC:Hid (Zf cs.1.val cs.2.1.val cs.2.2.val m=[x0,x1,x2,x3,x4,x5,x6,x7,x8,x9,x10,x11,x12,x13,x14,x15,x16,x17]):=hMC
 rw [hMC] at hone ⊢
 clear hMC
 simp only [List.all_cons,List.all_nil,Bool.and_true,Bool.and_eq_true] at hone
 obtain ⟨o0,o1,o2,o3,o4,o5,o6,o7,o8,o9,o10,o11,o12,o13,o14,o15,o16,o17⟩:=hone
 have bw:Below w.heap.size w (w.alloc (.cells #[x0,x1,x2,x3,x4,x5,x6,x7,x8,x9,x10,x11,x12,x13,x14,x15,x16,x17] 69)):=by go_grown
 have cX2:(w.alloc (.cells #[x0,x1,x2,x3,x4,x5,x6,x7,x8,x9,x10,x11,x12,x13,x14,x15,x16,x17] 69)).cell? ⟨X,2,none⟩=some (.int .i64 (nd:Int)):=by simpa using (pX.below bw).cell 2
 have fX2:=(pX.below bw).frozen 2
 have hw2:IntKind.i64.wrap ((nd:Int)+1)=(nd:Int)+1:=IntWalk.i64_in _ ⟨by omega,by omega⟩
 have gX:=Zu w X 2 (.int .i64 ((nd:Int)+1))
 have pX0:Blk (w.setCell ⟨X,2,none⟩ (.int .i64 ((nd:Int)+1))) X 31 [.slice ba bn bc,.int .i64 (rn:Int),.int .i64 ((nd:Int)+1)]:=pX.set 2 (.int .i64 ((nd:Int)+1))
 have hgY:w.heap.size≠X:=by omega
 have eSz:(w.setCell ⟨X,2,none⟩ (.int .i64 ((nd:Int)+1))).heap.size=w.heap.size:=by simp
 have bw1:Below (w.setCell ⟨X,2,none⟩ (.int .i64 ((nd:Int)+1))).heap.size (w.setCell ⟨X,2,none⟩ (.int .i64 ((nd:Int)+1))) ((w.setCell ⟨X,2,none⟩ (.int .i64 ((nd:Int)+1))).alloc (.cells #[x0,x1,x2,x3,x4,x5,x6,x7,x8,x9,x10,x11,x12,x13,x14,x15,x16,x17] 69)):=by go_grown
 have pX1:=pX0.below bw1
 have cX3:((w.setCell ⟨X,2,none⟩ (.int .i64 ((nd:Int)+1))).alloc (.cells #[x0,x1,x2,x3,x4,x5,x6,x7,x8,x9,x10,x11,x12,x13,x14,x15,x16,x17] 69)).cell? ⟨X,2,none⟩=some (.int .i64 ((nd:Int)+1)):=by simpa using pX1.cell 2
 have pY1:Blk ((w.setCell ⟨X,2,none⟩ (.int .i64 ((nd:Int)+1))).alloc (.cells #[x0,x1,x2,x3,x4,x5,x6,x7,x8,x9,x10,x11,x12,x13,x14,x15,x16,x17] 69)) w.heap.size 69 [x0,x1,x2,x3,x4,x5,x6,x7,x8,x9,x10,x11,x12,x13,x14,x15,x16,x17]:=Zo _ _ _ (by simp)
 have pV1:=(pV.kept gX (by simp;exact ZJ pX pV (by decide))).below bw1
 have qB1:=Ze (qB.kept gX (.inr (Zg qB pX (by decide)))) bw1
 have hz9:=Ze (hz.kept gX (.inr (Zg hz pX (by decide)))) bw1
 have kp:Kp7 w ((w.setCell ⟨X,2,none⟩ (.int .i64 ((nd:Int)+1))).alloc (.cells #[x0,x1,x2,x3,x4,x5,x6,x7,x8,x9,x10,x11,x12,x13,x14,x15,x16,x17] 69)) X (.slice ba bn bc) (.slice za zn zc):=((Kp7.refl w X _ _).grX gX).belowR bw1
 have bl:Below wb.heap.size wb ((w.setCell ⟨X,2,none⟩ (.int .i64 ((nd:Int)+1))).alloc (.cells #[x0,x1,x2,x3,x4,x5,x6,x7,x8,x9,x10,x11,x12,x13,x14,x15,x16,x17] 69)):=Zb (b0.grown gX b0.size (fun q e=>by cases e;exact hBX)) bw1
 replace pY1:Blk ((w.setCell ⟨X,2,none⟩ (.int .i64 ((nd:Int)+1))).alloc (.cells #[x0,x1,x2,x3,x4,x5,x6,x7,x8,x9,x10,x11,x12,x13,x14,x15,x16,x17] 69)) w.heap.size 69 (Zf cs.1.val cs.2.1.val cs.2.2.val m):=by
  have h9:=pY1
  rw [HMC.out]
  exact h9
 clear pX gX bw pV qB hz b0 HMC pX0 bw1 eSz
 by_cases h5:5000<nd+1
 ·have HR2:Hid (R=(bs,rn,nd+1)):=by rw [Hid,HR.out,if_pos h5]
  have h5':5000<(nd:Int)+1:=by omega
  have HG:Hid (VP (.returned (.tuple #[])) w ((w.setCell ⟨X,2,none⟩ (.int .i64 ((nd:Int)+1))).alloc (.cells #[x0,x1,x2,x3,x4,x5,x6,x7,x8,x9,x10,x11,x12,x13,x14,x15,x16,x17] 69)) wb.heap.size X V (.slice ba bn bc) (.slice za zn zc) R):=by
   unfold Hid VP
   rw [HR2.out]
   refine ⟨rfl,_,⟨?_,qB1,pV1⟩,ZU.refl _ _,kp⟩
   simpa using pX1
  clear HR HR2 kE kU pX1 pY1 pV1 qB1 hz9 kp bl
  go_enter Tryz.func35,Tryz.ntmps35
  go_wp2
  refine bodyPost_ret (by simp [results,Tryz.results35,go_sem];try rfl) rfl ?_
  exact HG.out
 have HR2:Hid (R=XJ rows m (Xu rows f) (Zj rows m 3) Z (UC rows m (bs,rn,nd))):=by rw [Hid,HR.out,if_neg h5]
 have h5':¬ (5000<(nd:Int)+1):=by omega
 have kEx:=kE ((w.setCell ⟨X,2,none⟩ (.int .i64 ((nd:Int)+1))).alloc (.cells #[x0,x1,x2,x3,x4,x5,x6,x7,x8,x9,x10,x11,x12,x13,x14,x15,x16,x17] 69)) bl w.heap.size pY1
 clear HR kE h5
 obtain ⟨g,hg⟩:∃ g,g=w.heap.size:=⟨_,rfl⟩
 have hgw:w.heap.size≤g:=by omega
 have HGZ:Hid (g=w.heap.size):=hg
 rw [← hg] at pY1 kEx hgY
 clear hg
 go_enter Tryz.func35,Tryz.ntmps35
 go_wp2_with fail
 rw [← HGZ.out]
 generalize ((w.setCell ⟨X,2,none⟩ (.int .i64 ((nd:Int)+1))).alloc (.cells #[x0,x1,x2,x3,x4,x5,x6,x7,x8,x9,x10,x11,x12,x13,x14,x15,x16,x17] 69))=w1 at *
 clear cX2 fX2 cX3 hw2 o0 o1 o2 o3 o4 o5 o6 o7 o8 o9 o10 o11 o12 o13 o14 o15 o16 o17
 refine kEx.mono ?_
 rintro e w2 ⟨⟨⟨la,ln,lc⟩,rfl,hL⟩,hb⟩
 have hLn:(Zj rows m 3).length=ln:=by have:=hL.1;simpa using this
 have hn3:ln≤3:=by rw [← hLn];exact YD rows m 3
 have HLS:Hid (Ap3 (.slice la ln lc) (.slice za zn zc)):=(Ap3.fresh hz9 hL (Nat.le_refl _)).symm
 replace pX1:=pX1.below hb
 replace pY1:=pY1.below hb
 replace pV1:=pV1.below hb
 replace qB1:=Ze qB1 hb
 replace hz9:=Ze hz9 hb
 replace kp:=kp.belowR hb
 replace bl:=Zb bl hb
 generalize w1.heap.size=bL at *
 clear hb kEx
 have kUx:=kU w2 bl g pY1
 by_cases hE:Zj rows m 3=[]
 ·obtain rfl:ln=0:=by rw [hE] at hLn;simpa using hLn.symm
  have cX1:w2.cell? ⟨X,1,none⟩=some (.int .i64 (rn:Int)):=by simpa using pX1.cell 1
  have fX1:=pX1.frozen 1
  have hw1:IntKind.i64.wrap ((rn:Int)+1)=(rn:Int)+1:=IntWalk.i64_in _ ⟨by omega,by omega⟩
  have gX1:=Zu w2 X 1 (.int .i64 ((rn:Int)+1))
  have pX2:Blk (w2.setCell ⟨X,1,none⟩ (.int .i64 ((rn:Int)+1))) X 31 [.slice ba bn bc,.int .i64 ((rn:Int)+1),.int .i64 ((nd:Int)+1)]:=pX1.set 1 (.int .i64 ((rn:Int)+1))
  have pY2:=pY1.kept gX1 (by simp;omega)
  have pV2:=pV1.kept gX1 (by simp;exact ZJ pX1 pV1 (by decide))
  have qB2:=qB1.kept gX1 (.inr (Zg qB1 pX1 (by decide)))
  have kp2:=kp.grX gX1
  have bl2:=bl.grown gX1 bl.size (fun q e=>by cases e;exact hBX)
  clear kUx pX1 pY1 pV1 qB1 hz9 kp bl gX1 HLS hL
  have kUx:=kU _ bl2 g pY2
  clear kU
  go_wp2_with fail
  generalize (w2.setCell ⟨X,1,none⟩ (.int .i64 ((rn:Int)+1)))=w3 at *
  clear cX1 fX1 hw1
  refine kUx.mono ?_
  rintro e w4 ⟨rfl,hb⟩
  replace pX2:=pX2.below hb
  replace pV2:=pV2.below hb
  replace qB2:=Ze qB2 hb
  replace kp2:=kp2.belowR hb
  replace bl2:=Zb bl2 hb
  clear hb kUx pY2
  cases hst:Xh rows m with
  | false =>
   have HG:Hid (VP (.returned (.tuple #[])) w w4 wb.heap.size X V (.slice ba bn bc) (.slice za zn zc) R):=by
    unfold Hid VP
    rw [HR2.out,hE]
    refine ⟨rfl,_,⟨?_,?_,pV2⟩,ZU.refl _ _,kp2⟩
    ·simpa [XJ,UC,hE] using pX2
    simpa [XJ,UC,XS,hst] using qB2
   clear HR2 pX2 pV2 qB2 kp2 bl2 hE hLn hst
   go_wp2_with fail
   go_loopw [35] (fun s35 wr=>s35=.int .i64 0∧w4=wr) (fun _ _=>0)
   case atStart=>exact ⟨rfl,rfl⟩
   case round =>
    obtain ⟨rfl,rfl⟩:=hrel
    go_wp2
    go_end0
    exact HG.out
  | true =>
   have cX0:w4.cell? ⟨X,0,none⟩=some (.slice ba bn bc):=by simpa using pX2.cell 0
   have hbz:=bl2.size
   go_wp2_with (at_builtin;refine wpList_append_own_at _ rfl _ _ 29 rfl wb.heap.size 90 i0 (.agg #[.int .i64 0,.int .i64 0,.int .i64 0]) 3 24 Tryz.underlying29 hi9 hz0 hz1 hz2 rfl (by decide) _ _ _ rfl (qB2.alloc _) ⟨w4.heap.size,0,none⟩ 1 1 [.int .i64 14,.int .i64 0,.int .i64 0] rfl rfl (Qk (Zo _ _ _ rfl)) (Vs _ _ _) ?c3 ?c4 ?c5 ?_)
   case c3=>unfold maxLen;omega
   case c4=>omega
   case c5=>first | (simp;omega) | omega
   intro v6 w5 q6 gr _ at6
   have ha:Below w4.heap.size w4 (w4.alloc (.cells #[.int .i64 14,.int .i64 0,.int .i64 0] 90)):=by go_grown
   have pX3:=(pX2.below ha).kept gr (Zg (Ze qB2 ha) (pX2.below ha) (by decide))
   have pV3:=(pV2.below ha).kept gr (Zg (Ze qB2 ha) (pV2.below ha) (by decide))
   have kp3:=(kp2.belowR ha).grB (ZU.refl w (.slice ba bn bc)) gr
   have mb3:ZU w (.slice ba bn bc) v6:=by
    rcases at6 with e6 | e6
    ·exact .inl e6
    exact .inr ⟨_,by have:=kp2.size;have:=ha.size;omega,e6⟩
   have cX4:w5.cell? ⟨X,0,none⟩=some (.slice ba bn bc):=by simpa using pX3.cell 0
   have fX4:=pX3.frozen 0
   have gX4:=Zu w5 X 0 v6
   have pX4:Blk (w5.setCell ⟨X,0,none⟩ v6) X 31 [v6,.int .i64 ((rn:Int)+1),.int .i64 ((nd:Int)+1)]:=pX3.set 0 v6
   have pV4:=pV3.kept gX4 (by simp;exact ZJ pX3 pV3 (by decide))
   have q7:=q6.kept gX4 (.inr (Zg q6 pX3 (by decide)))
   have kp4:=kp3.grX gX4
   have HG:Hid (VP (.returned (.tuple #[])) w (w5.setCell ⟨X,0,none⟩ v6) wb.heap.size X V (.slice ba bn bc) (.slice za zn zc) R):=by
    unfold Hid VP
    rw [HR2.out,hE]
    refine ⟨rfl,v6,⟨?_,?_,pV4⟩,mb3,kp4⟩
    ·simpa [XJ,UC,hE] using pX4
    have h9:=q7
    rw [show Zr bs++[.int .i64 14,.int .i64 0,.int .i64 0]=Zr (bs++[(14,0,0)]) from (RC bs (14,0,0)).symm] at h9
    simpa [XJ,UC,XS,hst] using h9
   obtain ⟨vb6,vn6,vc6,rfl⟩:=ZZ q6
   clear HR2 pX2 pX3 pX4 pV2 pV3 pV4 qB2 q6 q7 kp2 kp3 kp4 bl2 hE hLn hst gr at6 ha mb3 gX4 cX0
   go_wp2_with fail
   generalize (w5.setCell ⟨X,0,none⟩ (.slice vb6 vn6 vc6))=w6 at *
   clear cX4 fX4
   go_loopw [35] (fun s35 wr=>s35=.int .i64 0∧w6=wr) (fun _ _=>0)
   case atStart=>exact ⟨rfl,rfl⟩
   case round =>
    obtain ⟨rfl,rfl⟩:=hrel
    go_wp2
    go_end0
    exact HG.out
 have hst:Xh rows m=false:=by unfold Xh;simp [hE]
 rw [hst] at kUx
 have hln0:((ln:Int) == 0)=false:=by simp;intro e;exact hE (List.eq_nil_of_length_eq_zero (by omega))
 clear kU
 go_wp2_with fail
 refine kUx.mono ?_
 rintro e w3 ⟨rfl,hb⟩
 have hmu:((Zj rows m 3).length - 0)*XU f≤3*XU f:=Nat.mul_le_mul_right _ (by omega)
 have st0:On7 rows wb w w3 X V g bL f cs m (.slice ba bn bc) (.slice za zn zc) (.slice ba bn bc) (.slice za zn zc) (la,ln,lc) R 0 Z (bs,rn,nd+1):=by
  refine ⟨?_,hZ,by omega,by simp only;omega,by simp only;omega,by simp only;omega,?_,Ze qB1 hb,pV1.below hb,pY1.below hb,ZG.below hL hb,Ze hz9 hb,HLS.out,kp.belowR hb,ZU.refl _ _,ZU.refl _ _,Zb bl hb⟩
  ·rw [HR2.out]
   unfold UC XS
   rw [hst,if_neg hE]
   simp
  simpa using pX1.below hb
 clear HR2 hb kUx pX1 pY1 pV1 qB1 hz9 kp bl HLS hL hst hmu hZ hT hB4 hR9 hZl
 go_wp2_with fail
 go_loopw [1,35] (fun s1 s35 wr=>∃ (i:Nat) (Zi:List Int) (sti:St7) (bvi:Value),s35=.int .i64 i∧i≤ln∧On7 rows wb w wr X V g bL f cs m (.slice ba bn bc) (.slice za zn zc) bvi s1 (la,ln,lc) R i Zi sti) (fun _ s35 _=>ln - (intOf s35).toNat)
 case atStart=>exact ⟨0,Z,_,_,rfl,Nat.zero_le _,st0⟩
 case round =>
  clear st0
  obtain ⟨i,Zi,sti,bvi,rfl,hin,hO⟩:=hrel
  obtain ⟨ya,yn,yc,rfl⟩:=ZZ hO.zr
  obtain ⟨va,vn,vc,rfl⟩:=ZZ hO.br
  by_cases hlt:i<ln
  ·have hkj:(Zj rows m 3)[i]?=some ((Zj rows m 3).getD i 0):=by rw [List.getD,List.getElem?_eq_getElem (by omega)];rfl
   have hdr9:(Zj rows m 3).drop i=(Zj rows m 3).getD i 0::(Zj rows m 3).drop (i+1):=by rw [List.drop_eq_getElem_cons (by omega)];simp [List.getD,show i<(Zj rows m 3).length by omega]
   have hz:=Ya (List.mem_of_getElem? hkj)
   obtain ⟨h0k,h2k,hd,_⟩:=ZX hz
   obtain ⟨k,hk⟩:∃ k:Nat,(Zj rows m 3).getD i 0=(k:Int):=⟨_,(Int.toNat_of_nonneg h0k).symm⟩
   obtain ⟨lb,lo,rfl,hc,hlb⟩:=Y8 hO.ls.ints (show i<ln from hlt)
   rw [hk] at hkj hz hd h0k h2k hc hdr9
   rw [Int.toNat_natCast] at hd
   have hk3:k<3:=by omega
   clear hk hlb hkj
   obtain rfl:yn=Zi.length:=Hw hO.zr
   have hzi:YS .i64 wr ya Zi.length yc Zi:=ZG.ints (s:=(ya,Zi.length,yc)) hO.zr
   have hzl:=hO.zl
   have kC:=Ru ya Zi.length yc Zi (k:Int) wr hzi (by omega)
   have hlt3:(i:Int)<(ln:Int):=by omega
   have hi0:(0:Int)≤(i:Int):=by omega
   have HDR:Hid ((Zj rows m 3).drop i=(k:Int)::(Zj rows m 3).drop (i+1)):=hdr9
   clear hdr9 hzi
   by_cases hmem:(k:Int) ∈ Zi
   ·have st9:=hO.skip HDR.out hmem (by omega)
    rw [show decide ((k:Int) ∈ Zi)=true by simp [hmem]] at kC
    clear hO hmem HDR hz hd
    go_wp2_with fail
    refine kC.mono ?_
    rintro e w9 ⟨rfl,rfl⟩
    clear kC hc
    go_wp2
    go_roundw
    case rel=>exact ⟨i+1,Zi,sti,_,by go_num,by omega,st9⟩
    case measure=>simp [intOf];omega
   rw [show decide ((k:Int) ∈ Zi)=false by simp [hmem]] at kC
   have hx:=ZV hp hs hz
   have hlf:=YX hp hs hz
   have kT:=fun (W:World) (q:Nat) (h:Yj W q cs rows m)=>LV h hp hs hk3 hd
   rw [← Wq] at kT
   have kA:=fun (W:World) (b:Below wb.heap.size wb W) (h:Blk W g 69 (Zf cs.1.val cs.2.1.val cs.2.2.val m)) (hL:YS .i64 W ya Zi.length yc Zi)=>Qg ⟨h,fun q hq=>(hI q hq).below b⟩ hp hs hk3 hd ya Zi.length yc Zi hL (by omega) hO.ok
   have hown:Yr rows m (k:Int)=if (goM rows m (k:Int)).2=0 then [] else [((goM rows m (k:Int)).2,(k:Int),m.1.getD k 0)]:=by unfold Yr;rw [Int.toNat_natCast]
   have hzs:=GA (rows:=rows) (m:=m) (k:=k) hO.ok
   have hzl2:=Jn rows m Zi (k:Int)
   have HEQ:Hid (XJ rows m (Xu rows f) ((Zj rows m 3).drop (i+1)) (Zi++[(k:Int)]) (Xu rows f (goM rows m (k:Int)).1 (YM rows m Zi (k:Int)) (sti.1++Yr rows m (k:Int),sti.2))=R):=by
    have h9:=hO.eq
    rw [HDR.out,Ux hmem] at h9
    exact h9
   have hok2:=Gg hO.ok hk3 hd
   have hrm:=hO.rm
   have hb4:=hO.bl4
   have hrl:=hO.rl
   have hmu:((Zj rows m 3).length - i)*XU f=((Zj rows m 3).length - (i+1))*XU f+XU f:=by rw [show (Zj rows m 3).length - i=((Zj rows m 3).length - (i+1))+1 by omega,Nat.succ_mul]
   have hol:=Lz rows m (k:Int)
   have hcan:Fz rows f (goM rows m (k:Int)).1 (YM rows m Zi (k:Int)) (sti.1++Yr rows m (k:Int),sti.2):=⟨hx,by omega,hzs,by omega,by simp only;omega,by simp only [List.length_append];omega,hrl⟩
   have hsr:=Sv rows f (goM rows m (k:Int)).1 (YM rows m Zi (k:Int)) (sti.1++Yr rows m (k:Int),sti.2)
   have hss:=Sx rows f (goM rows m (k:Int)).1 (YM rows m Zi (k:Int)) (sti.1++Yr rows m (k:Int),sti.2) ((Zj rows m 3).length - (i+1)) (by simp only [List.length_append];omega) hrl
   have kV:=ih _ _ _ hcan
   simp only at hsr
   have HST:Hid (F3 rows f m (i+1) (Zj rows m 3).length (Xu rows f (goM rows m (k:Int)).1 (YM rows m Zi (k:Int)) (sti.1++Yr rows m (k:Int),sti.2)) (Zi++[(k:Int)])):=⟨hok2,by rw [List.length_append];simp only [List.length_cons,List.length_nil];omega,by omega,by omega,hss.2⟩
   have hnb:sti.1.length≤4000000000:=by omega
   clear hcan hsr hss hok2 hzs hrm hmu hol hx hlf hmem HDR
   generalize Xu rows f (goM rows m (k:Int)).1 (YM rows m Zi (k:Int)) (sti.1++Yr rows m (k:Int),sti.2)=st2 at *
   generalize YM rows m Zi (k:Int)=Zs at *
   generalize Yr rows m (k:Int)=ow at *
   generalize goM rows m (k:Int)=zf at *
   obtain ⟨z,f9⟩:=zf
   simp only at kT kV hown
   have HOW:Hid (ow=if f9=0 then [] else [(f9,(k:Int),m.1.getD k 0)]):=hown
   clear hown
   generalize m.1.getD k 0=pc at *
   clear hz hd
   go_wp2_with fail
   refine kC.mono ?_
   rintro e w9 ⟨rfl,rfl⟩
   clear kC hc
   have pM:=hO.mc
   have pN:=Blk.new wr 69 [.slice none 0 0,.int .i64 0,.int .i64 0,.int .i64 0,.slice none 0 0,.int .i64 0,.int .i64 0,.int .i64 0,.slice none 0 0,.int .i64 0,.int .i64 0,.int .i64 0,.int .i64 0,.int .i64 0,.int .i64 0,.int .i64 0,.int .i64 0,.int .i64 0]
   have hbN:Below wr.heap.size wr (wr.alloc (.cells #[.slice none 0 0,.int .i64 0,.int .i64 0,.int .i64 0,.slice none 0 0,.int .i64 0,.int .i64 0,.int .i64 0,.slice none 0 0,.int .i64 0,.int .i64 0,.int .i64 0,.int .i64 0,.int .i64 0,.int .i64 0,.int .i64 0,.int .i64 0,.int .i64 0] 69)):=by go_grown
   replace pM:=pM.below hbN
   go_wp2_with (first | refine Zc rfl 69 _ rfl g rfl hO.mc _ Tryz.underlying69 rfl (by kernel_rfl) ?_ | refine Zc rfl 69 _ rfl g rfl pM _ Tryz.underlying69 rfl (by kernel_rfl) ?_ | refine Zd rfl 69 _ _ rfl wr.heap.size (Zf cs.1.val cs.2.1.val cs.2.2.val m) rfl rfl pN (by kernel_rfl) rfl rfl ?_)
   intro u1 p1 g1
   have pZ:=p1.out
   have bz:Below wr.heap.size wr u1:=hbN.grown g1 hbN.size (fun q e=>by cases e;exact Nat.le_refl _)
   clear p1 g1 hbN pN pM
   obtain ⟨N,hN⟩:∃ N,N=wr.heap.size:=⟨_,rfl⟩
   rw [← hN] at pZ ⊢
   have hZw:wr.heap.size≤N:=by omega
   clear hN
   have kTx:=kT u1 N ⟨pZ,fun q hq=>(hI q hq).below (Zb hO.bl bz)⟩
   clear kT
   go_wp2_with fail
   refine kTx.mono ?_
   rintro e u2 ⟨rfl,pZ2,g2⟩
   have b2:Below wr.heap.size wr u2:=bz.grown g2 bz.size (fun q e=>by cases e;exact hZw)
   clear kTx pZ bz g2
   have pN:=Blk.new u2 90 [.int .i64 0,.int .i64 0,.int .i64 0]
   have hbN:Below u2.heap.size u2 (u2.alloc (.cells #[.int .i64 0,.int .i64 0,.int .i64 0] 90)):=by go_grown
   go_wp2_with (refine Zd rfl 90 _ _ rfl u2.heap.size [.int .i64 f9,.int .i64 (k:Int),.int .i64 pc] rfl rfl pN (by kernel_rfl) rfl rfl ?_)
   intro u3 p3 g3
   have pG:=p3.out
   have b3:Below u2.heap.size u2 u3:=hbN.grown g3 hbN.size (fun q e=>by cases e;exact Nat.le_refl _)
   replace pZ2:=pZ2.below b3
   have bz:=Zb b2 b3
   clear p3 g3 hbN pN b2 b3
   generalize u2.heap.size=G at *
   have bx:=hO.bx.below bz
   have br:=Ze hO.br bz
   have vx:=hO.vx.below bz
   have mc:=hO.mc.below bz
   have ls:=hO.ls.below bz
   have zr:=Ze hO.zr bz
   have az:=hO.az
   have kp:=hO.kp.belowR bz
   have mb:=hO.mb
   have ms:=hO.ms
   have bl:=Zb hO.bl bz
   clear hO bz
   have cG:u3.cell? ⟨G,0,none⟩=some (.int .i64 f9):=by simpa using pG.cell 0
   have hbsz:=bl.size
   by_cases hf0:f9=0
   ·have HOW2:Hid (ow=[]):=by rw [Hid,HOW.out,if_pos hf0]
    have hfn:(f9 != 0)=false:=by simp [hf0]
    clear hf0 HOW pG
    have br2:u3.ownsRow wb.heap.size 90 3 (.slice va vn vc) (sti.1++ow).length (Zr (sti.1++ow)):=by rw [HOW2.out,List.append_nil];exact br
    clear br HOW2
    go_wp2_with fail
    clear cG hfn
    have hdr:Below u3.heap.size u3 u3.drew:=by go_grown
    refine wp_region_held_drew (S:=(fun w'=>w'.cell? ⟨V,0,none⟩=some (.func (.func 35) #[] #[.pointer (some ⟨X,0,none⟩),.pointer (some ⟨V,0,none⟩)])∧w'.rangeAt N 0 (Zf cs.1.val cs.2.1.val cs.2.2.val z))) (by kernel_rfl) ⟨by simpa using vx.cell 0,Yt pZ2⟩ (fun hS0=>?_)
    refine tkm 0 54 (.func (.func 35) #[] #[.pointer (some ⟨X,0,none⟩),.pointer (some ⟨V,0,none⟩)]) ?_
    refine wpAnyH_take (i:=1) (oi:=⟨some 55,_,_,_,_,_⟩) (v:=.agg (Zf cs.1.val cs.2.1.val cs.2.2.val z).toArray) rfl (by kernel_rfl) (by kernel_rfl) (by kernel_rfl) (fun _ _ _ h=>h) (yieldsIf_load_mid (by rfl) 69 _ rfl N 0 rfl (Zf cs.1.val cs.2.1.val cs.2.2.val z) _ (fun _ h=>h.2) Tryz.underlying69 rfl (by kernel_rfl)) (by assumption) ?_
    simp only [Act.put,tka,tkb,tkc]
    refine tkm 2 56 (.slice ya (Zi.length) yc) ?_
    refine tkm 3 57 (.int .i64 (k:Int)) ?_
    replace bx:=bx.below hdr
    replace br2:=Ze br2 hdr
    replace vx:=vx.below hdr
    replace mc:=mc.below hdr
    replace ls:=ls.below hdr
    replace zr:=Ze zr hdr
    replace kp:=kp.belowR hdr
    replace bl:=Zb bl hdr
    replace pZ2:=pZ2.below hdr
    clear hdr
    generalize u3.drew=D0 at *
    have kAx:=kA D0 bl mc (ZG.ints (s:=(ya,Zi.length,yc)) zr)
    clear kA
    refine tkr 4 58 (fun K hK=>?_)
    go_simp
    refine kAx.mono ?_
    rintro e D1 ⟨⟨uv,rfl,qU⟩,hb1⟩
    have apZ:=Ap3.fresh zr qU (Nat.le_refl _)
    have apL:=Ap3.fresh ls qU (Nat.le_refl _)
    have huv:∀ q,uv.ownBlock=some q→w.heap.size≤q:=fun q hq=>Nat.le_trans kp.size (ZM qU hq).1
    have qU2:=ZY (B':=wb.heap.size) qU bl.size
    replace bx:=bx.below hb1
    replace br2:=Ze br2 hb1
    replace vx:=vx.below hb1
    replace mc:=mc.below hb1
    replace ls:=ls.below hb1
    replace zr:=Ze zr hb1
    replace kp:=kp.belowR hb1
    replace bl:=Zb bl hb1
    replace pZ2:=pZ2.below hb1
    clear kAx hb1 qU
    obtain ⟨ua,un,uc,rfl⟩:=ZZ qU2
    go_wp2_with fail
    refine hK.out _ _ ⟨by simpa using vx.cell 0,Yt pZ2⟩ (fun hS1=>?_)
    clear hK
    try simp only [Act.put,tka,tkb,tkc]
    have kVx:=kV D1 (.slice va vn vc) (.slice ua un uc) bl ⟨bx,br2,vx⟩ qU2
    clear kV
    refine tkr 5 59 (fun K hK=>?_)
    go_simp
    refine kVx.mono ?_
    rintro e D2 ⟨rfl,bv2,⟨bx2,br3,vx2⟩,mb2,kp2⟩
    have mc2:=kp2.blk br2 qU2 bx mc (by decide) (by decide) (by decide)
    have pZ3:=kp2.blk br2 qU2 bx pZ2 (by decide) (by decide) (by decide)
    have ls2:ZG D2 bL (some ⟨lb,lo,none⟩,ln,lc) (Zj rows m 3):=kp2.row br2 bx ls apL
    have zr2:=kp2.row br2 bx zr apZ
    have bl2:Below wb.heap.size wb D2:=bl.trans (kp2.below hBX (fun q hq=>(ZM br2 hq).1) (fun q hq=>(ZM qU2 hq).1) bl.size)
    have kp3:=kp.call mb kp2 huv
    have mb3:=mb.trans kp.size mb2
    clear kVx bx br2 vx mc ls zr kp bl pZ2 qU2 apZ apL huv mb2 kp2 mb
    go_wp2_with fail
    refine hK.out _ _ ⟨by simpa using vx2.cell 0,Yt pZ3⟩ (fun hS2=>?_)
    clear hK
    try simp only [Act.put,tka,tkb,tkc]
    refine wpAnyH_done (by kernel_rfl) ?_ _
    clear hS0 hS1 hS2 pZ3
    have hzb:=bl2.size
    go_wp2_with (at_builtin;refine wpList_append_own_at _ rfl _ _ 72 rfl wb.heap.size 3 i1 (.int .i64 0) 1 8 Tryz.underlying72 hi1 hy0 hy1 hy2 rfl (by decide) _ _ _ rfl (zr2.alloc _) ⟨D2.heap.size,0,none⟩ 1 1 [.int .i64 (k:Int)] rfl rfl (cell_one_new _ _ _) (by simp [Value.oneCell']) ?c3 ?c4 ?c5 ?_)
    case c3=>unfold maxLen;omega
    case c4=>omega
    case c5=>first | (simp;omega) | omega
    intro sv7 D3 q7 gr7 _ at7
    have ha7:Below D2.heap.size D2 (D2.alloc (.cells #[.int .i64 (k:Int)] 3)):=by go_grown
    have zr7:=Ze zr2 ha7
    have bx7:=bx2.below ha7
    have vx7:=vx2.below ha7
    have mc7:=mc2.below ha7
    have br7:=Ze br3 ha7
    have st9:On7 rows wb w D3 X V g bL f cs m (.slice ba bn bc) (.slice za zn zc) bv2 sv7 (some ⟨lb,lo,none⟩,ln,lc) R (i+1) (Zi++[(k:Int)]) st2:=by
     obtain ⟨s1,s2,s3,s4,s5⟩:=HST.out
     refine ⟨HEQ.out,s1,s2,s3,s4,s5,bx7.kept gr7 (Zg zr7 bx7 (by decide)),br7.kept gr7 (Ap3.types br7 zr7 (by decide)).or,vx7.kept gr7 (Zg zr7 vx7 (by decide)),mc7.kept gr7 (Zg zr7 mc7 (by decide)),World.ownsRow.kept (ZG.below ls2 ha7) gr7 az.or,?_,?_,(kp3.belowR ha7).grS ms gr7,mb3,?_,(Zb bl2 ha7).grown gr7 (Zb bl2 ha7).size (fun q hq=>(ZM zr7 hq).1)⟩
     ·rw [List.length_append,List.map_append]
      exact q7
     ·exact Ap3.moved (ZG.below ls2 ha7) az (by rw [World.size_alloc];exact at7)
     exact Sf ms (Nat.le_trans kp3.size ha7.size) (by rw [World.size_alloc];exact at7)
    obtain ⟨sa7,sn7,sc7,rfl⟩:=ZZ q7
    clear HST HEQ q7 gr7 at7 ha7 zr7 bx7 vx7 mc7 br7 bx2 br3 vx2 mc2 ls2 zr2 az kp3 mb3 ms bl2
    go_wp2
    go_roundw
    case rel=>exact ⟨i+1,_,st2,_,by go_num,by omega,st9⟩
    case measure=>simp [intOf];omega
   have HOW2:Hid (ow=[(f9,(k:Int),pc)]):=by rw [Hid,HOW.out,if_neg hf0]
   have hfn:(f9 != 0)=true:=by simp [hf0]
   clear hf0 HOW
   have cX0:u3.cell? ⟨X,0,none⟩=some (.slice va vn vc):=by simpa using bx.cell 0
   go_wp2_with (first | refine Zc rfl 90 _ rfl G rfl pG _ Tryz.underlying90 rfl (by kernel_rfl) ?_ | (at_builtin;refine wpList_append_own_at _ rfl _ _ 29 rfl wb.heap.size 90 i0 (.agg #[.int .i64 0,.int .i64 0,.int .i64 0]) 3 24 Tryz.underlying29 hi9 hz0 hz1 hz2 rfl (by decide) _ _ _ rfl (br.alloc _) ⟨u3.heap.size,0,none⟩ 1 1 [.int .i64 f9,.int .i64 (k:Int),.int .i64 pc] rfl rfl (Qk (Zo _ _ _ rfl)) (Vs _ _ _) ?c3 ?c4 ?c5 ?_))
   case c3=>unfold maxLen;omega
   case c4=>omega
   case c5=>first | (simp;omega) | omega
   intro v6 u5 q6 gr _ at6
   have ha:Below u3.heap.size u3 (u3.alloc (.cells #[.int .i64 f9,.int .i64 (k:Int),.int .i64 pc] 90)):=by go_grown
   have br0:=Ze br ha
   have bx0:=bx.below ha
   have vx0:=vx.below ha
   have mc0:=mc.below ha
   have zr0:=Ze zr ha
   have pZ0:=pZ2.below ha
   have bx1:=bx0.kept gr (Zg br0 bx0 (by decide))
   have vx1:=vx0.kept gr (Zg br0 vx0 (by decide))
   have mc1:=mc0.kept gr (Zg br0 mc0 (by decide))
   have pZ1:=pZ0.kept gr (Zg br0 pZ0 (by decide))
   have ls0:ZG (u3.alloc (.cells #[.int .i64 f9,.int .i64 (k:Int),.int .i64 pc] 90)) bL (some ⟨lb,lo,none⟩,ln,lc) (Zj rows m 3):=ZG.below ls ha
   have ls1:ZG u5 bL (some ⟨lb,lo,none⟩,ln,lc) (Zj rows m 3):=World.ownsRow.kept ls0 gr (Ap3.types ls0 br0 (by decide)).or
   have zr1:=zr0.kept gr (Ap3.types zr0 br0 (by decide)).or
   have kp1:=(kp.belowR ha).grB mb gr
   have mb1:=Sf mb (Nat.le_trans kp.size ha.size) (by rw [World.size_alloc];exact at6)
   have bl1:=(Zb bl ha).grown gr (Zb bl ha).size (fun q hq=>(ZM br0 hq).1)
   have cX4:u5.cell? ⟨X,0,none⟩=some (.slice va vn vc):=by simpa using bx1.cell 0
   have fX4:=bx1.frozen 0
   have gX4:=Zu u5 X 0 v6
   have bx4:Blk (u5.setCell ⟨X,0,none⟩ v6) X 31 [v6,.int .i64 (sti.2.1:Int),.int .i64 (sti.2.2:Int)]:=bx1.set 0 v6
   have vx4:=vx1.kept gX4 (by simp;exact ZJ bx1 vx1 (by decide))
   have mc4:=mc1.kept gX4 (by simp;exact ZJ bx1 mc1 (by decide))
   have pZ4:=pZ1.kept gX4 (by simp;exact ZJ bx1 pZ1 (by decide))
   have q7:=q6.kept gX4 (.inr (Zg q6 bx1 (by decide)))
   have ls4:ZG (u5.setCell ⟨X,0,none⟩ v6) bL (some ⟨lb,lo,none⟩,ln,lc) (Zj rows m 3):=World.ownsRow.kept ls1 gX4 (.inr (Zg ls1 bx1 (by decide)))
   have zr4:=zr1.kept gX4 (.inr (Zg zr1 bx1 (by decide)))
   have kp4:=kp1.grX gX4
   have bl4:=bl1.grown gX4 bl1.size (fun q e=>by cases e;exact hBX)
   have br2:(u5.setCell ⟨X,0,none⟩ v6).ownsRow wb.heap.size 90 3 v6 (sti.1++ow).length (Zr (sti.1++ow)):=by rw [HOW2.out,RC,List.length_append];exact q7
   obtain ⟨vb6,vn6,vc6,rfl⟩:=ZZ q6
   clear bx br vx mc ls zr kp mb bl pZ2 br0 bx0 vx0 mc0 zr0 pZ0 bx1 vx1 mc1 pZ1 ls0 ls1 zr1 kp1 bl1 q6 q7 gr at6 ha gX4 HOW2 cX0 pG
   go_wp2_with fail
   generalize (u5.setCell ⟨X,0,none⟩ (.slice vb6 vn6 vc6))=u6 at *
   clear cX4 fX4 cG hfn
   have bx:=bx4
   have vx:=vx4
   have mc:=mc4
   have pZ2:=pZ4
   have ls:=ls4
   have zr:=zr4
   have kp:=kp4
   have mb:=mb1
   have bl:=bl4
   clear bx4 vx4 mc4 pZ4 ls4 zr4 kp4 mb1 bl4
   have hdr:Below u6.heap.size u6 u6.drew:=by go_grown
   refine wp_region_held_drew (S:=(fun w'=>w'.cell? ⟨V,0,none⟩=some (.func (.func 35) #[] #[.pointer (some ⟨X,0,none⟩),.pointer (some ⟨V,0,none⟩)])∧w'.rangeAt N 0 (Zf cs.1.val cs.2.1.val cs.2.2.val z))) (by kernel_rfl) ⟨by simpa using vx.cell 0,Yt pZ2⟩ (fun hS0=>?_)
   refine tkm 0 54 (.func (.func 35) #[] #[.pointer (some ⟨X,0,none⟩),.pointer (some ⟨V,0,none⟩)]) ?_
   refine wpAnyH_take (i:=1) (oi:=⟨some 55,_,_,_,_,_⟩) (v:=.agg (Zf cs.1.val cs.2.1.val cs.2.2.val z).toArray) rfl (by kernel_rfl) (by kernel_rfl) (by kernel_rfl) (fun _ _ _ h=>h) (yieldsIf_load_mid (by rfl) 69 _ rfl N 0 rfl (Zf cs.1.val cs.2.1.val cs.2.2.val z) _ (fun _ h=>h.2) Tryz.underlying69 rfl (by kernel_rfl)) (by assumption) ?_
   simp only [Act.put,tka,tkb,tkc]
   refine tkm 2 56 (.slice ya (Zi.length) yc) ?_
   refine tkm 3 57 (.int .i64 (k:Int)) ?_
   replace bx:=bx.below hdr
   replace br2:=Ze br2 hdr
   replace vx:=vx.below hdr
   replace mc:=mc.below hdr
   replace ls:=ls.below hdr
   replace zr:=Ze zr hdr
   replace kp:=kp.belowR hdr
   replace bl:=Zb bl hdr
   replace pZ2:=pZ2.below hdr
   clear hdr
   generalize u6.drew=D0 at *
   have kAx:=kA D0 bl mc (ZG.ints (s:=(ya,Zi.length,yc)) zr)
   clear kA
   refine tkr 4 58 (fun K hK=>?_)
   go_simp
   refine kAx.mono ?_
   rintro e D1 ⟨⟨uv,rfl,qU⟩,hb1⟩
   have apZ:=Ap3.fresh zr qU (Nat.le_refl _)
   have apL:=Ap3.fresh ls qU (Nat.le_refl _)
   have huv:∀ q,uv.ownBlock=some q→w.heap.size≤q:=fun q hq=>Nat.le_trans kp.size (ZM qU hq).1
   have qU2:=ZY (B':=wb.heap.size) qU bl.size
   replace bx:=bx.below hb1
   replace br2:=Ze br2 hb1
   replace vx:=vx.below hb1
   replace mc:=mc.below hb1
   replace ls:=ls.below hb1
   replace zr:=Ze zr hb1
   replace kp:=kp.belowR hb1
   replace bl:=Zb bl hb1
   replace pZ2:=pZ2.below hb1
   clear kAx hb1 qU
   obtain ⟨ua,un,uc,rfl⟩:=ZZ qU2
   go_wp2_with fail
   refine hK.out _ _ ⟨by simpa using vx.cell 0,Yt pZ2⟩ (fun hS1=>?_)
   clear hK
   try simp only [Act.put,tka,tkb,tkc]
   have kVx:=kV D1 (.slice vb6 vn6 vc6) (.slice ua un uc) bl ⟨bx,br2,vx⟩ qU2
   clear kV
   refine tkr 5 59 (fun K hK=>?_)
   go_simp
   refine kVx.mono ?_
   rintro e D2 ⟨rfl,bv2,⟨bx2,br3,vx2⟩,mb2,kp2⟩
   have mc2:=kp2.blk br2 qU2 bx mc (by decide) (by decide) (by decide)
   have pZ3:=kp2.blk br2 qU2 bx pZ2 (by decide) (by decide) (by decide)
   have ls2:ZG D2 bL (some ⟨lb,lo,none⟩,ln,lc) (Zj rows m 3):=kp2.row br2 bx ls apL
   have zr2:=kp2.row br2 bx zr apZ
   have bl2:Below wb.heap.size wb D2:=bl.trans (kp2.below hBX (fun q hq=>(ZM br2 hq).1) (fun q hq=>(ZM qU2 hq).1) bl.size)
   have kp3:=kp.call mb kp2 huv
   have mb3:=mb.trans kp.size mb2
   clear kVx bx br2 vx mc ls zr kp bl pZ2 qU2 apZ apL huv mb2 kp2 mb
   go_wp2_with fail
   refine hK.out _ _ ⟨by simpa using vx2.cell 0,Yt pZ3⟩ (fun hS2=>?_)
   clear hK
   try simp only [Act.put,tka,tkb,tkc]
   refine wpAnyH_done (by kernel_rfl) ?_ _
   clear hS0 hS1 hS2 pZ3
   have hzb:=bl2.size
   go_wp2_with (at_builtin;refine wpList_append_own_at _ rfl _ _ 72 rfl wb.heap.size 3 i1 (.int .i64 0) 1 8 Tryz.underlying72 hi1 hy0 hy1 hy2 rfl (by decide) _ _ _ rfl (zr2.alloc _) ⟨D2.heap.size,0,none⟩ 1 1 [.int .i64 (k:Int)] rfl rfl (cell_one_new _ _ _) (by simp [Value.oneCell']) ?c3 ?c4 ?c5 ?_)
   case c3=>unfold maxLen;omega
   case c4=>omega
   case c5=>first | (simp;omega) | omega
   intro sv7 D3 q7 gr7 _ at7
   have ha7:Below D2.heap.size D2 (D2.alloc (.cells #[.int .i64 (k:Int)] 3)):=by go_grown
   have zr7:=Ze zr2 ha7
   have bx7:=bx2.below ha7
   have vx7:=vx2.below ha7
   have mc7:=mc2.below ha7
   have br7:=Ze br3 ha7
   have st9:On7 rows wb w D3 X V g bL f cs m (.slice ba bn bc) (.slice za zn zc) bv2 sv7 (some ⟨lb,lo,none⟩,ln,lc) R (i+1) (Zi++[(k:Int)]) st2:=by
    obtain ⟨s1,s2,s3,s4,s5⟩:=HST.out
    refine ⟨HEQ.out,s1,s2,s3,s4,s5,bx7.kept gr7 (Zg zr7 bx7 (by decide)),br7.kept gr7 (Ap3.types br7 zr7 (by decide)).or,vx7.kept gr7 (Zg zr7 vx7 (by decide)),mc7.kept gr7 (Zg zr7 mc7 (by decide)),World.ownsRow.kept (ZG.below ls2 ha7) gr7 az.or,?_,?_,(kp3.belowR ha7).grS ms gr7,mb3,?_,(Zb bl2 ha7).grown gr7 (Zb bl2 ha7).size (fun q hq=>(ZM zr7 hq).1)⟩
    ·rw [List.length_append,List.map_append]
     exact q7
    ·exact Ap3.moved (ZG.below ls2 ha7) az (by rw [World.size_alloc];exact at7)
    exact Sf ms (Nat.le_trans kp3.size ha7.size) (by rw [World.size_alloc];exact at7)
   obtain ⟨sa7,sn7,sc7,rfl⟩:=ZZ q7
   clear HST HEQ q7 gr7 at7 ha7 zr7 bx7 vx7 mc7 br7 bx2 br3 vx2 mc2 ls2 zr2 az kp3 mb3 ms bl2
   go_wp2
   go_roundw
   case rel=>exact ⟨i+1,_,st2,_,by go_num,by omega,st9⟩
   case measure=>simp [intOf];omega
  obtain rfl:i=ln:=by omega
  have hnl:¬ ((i:Int)<(i:Int)):=by omega
  have HG:Hid (VP (.returned (.tuple #[])) w wr wb.heap.size X V (.slice ba bn bc) (.slice za zn zc) R):=by
   have h9:=hO.eq
   rw [List.drop_of_length_le (by omega)] at h9
   unfold XJ at h9
   rw [← h9]
   exact ⟨rfl,_,⟨hO.bx,hO.br,hO.vx⟩,hO.mb,hO.kp⟩
  clear hO
  go_wp2
  go_end0
  exact HG.out
theorem Mo {rows:List (List I3)} {wb:World} {X V:Nat} {cs:Sl × Sl × Sl} (hp:Zn rows=true) (hI:∀ k,k<3→ZK wb (slK cs k).1 (slK cs k).2.1 (slK cs k).2.2 (Yn rows k)) (hBX:wb.heap.size≤X):∀ f,JK rows wb X V cs f
 | 0=>fun m Z st h=>absurd h.2.1 (Nat.not_lt_zero _)
 | f+1=>M8 hp hI hBX (Mo hp hI hBX f)
end Go.Proofs.YtmhlokahmblboaaGreatDoor
