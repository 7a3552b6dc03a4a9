/-
  Joined: NorS.
-/
import Derived.Test.YtmhlokahmblboaaGreatDoorK39

namespace Go.Proofs.YtmhlokahmblboaaGreatDoor
set_option maxRecDepth 100000
set_option maxHeartbeats 16000000
open Go.RowKit
set_option linter.unusedVariables false
set_option linter.unusedSimpArgs false

theorem SK {w:World} {B e s n:Nat} {v:Value} {xs:List Value} (h:w.ownsRow B e s v n xs):∃ a cap,v=.slice a n cap:=by
 rcases h.2 with ⟨rfl,rfl⟩ | ⟨g,cap,cur,rfl,_⟩
 ·exact ⟨_,_,rfl⟩
 exact ⟨_,_,rfl⟩
noncomputable def V5 (es:List I4):List Int:=(stS (YI (Z8 es)) (thE es) es.length es.length).2.map (fun t:Nat=>(t:Int))
noncomputable def stN (es:List I4) (s:Nat):(Nat→Bool) × List Nat:=stS (YI (Z8 es)) (thE es) es.length s
def P3:Option Nat→Int
 | none=>-1
 | some b=>b
def FB (e:Ending) (w:World) (B:Nat) (ks:List Int):Prop:=∃ v,e=.returned v∧w.ownsRow B 3 1 v ks.length (ks.map (Value.int .i64))
def Rh (w wr:World) (gO gU:Nat) (es:List I4) (n s:Nat) (vo:Value):Prop:=
 Blk wr gO 4 (XK n (YI (Z8 es)))∧Blk wr gU 4 (tab n fun j=>.bool ((stN es s).1 j))∧wr.ownsRow w.heap.size 3 1 vo s (((stN es s).2.map (fun t:Nat=>(t:Int))).map (Value.int .i64))∧Below w.heap.size w wr∧gO<wr.heap.size
def F2:Value→Nat
 | .slice _ n _=>n
 | _=>0
theorem Rh.drewN {w wr:World} {gO gU:Nat} {es:List I4} {n s:Nat} {vo:Value} (h:Rh w wr gO gU es n s vo) (d:Nat):Rh w (wr.drewN d) gO gU es n s vo:=
 ⟨h.1.drewN d,h.2.1.drewN d,Ze h.2.2.1 (Z3 d),Zb h.2.2.2.1 (Z3 d),h.2.2.2.2⟩
theorem WC (ok:Nat→Bool) (th:Nat→Nat) (k:Nat):Xb ok th (k+1)=if ok k then (match Xb ok th k with | none=>some k | some b=>if th k<th b then some k else some b) else Xb ok th k:=rfl
theorem P4 {ok:Nat→Bool} {th:Nat→Nat}:∀ k b,Xb ok th k=some b→b<k
 | 0,b,h=>by cases h
 | k+1,b,h=>by
  rw [WC] at h
  have ih:=P4 (ok:=ok) (th:=th) k
  split at h
  ·split at h
   ·cases h;omega
   rename_i b' hb'
   have:=ih b' hb'
   split at h<;>(cases h;omega)
  have:=ih b h;omega
theorem To {w0 w:World} {a:Option Addr} {n:Nat} {es:List I4} (h:Evs w0 a n es) (hb:Below w0.heap.size w0 w) {k:Nat} (hk:k<n):∃ ge,a=some ⟨ge,0,none⟩∧ge<w0.heap.size∧w.cell? ⟨ge,k*4,none⟩=some (.int .i64 (Xv es k).1)∧w.cell? ⟨ge,k*4+1,none⟩=some (.int .i64 (Xv es k).2.1)∧w.cell? ⟨ge,k*4+2,none⟩=some (.int .i64 (Xv es k).2.2.1)∧w.cell? ⟨ge,k*4+3,none⟩=some (.int .i64 (Xv es k).2.2.2):=by
 obtain ⟨h1,h2,h3 | ⟨ge,rfl,hgl,hce⟩⟩:=h
 ·clear h2;omega
 obtain ⟨c0,c1,c2,c3⟩:=hce k hk
 exact ⟨ge,rfl,hgl,(hb.cell (p:=⟨ge,_,none⟩) hgl).trans c0,(hb.cell (p:=⟨ge,_,none⟩) hgl).trans c1,(hb.cell (p:=⟨ge,_,none⟩) hgl).trans c2,(hb.cell (p:=⟨ge,_,none⟩) hgl).trans c3⟩
theorem LJ {es:List I4} (h:YH es) (s:Nat) (hs:s≤es.length):(stN es s).2.length=s:=by
 induction s with
 | zero=>rfl
 | succ s ih =>
  obtain ⟨_,_,_,h4⟩:=WA (D:=Z8 es) (B:=YI (Z8 es)) (Wd h) (Xt h) (n:=es.length) (fun i k _ _=>XQ) s (by omega)
  obtain ⟨b,hb,_⟩:=h4 (by omega)
  unfold stN
  rw [Qc hb]
  simp only [List.length_append,List.length_singleton]
  have:=ih (by omega)
  unfold stN at this
  rw [this]

theorem PJ (a:Option Addr) (n c:Nat) (es:List I4) (w:World) (h:Evs w a n es) (hn:n≤4096) (hI:YH es) :
  Calls Tryz.prog 83 #[.slice a n c] w fun e w'=>FB e w' w.heap.size (V5 es)∧Below w.heap.size w w':=by
 obtain ⟨i0,hi9,hz0,hz1,hz2⟩:=info_parts RE
 obtain ⟨i1,hi,hz3,hz4,hz5⟩:=info_parts Xc
 obtain ⟨N,hN⟩:∃ N,N=n*n:=⟨_,rfl⟩
 have hNb:N≤16777216:=by rw [hN];exact Nat.mul_le_mul hn hn
 have HN:Hid (N=n*n):=hN
 have HL:Hid (es.length=n):=h.1
 have kO:=ND a n c es w h hn
 unfold Mp at kO
 rw [← hN] at kO
 clear hN
 go_enter Tryz.func83,Tryz.ntmps83
 go_wp2_with fail
 refine kO.mono ?_
 rintro e w1 ⟨gO,rfl,pO,hgO,bw⟩
 clear kO
 have hsz1:=bw.size
 go_wp2_with (at_make;refine wpList_make_full _ rfl _ _ 216 rfl w.heap.size 4 i0 (.bool false) 1 Tryz.underlying216 hi9 hz0 hz1 _ _ _ _ n rfl rfl rfl rfl ?b2 ?b3 ?b4 ?_)
 case b2=>rw [hz2];omega
 case b3=>unfold maxLen;omega
 case b4=>exact hsz1
 intro w2 hown hgrow
 rw [NM] at hown
 have ha:Below w1.heap.size w1 w2:=⟨hgrow.os,hgrow.tape,hgrow.output,hgrow.size,fun k hk=>hgrow.block k hk (by simp)⟩
 have pU:Hid (Blk w2 w1.heap.size 4 (tab n fun j=>.bool ((stN es 0).1 j))):=(VR hown).1
 have pO2:=pO.below ha
 have hOU:gO<w1.heap.size:=pO.lt
 replace bw:=Zb bw ha
 have hbn:Below w2.heap.size w2 (w2.alloc (.cells #[] 3)):=by go_grown
 have q:=Yv w2 3 1 w.heap.size bw.size
 have pU2:=pU.out.below hbn
 replace pO2:=pO2.below hbn
 replace bw:=Zb bw hbn
 have hU2:=pU2.lt
 have st:Rh w (w2.alloc (.cells #[] 3)) gO w1.heap.size es n 0 (.slice (some ⟨w2.heap.size,0,none⟩) 0 0):=⟨pO2,pU2,q,bw,by omega⟩
 clear hown hgrow ha pU pU2 pO pO2 bw q hbn hU2
 generalize w1.heap.size=gU at *
 go_wp2_with fail
 go_loopw [6] (fun so wr=>∃ (s:Nat) (oa:Option Addr) (oc:Nat),s≤n∧so=.slice oa s oc∧Rh w wr gO gU es n s so) (fun so _=>n - F2 so)
 case atStart=>exact ⟨0,_,_,by omega,rfl,st⟩
 case round =>
  clear st
  obtain ⟨s,oa,oc,hs,rfl,st⟩:=hrel
  by_cases hsn:s<n
  ·have hsn':(s:Int)<(n:Int):=by omega
   have hns:=WA (D:=Z8 es) (B:=YI (Z8 es)) (Wd hI) (Xt hI) (n:=es.length) (fun i k _ _=>XQ) s (by rw [HL.out];omega)
   obtain ⟨_,_,_,h4⟩:=hns
   obtain ⟨b,hb,hbn,_⟩:=h4 (by rw [HL.out];omega)
   have hst:=Qc hb
   rw [HL.out] at hbn
   obtain ⟨ok,hok⟩:∃ ok,ok=okU (YI (Z8 es)) es.length (stN es s).1:=⟨_,rfl⟩
   have HB:Hid (Xb ok (thE es) n=some b):=by rw [hok,Hid,← HL.out];exact hb
   have HS:Hid (stN es (s+1)=(fun i=>(stN es s).1 i || i == b,(stN es s).2++[thE es b])):=hst
   have HK:Hid (ok=okU (YI (Z8 es)) n (stN es s).1):=by rw [Hid,hok,HL.out]
   clear h4 hb hst hok
   go_wp2_with fail
   go_loopw [7,8] (fun sb sk wq=>∃ k:Nat,k≤n∧sb=.int .i64 (P3 (Xb ok (thE es) k))∧sk=.int .i64 k∧Rh w wq gO gU es n s (.slice oa s oc)) (fun _ sk _=>n - (intOf sk).toNat)
   case atStart=>exact ⟨0,by omega,rfl,rfl,st⟩
   case round =>
    clear st
    obtain ⟨k,hk,rfl,rfl,st⟩:=hrel
    by_cases hkn:k<n
    ·have hkn':(k:Int)<(n:Int):=by omega
     have hk0:(0:Int)≤(k:Int):=by omega
     have qk:=st.2.1.cell k
     rw [Wu _ hkn] at qk
     go_wp2_with fail
     generalize wr=wq at *
     go_loopw [9,10] (fun sf si wz=>∃ i:Nat,i≤n∧sf=.bool (!(stN es s).1 k && TZ (YI (Z8 es)) (stN es s).1 k i)∧si=.int .i64 i∧wz=wq) (fun _ si _=>n - (intOf si).toNat)
     case atStart=>exact ⟨0,by omega,by simp [TZ],rfl,rfl⟩
     case round =>
      obtain ⟨i,hi,rfl,rfl,hwz⟩:=hrel
      subst hwz
      by_cases hin:i<n
      ·have hin':(i:Int)<(n:Int):=by omega
       have hi0:(0:Int)≤(i:Int):=by omega
       have qi:=st.2.1.cell i
       rw [Wu _ hin] at qi
       obtain ⟨M,P,hw1,hw2,hP,hP0,hPe⟩:=PF HN.out hNb hin hkn
       have qo:=st.1.cell P
       rw [hPe,TU _ hin hkn,← hPe] at qo
       clear hPe
       have HA:Hid (TZ (YI (Z8 es)) (stN es s).1 k (i+1)=(TZ (YI (Z8 es)) (stN es s).1 k i && ((stN es s).1 i || !YI (Z8 es) i k))):=rfl
       obtain ⟨f0,hf0⟩:∃ f0,f0=(!(stN es s).1 k && TZ (YI (Z8 es)) (stN es s).1 k i):=⟨_,rfl⟩
       have HA2:Hid ((!(stN es s).1 k && TZ (YI (Z8 es)) (stN es s).1 k (i+1))=(f0 && ((stN es s).1 i || !YI (Z8 es) i k))):=by
        rw [Hid,HA.out,hf0,Bool.and_assoc]
       rw [← hf0]
       clear hf0 HA
       generalize (stN es s).1 i=u at *
       generalize YI (Z8 es) i k=o at *
       cases f0
       ·go_wp2
        go_roundw
        case rel=>exact ⟨i+1,by omega,by rw [HA2.out];rfl,by go_num,by first | rfl | trivial⟩
        case measure=>simp [intOf];omega
       cases u
       ·cases o
        ·go_wp2
         go_roundw
         case rel=>exact ⟨i+1,by omega,by rw [HA2.out];rfl,by go_num,by first | rfl | trivial⟩
         case measure=>simp [intOf];omega
        go_wp2
        go_roundw
        case rel=>exact ⟨i+1,by omega,by rw [HA2.out];rfl,by go_num,by first | rfl | trivial⟩
        case measure=>simp [intOf];omega
       go_wp2
       go_roundw
       case rel=>exact ⟨i+1,by omega,by rw [HA2.out];rfl,by go_num,by first | rfl | trivial⟩
       case measure=>simp [intOf];omega
      obtain rfl:i=n:=by omega
      have HO:Hid (ok k=(!(stN es s).1 k && TZ (YI (Z8 es)) (stN es s).1 k i)):=by rw [HK.out];rfl
      rw [← HO.out]
      clear HO HK qk hi hin
      have hst9:=fun d=>st.drewN d
      cases ho:ok k
      ·have HE:Hid (Xb ok (thE es) (k+1)=Xb ok (thE es) k):=by rw [Hid,WC,ho];rfl
       clear ho
       go_wp2
       go_quiet (fail)
       go_wp2
       go_roundw
       case rel=>exact ⟨k+1,by omega,by rw [HE.out],by go_num,hst9 _⟩
       case measure=>simp [intOf];omega
      cases hbk:Xb ok (thE es) k
      ·have HE:Hid (Xb ok (thE es) (k+1)=some k):=by rw [Hid,WC,ho,hbk];rfl
       clear ho hbk
       unfold P3
       go_wp2
       go_quiet (fail)
       go_wp2
       go_roundw
       case rel=>exact ⟨k+1,by omega,by rw [HE.out];rfl,by go_num,hst9 _⟩
       case measure=>simp [intOf];omega
      rename_i b0
      have hb0:=P4 k b0 hbk
      obtain ⟨ge,rfl,hgl,c0,_⟩:=To h st.2.2.2.1 hkn
      obtain ⟨ge',hge',_,d0,_⟩:=To h st.2.2.2.1 (show b0<i by omega)
      cases hge'
      rw [← Wv hI] at c0 d0
      have hb0':(b0:Int)<(i:Int):=by omega
      have hb1:(0:Int)≤(b0:Int):=by omega
      by_cases hl:thE es k<thE es b0
      ·have HE:Hid (Xb ok (thE es) (k+1)=some k):=by rw [Hid,WC,ho,hbk];simp [hl]
       have hl':(thE es k:Int)<(thE es b0:Int):=by omega
       clear ho hbk hl
       generalize thE es k=tk at *
       generalize thE es b0=tb at *
       unfold P3
       simp only
       go_wp2
       go_quiet (fail)
       go_wp2
       go_roundw
       case rel=>exact ⟨k+1,by omega,by rw [HE.out];rfl,by go_num,hst9 _⟩
       case measure=>simp [intOf];omega
      have HE:Hid (Xb ok (thE es) (k+1)=some b0):=by rw [Hid,WC,ho,hbk];simp [hl]
      have hl':¬ (thE es k:Int)<(thE es b0:Int):=by omega
      clear ho hbk hl
      generalize thE es k=tk at *
      generalize thE es b0=tb at *
      unfold P3
      simp only
      go_wp2
      go_quiet (fail)
      go_wp2
      go_roundw
      case rel=>exact ⟨k+1,by omega,by rw [HE.out];rfl,by go_num,hst9 _⟩
      case measure=>simp [intOf];omega
    obtain rfl:k=n:=by omega
    rw [HB.out]
    unfold P3
    simp only
    obtain ⟨pO,pU,q,bw,hO9⟩:=st
    obtain ⟨ge,rfl,hgl,c0,_⟩:=To h bw hbn
    rw [← Wv hI] at c0
    have qk:=pU.cell b
    have qf:=pU.frozen b
    rw [Wu _ hbn] at qk
    have hbn':(b:Int)<(k:Int):=by omega
    have hb0:(0:Int)≤(b:Int):=by omega
    have hgUw:w.heap.size≤gU:=by omega
    have gs:wr.grownBy (wr.setCell ⟨gU,b,none⟩ (.bool true)) (some gU):=⟨rfl,rfl,rfl,by simp,fun i _ hr=>Below.heap_setCell wr ⟨gU,b,none⟩ (.bool true) i (fun e=>hr (by rw [e]))⟩
    have pU2:Hid (Blk (wr.setCell ⟨gU,b,none⟩ (.bool true)) gU 4 (tab k fun j=>.bool ((stN es (s+1)).1 j))):=by
     have:=pU.set b (.bool true)
     rw [TW] at this
     unfold Hid
     rw [HS.out]
     refine this.trans ?_
     congr 3
     refine XI (fun j _=>?_)
     by_cases e:j=b
     ·subst e;simp
     simp [e]
    have pO2:=pO.kept gs (by simp;omega)
    have q2:=q.kept gs (.inr (Z4 q pU (by decide)))
    have bw2:=bw.grown gs bw.size (fun x hx=>by cases hx;exact hgUw)
    have c2:(wr.setCell ⟨gU,b,none⟩ (.bool true)).cell? ⟨ge,b*4,none⟩=some (.int .i64 (thE es b:Int)):=by
     rw [← c0]
     have h1:=bw.cell (p:=⟨ge,b*4,none⟩) hgl
     have h2:=bw2.cell (p:=⟨ge,b*4,none⟩) hgl
     rw [h1,h2]
    have hl9:((stN es s).2.map (fun t:Nat=>(t:Int))).length=s:=by rw [List.length_map];exact LJ hI s (by rw [HL.out];omega)
    have hsz:=bw2.size
    have hO8:gO<(wr.setCell ⟨gU,b,none⟩ (.bool true)).heap.size:=pO2.lt
    clear pO pU q bw
    obtain ⟨wx,hwx⟩:∃ wx,wx=wr.setCell ⟨gU,b,none⟩ (.bool true):=⟨_,rfl⟩
    rw [← hwx] at pU2 pO2 q2 bw2 c2 hsz hO8
    have HW:Hid (wx=wr.setCell ⟨gU,b,none⟩ (.bool true)):=hwx
    have HZ:Hid (wr.heap.size=wx.heap.size):=by rw [Hid,hwx];simp
    clear hwx gs
    go_wp2_with (at_builtin;rw [← HW.out];(try rw [HZ.out]);refine wpList_append_own _ rfl _ _ 72 rfl w.heap.size 3 i1 (.int .i64 0) 1 8 Tryz.underlying72 hi hz3 hz4 hz5 rfl (by decide) _ _ _ rfl (q2.alloc _) ⟨wx.heap.size,0,none⟩ 1 1 [.int .i64 (thE es b:Int)] rfl rfl (cell_one_new _ _ _) (by simp [Value.oneCell']) ?c3 ?c4 ?c5 ?_)
    case c3=>unfold maxLen;omega
    case c4=>omega
    case c5=>simp;omega
    intro v' wn hown' hgrow hx9
    clear hx9
    have ha:Below wx.heap.size wx (wx.alloc (.cells #[.int .i64 (thE es b:Int)] 3)):=by go_grown
    obtain ⟨oa',oc',rfl⟩:=SK hown'
    have R:wn.ownsRow w.heap.size 3 1 (.slice oa' (s+1) oc') (s+1) (((stN es (s+1)).2.map (fun t:Nat=>(t:Int))).map (Value.int .i64)):=by
     rw [HS.out]
     simp only [List.map_append,List.map_map,List.map_cons,List.map_nil,Function.comp_apply]
     exact hown'
    have qa:=Ze q2 ha
    have st2:Rh w wn gO gU es k (s+1) (.slice oa' (s+1) oc'):=by
     have pOa:=pO2.below ha
     have pUa:=pU2.out.below ha
     refine ⟨pOa.kept hgrow (Z4 qa pOa (by decide)),pUa.kept hgrow (Z4 qa pUa (by decide)),R,(Zb bw2 ha).grown hgrow (Nat.le_trans hsz ha.size) (fun x hx=>(q2.lt x hx).1),?_⟩
     exact Nat.lt_of_lt_of_le (Nat.lt_of_lt_of_le hO8 ha.size) hgrow.size
    clear hown' hgrow R qa ha q2 pU2 pO2 bw2 c2
    go_wp2
    go_roundw
    case rel=>exact ⟨s+1,_,_,by omega,rfl,st2⟩
    case measure=>simp [F2];omega
  obtain rfl:s=n:=by omega
  obtain ⟨pO,pU,q,bw,hO9⟩:=st
  have HE:Hid ((stN es s).2.map (fun t:Nat=>(t:Int))=V5 es):=by
   unfold V5 stN Hid
   rw [HL.out]
  have hl9:(V5 es).length=s:=by rw [← HE.out,List.length_map];exact LJ hI s (by rw [HL.out];omega)
  rw [HE.out] at q
  clear pO pU
  go_wp2
  go_ret
  exact ⟨⟨_,rfl,by rw [hl9];exact q⟩,bw⟩
end Go.Proofs.YtmhlokahmblboaaGreatDoor
