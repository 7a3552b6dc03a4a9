/-
  Joined: NorS, ClkI.
-/
import Derived.Deep.MidRow
import Derived.Test.YtifoggpohlegmaaGreatDoorC11
import Derived.Test.YtifoggpohlegmaaGreatDoorC18
import Derived.Test.YtifoggpohlegmaaGreatDoorC45

namespace Go.Proofs.YtifoggpohlegmaaGreatDoor
set_option maxRecDepth 100000
set_option maxHeartbeats 16000000
open Go.RowKit
set_option linter.unusedVariables false
set_option linter.unusedSimpArgs false

theorem owns_sliceN {w:World} {B e s n:Nat} {v:Value} {xs:List Value} (h:w.ownsRow B e s v n xs):∃ a cap,v=.slice a n cap:=by
 rcases h.2 with ⟨rfl,rfl⟩ | ⟨g,cap,cur,rfl,_⟩
 ·exact ⟨_,_,rfl⟩
 ·exact ⟨_,_,rfl⟩
noncomputable def nrmE (es:List I4):List Int:=(stS (befB (depE es)) (thE es) es.length es.length).2.map (fun t:Nat=>(t:Int))
noncomputable def stN (es:List I4) (s:Nat):(Nat→Bool) × List Nat:=stS (befB (depE es)) (thE es) es.length s
def bestI:Option Nat→Int
 | none=>-1
 | some b=>b
def LstGot (e:Ending) (w:World) (B:Nat) (ks:List Int):Prop:=∃ v,e=.returned v∧w.ownsRow B 3 1 v ks.length (ks.map (Value.int .i64))
def OnNor (w wr:World) (gO gU:Nat) (es:List I4) (n s:Nat) (vo:Value):Prop:=
 Blk wr gO 4 (tab2 n (befB (depE es)))∧Blk wr gU 4 (tab n fun j=>.bool ((stN es s).1 j))∧wr.ownsRow w.heap.size 3 1 vo s (((stN es s).2.map (fun t:Nat=>(t:Int))).map (Value.int .i64))∧Below w.heap.size w wr∧gO<wr.heap.size
def lenV:Value→Nat
 | .slice _ n _=>n
 | _=>0
theorem OnNor.drewN {w wr:World} {gO gU:Nat} {es:List I4} {n s:Nat} {vo:Value} (h:OnNor w wr gO gU es n s vo) (d:Nat):OnNor w (wr.drewN d) gO gU es n s vo:=
 ⟨h.1.drewN d,h.2.1.drewN d,owns_below h.2.2.1 (below_dN d),bel_trans h.2.2.2.1 (below_dN d),h.2.2.2.2⟩
theorem bestS_step (ok:Nat→Bool) (th:Nat→Nat) (k:Nat):bestS ok th (k+1)=if ok k then (match bestS ok th k with | none=>some k | some b=>if th k<th b then some k else some b) else bestS ok th k:=rfl
theorem bestS_lt {ok:Nat→Bool} {th:Nat→Nat}:∀ k b,bestS ok th k=some b→b<k
 | 0,b,h=>by cases h
 | k+1,b,h=>by
  rw [bestS_step] at h
  have ih:=bestS_lt (ok:=ok) (th:=th) k
  split at h
  ·split at h
   ·cases h;omega
   ·rename_i b' hb'
    have:=ih b' hb'
    split at h<;>(cases h;omega)
  ·have:=ih b h;omega
theorem ev_cells {w0 w:World} {a:Option Addr} {n:Nat} {es:List I4} (h:Evs w0 a n es) (hb:Below w0.heap.size w0 w) {k:Nat} (hk:k<n):∃ ge,a=some ⟨ge,0,none⟩∧ge<w0.heap.size∧w.cell? ⟨ge,k*4,none⟩=some (.int .i64 (evAt es k).1)∧w.cell? ⟨ge,k*4+1,none⟩=some (.int .i64 (evAt es k).2.1)∧w.cell? ⟨ge,k*4+2,none⟩=some (.int .i64 (evAt es k).2.2.1)∧w.cell? ⟨ge,k*4+3,none⟩=some (.int .i64 (evAt es k).2.2.2):=by
 obtain ⟨h1,h2,h3 | ⟨ge,rfl,hgl,hce⟩⟩:=h
 ·clear h2;omega
 obtain ⟨c0,c1,c2,c3⟩:=hce k hk
 exact ⟨ge,rfl,hgl,(hb.cell (p:=⟨ge,_,none⟩) hgl).trans c0,(hb.cell (p:=⟨ge,_,none⟩) hgl).trans c1,(hb.cell (p:=⟨ge,_,none⟩) hgl).trans c2,(hb.cell (p:=⟨ge,_,none⟩) hgl).trans c3⟩
theorem stS_len {es:List I4} (h:inThree es) (s:Nat) (hs:s≤es.length):(stN es s).2.length=s:=by
 induction s with
 | zero=>rfl
 | succ s ih =>
  obtain ⟨_,_,_,h4⟩:=norm_same (D:=depE es) (B:=befB (depE es)) (depE_thread h) (thE_three h) (n:=es.length) (fun i k _ _=>befB_iff) s (by omega)
  obtain ⟨b,hb,_⟩:=h4 (by omega)
  unfold stN
  rw [stS_step hb]
  simp only [List.length_append,List.length_singleton]
  have:=ih (by omega)
  unfold stN at this
  rw [this]

theorem l05Normal_is (a:Option Addr) (n c:Nat) (es:List I4) (w:World) (h:Evs w a n es) (hn:n≤4096) (hI:inThree es) :
  Calls Tryz.prog 65 #[.slice a n c] w fun e w'=>LstGot e w' w.heap.size (nrmE es)∧Below w.heap.size w w':=by
 obtain ⟨i0,hi9,hz0,hz1,hz2⟩:=info_parts info_boolO
 obtain ⟨i1,hi,hz3,hz4,hz5⟩:=info_parts info_int
 obtain ⟨N,hN⟩:∃ N,N=n*n:=⟨_,rfl⟩
 have hNb:N≤16777216:=by rw [hN];exact Nat.mul_le_mul hn hn
 have HN:Hid (N=n*n):=hN
 have HL:Hid (es.length=n):=h.1
 have kO:=l05Order_is a n c es w h hn
 unfold OrdGot at kO
 rw [← hN] at kO
 clear hN
 go_enter Tryz.func65,Tryz.ntmps65
 go_wp2_with fail
 refine kO.mono ?_
 rintro e w1 ⟨gO,rfl,pO,hgO,bw⟩
 clear kO
 have hsz1:=bw.size
 go_wp2_with (at_make;refine wpList_make_full _ rfl _ _ 180 rfl w.heap.size 4 i0 (.bool false) 1 Tryz.underlying180 hi9 hz0 hz1 _ _ _ _ n rfl rfl rfl rfl ?b2 ?b3 ?b4 ?_)
 case b2=>rw [hz2];omega
 case b3=>unfold maxLen;omega
 case b4=>exact hsz1
 intro w2 hown hgrow
 rw [made_tab] at hown
 have ha:Below w1.heap.size w1 w2:=⟨hgrow.os,hgrow.tape,hgrow.output,hgrow.size,fun k hk=>hgrow.block k hk (by simp)⟩
 have pU:Hid (Blk w2 w1.heap.size 4 (tab n fun j=>.bool ((stN es 0).1 j))):=(blk_of_full hown).1
 have pO2:=pO.below ha
 have hOU:gO<w1.heap.size:=pO.lt
 replace bw:=bel_trans bw ha
 have hbn:Below w2.heap.size w2 (w2.alloc (.cells #[] 3)):=by go_grown
 have q:=own_emptyB w2 3 1 w.heap.size bw.size
 have pU2:=pU.out.below hbn
 replace pO2:=pO2.below hbn
 replace bw:=bel_trans bw hbn
 have hU2:=pU2.lt
 have st:OnNor w (w2.alloc (.cells #[] 3)) gO w1.heap.size es n 0 (.slice (some ⟨w2.heap.size,0,none⟩) 0 0):=⟨pO2,pU2,q,bw,by omega⟩
 clear hown hgrow ha pU pU2 pO pO2 bw q hbn hU2
 generalize w1.heap.size=gU at *
 go_wp2_with fail
 go_loopw [6] (fun so wr=>∃ (s:Nat) (oa:Option Addr) (oc:Nat),s≤n∧so=.slice oa s oc∧OnNor w wr gO gU es n s so) (fun so _=>n - lenV so)
 case atStart=>exact ⟨0,_,_,by omega,rfl,st⟩
 case round =>
  clear st
  obtain ⟨s,oa,oc,hs,rfl,st⟩:=hrel
  by_cases hsn:s<n
  ·have hsn':(s:Int)<(n:Int):=by omega
   have hns:=norm_same (D:=depE es) (B:=befB (depE es)) (depE_thread hI) (thE_three hI) (n:=es.length) (fun i k _ _=>befB_iff) s (by rw [HL.out];omega)
   obtain ⟨_,_,_,h4⟩:=hns
   obtain ⟨b,hb,hbn,_⟩:=h4 (by rw [HL.out];omega)
   have hst:=stS_step hb
   rw [HL.out] at hbn
   obtain ⟨ok,hok⟩:∃ ok,ok=okU (befB (depE es)) es.length (stN es s).1:=⟨_,rfl⟩
   have HB:Hid (bestS ok (thE es) n=some b):=by rw [hok,Hid,← HL.out];exact hb
   have HS:Hid (stN es (s+1)=(fun i=>(stN es s).1 i || i == b,(stN es s).2++[thE es b])):=hst
   have HK:Hid (ok=okU (befB (depE es)) n (stN es s).1):=by rw [Hid,hok,HL.out]
   clear h4 hb hst hok
   go_wp2_with fail
   go_loopw [7,8] (fun sb sk wq=>∃ k:Nat,k≤n∧sb=.int .i64 (bestI (bestS ok (thE es) k))∧sk=.int .i64 k∧OnNor w wq gO gU es n s (.slice oa s oc)) (fun _ sk _=>n - (intOf sk).toNat)
   case atStart=>exact ⟨0,by omega,rfl,rfl,st⟩
   case round =>
    clear st
    obtain ⟨k,hk,rfl,rfl,st⟩:=hrel
    by_cases hkn:k<n
    ·have hkn':(k:Int)<(n:Int):=by omega
     have hk0:(0:Int)≤(k:Int):=by omega
     have qk:=st.2.1.cell k
     rw [tab_get _ hkn] at qk
     go_wp2_with fail
     generalize wr=wq at *
     go_loopw [9,10] (fun sf si wz=>∃ i:Nat,i≤n∧sf=.bool (!(stN es s).1 k && allU (befB (depE es)) (stN es s).1 k i)∧si=.int .i64 i∧wz=wq) (fun _ si _=>n - (intOf si).toNat)
     case atStart=>exact ⟨0,by omega,by simp [allU],rfl,rfl⟩
     case round =>
      obtain ⟨i,hi,rfl,rfl,hwz⟩:=hrel
      subst hwz
      by_cases hin:i<n
      ·have hin':(i:Int)<(n:Int):=by omega
       have hi0:(0:Int)≤(i:Int):=by omega
       have qi:=st.2.1.cell i
       rw [tab_get _ hin] at qi
       obtain ⟨M,P,hw1,hw2,hP,hP0,hPe⟩:=ix_two HN.out hNb hin hkn
       have qo:=st.1.cell P
       rw [hPe,tab2_get _ hin hkn,← hPe] at qo
       clear hPe
       have HA:Hid (allU (befB (depE es)) (stN es s).1 k (i+1)=(allU (befB (depE es)) (stN es s).1 k i && ((stN es s).1 i || !befB (depE es) i k))):=rfl
       obtain ⟨f0,hf0⟩:∃ f0,f0=(!(stN es s).1 k && allU (befB (depE es)) (stN es s).1 k i):=⟨_,rfl⟩
       have HA2:Hid ((!(stN es s).1 k && allU (befB (depE es)) (stN es s).1 k (i+1))=(f0 && ((stN es s).1 i || !befB (depE es) i k))):=by
        rw [Hid,HA.out,hf0,Bool.and_assoc]
       rw [← hf0]
       clear hf0 HA
       generalize (stN es s).1 i=u at *
       generalize befB (depE es) i k=o at *
       cases f0
       ·go_wp2
        go_roundw
        case rel=>exact ⟨i+1,by omega,by rw [HA2.out];rfl,by go_num,by first | rfl | trivial⟩
        case measure=>simp [intOf];omega
       ·cases u
        ·cases o
         ·go_wp2
          go_roundw
          case rel=>exact ⟨i+1,by omega,by rw [HA2.out];rfl,by go_num,by first | rfl | trivial⟩
          case measure=>simp [intOf];omega
         ·go_wp2
          go_roundw
          case rel=>exact ⟨i+1,by omega,by rw [HA2.out];rfl,by go_num,by first | rfl | trivial⟩
          case measure=>simp [intOf];omega
        ·go_wp2
         go_roundw
         case rel=>exact ⟨i+1,by omega,by rw [HA2.out];rfl,by go_num,by first | rfl | trivial⟩
         case measure=>simp [intOf];omega
      ·obtain rfl:i=n:=by omega
       have HO:Hid (ok k=(!(stN es s).1 k && allU (befB (depE es)) (stN es s).1 k i)):=by rw [HK.out];rfl
       rw [← HO.out]
       clear HO HK qk hi hin
       have hst9:=fun d=>st.drewN d
       cases ho:ok k
       ·have HE:Hid (bestS ok (thE es) (k+1)=bestS ok (thE es) k):=by rw [Hid,bestS_step,ho];rfl
        clear ho
        go_wp2
        go_quiet (fail)
        go_wp2
        go_roundw
        case rel=>exact ⟨k+1,by omega,by rw [HE.out],by go_num,hst9 _⟩
        case measure=>simp [intOf];omega
       ·cases hbk:bestS ok (thE es) k
        ·have HE:Hid (bestS ok (thE es) (k+1)=some k):=by rw [Hid,bestS_step,ho,hbk];rfl
         clear ho hbk
         unfold bestI
         go_wp2
         go_quiet (fail)
         go_wp2
         go_roundw
         case rel=>exact ⟨k+1,by omega,by rw [HE.out];rfl,by go_num,hst9 _⟩
         case measure=>simp [intOf];omega
        ·rename_i b0
         have hb0:=bestS_lt k b0 hbk
         obtain ⟨ge,rfl,hgl,c0,_⟩:=ev_cells h st.2.2.2.1 hkn
         obtain ⟨ge',hge',_,d0,_⟩:=ev_cells h st.2.2.2.1 (show b0<i by omega)
         cases hge'
         rw [← thE_int hI] at c0 d0
         have hb0':(b0:Int)<(i:Int):=by omega
         have hb1:(0:Int)≤(b0:Int):=by omega
         by_cases hl:thE es k<thE es b0
         ·have HE:Hid (bestS ok (thE es) (k+1)=some k):=by rw [Hid,bestS_step,ho,hbk];simp [hl]
          have hl':(thE es k:Int)<(thE es b0:Int):=by omega
          clear ho hbk hl
          generalize thE es k=tk at *
          generalize thE es b0=tb at *
          unfold bestI
          simp only
          go_wp2
          go_quiet (fail)
          go_wp2
          go_roundw
          case rel=>exact ⟨k+1,by omega,by rw [HE.out];rfl,by go_num,hst9 _⟩
          case measure=>simp [intOf];omega
         ·have HE:Hid (bestS ok (thE es) (k+1)=some b0):=by rw [Hid,bestS_step,ho,hbk];simp [hl]
          have hl':¬ (thE es k:Int)<(thE es b0:Int):=by omega
          clear ho hbk hl
          generalize thE es k=tk at *
          generalize thE es b0=tb at *
          unfold bestI
          simp only
          go_wp2
          go_quiet (fail)
          go_wp2
          go_roundw
          case rel=>exact ⟨k+1,by omega,by rw [HE.out];rfl,by go_num,hst9 _⟩
          case measure=>simp [intOf];omega
    ·obtain rfl:k=n:=by omega
     rw [HB.out]
     unfold bestI
     simp only
     obtain ⟨pO,pU,q,bw,hO9⟩:=st
     obtain ⟨ge,rfl,hgl,c0,_⟩:=ev_cells h bw hbn
     rw [← thE_int hI] at c0
     have qk:=pU.cell b
     have qf:=pU.frozen b
     rw [tab_get _ hbn] at qk
     have hbn':(b:Int)<(k:Int):=by omega
     have hb0:(0:Int)≤(b:Int):=by omega
     have hgUw:w.heap.size≤gU:=by omega
     have gs:wr.grownBy (wr.setCell ⟨gU,b,none⟩ (.bool true)) (some gU):=⟨rfl,rfl,rfl,by simp,fun i _ hr=>Below.heap_setCell wr ⟨gU,b,none⟩ (.bool true) i (fun e=>hr (by rw [e]))⟩
     have pU2:Hid (Blk (wr.setCell ⟨gU,b,none⟩ (.bool true)) gU 4 (tab k fun j=>.bool ((stN es (s+1)).1 j))):=by
      have:=pU.set b (.bool true)
      rw [tab_set] at this
      unfold Hid
      rw [HS.out]
      refine this.trans ?_
      congr 3
      refine tab_congr (fun j _=>?_)
      by_cases e:j=b
      ·subst e;simp
      ·simp [e]
     have pO2:=pO.kept gs (by simp;omega)
     have q2:=q.kept gs (.inr (own_ne_blk q pU (by decide)))
     have bw2:=bw.grown gs bw.size (fun x hx=>by cases hx;exact hgUw)
     have c2:(wr.setCell ⟨gU,b,none⟩ (.bool true)).cell? ⟨ge,b*4,none⟩=some (.int .i64 (thE es b:Int)):=by
      rw [← c0]
      have h1:=bw.cell (p:=⟨ge,b*4,none⟩) hgl
      have h2:=bw2.cell (p:=⟨ge,b*4,none⟩) hgl
      rw [h1,h2]
     have hl9:((stN es s).2.map (fun t:Nat=>(t:Int))).length=s:=by rw [List.length_map];exact stS_len hI s (by rw [HL.out];omega)
     have hsz:=bw2.size
     have hO8:gO<(wr.setCell ⟨gU,b,none⟩ (.bool true)).heap.size:=pO2.lt
     clear pO pU q bw
     obtain ⟨wx,hwx⟩:∃ wx,wx=wr.setCell ⟨gU,b,none⟩ (.bool true):=⟨_,rfl⟩
     rw [← hwx] at pU2 pO2 q2 bw2 c2 hsz hO8
     have HW:Hid (wx=wr.setCell ⟨gU,b,none⟩ (.bool true)):=hwx
     have HZ:Hid (wr.heap.size=wx.heap.size):=by rw [Hid,hwx];simp
     clear hwx gs
     go_wp2_with (at_builtin;rw [← HW.out];(try rw [HZ.out]);refine wpList_append_own _ rfl _ _ 27 rfl w.heap.size 3 i1 (.int .i64 0) 1 8 Tryz.underlying27 hi hz3 hz4 hz5 rfl (by decide) _ _ _ rfl (q2.alloc _) ⟨wx.heap.size,0,none⟩ 1 1 [.int .i64 (thE es b:Int)] rfl rfl (cell_one_new _ _ _) (by simp [Value.oneCell']) ?c3 ?c4 ?c5 ?_)
     case c3=>unfold maxLen;omega
     case c4=>omega
     case c5=>simp;omega
     intro v' wn hown' hgrow hx9
     clear hx9
     have ha:Below wx.heap.size wx (wx.alloc (.cells #[.int .i64 (thE es b:Int)] 3)):=by go_grown
     obtain ⟨oa',oc',rfl⟩:=owns_sliceN hown'
     have R:wn.ownsRow w.heap.size 3 1 (.slice oa' (s+1) oc') (s+1) (((stN es (s+1)).2.map (fun t:Nat=>(t:Int))).map (Value.int .i64)):=by
      rw [HS.out]
      simp only [List.map_append,List.map_map,List.map_cons,List.map_nil,Function.comp_apply]
      exact hown'
     have qa:=owns_below q2 ha
     have st2:OnNor w wn gO gU es k (s+1) (.slice oa' (s+1) oc'):=by
      have pOa:=pO2.below ha
      have pUa:=pU2.out.below ha
      refine ⟨pOa.kept hgrow (own_ne_blk qa pOa (by decide)),pUa.kept hgrow (own_ne_blk qa pUa (by decide)),R,(bel_trans bw2 ha).grown hgrow (Nat.le_trans hsz ha.size) (fun x hx=>(q2.lt x hx).1),?_⟩
      exact Nat.lt_of_lt_of_le (Nat.lt_of_lt_of_le hO8 ha.size) hgrow.size
     clear hown' hgrow R qa ha q2 pU2 pO2 bw2 c2
     go_wp2
     go_roundw
     case rel=>exact ⟨s+1,_,_,by omega,rfl,st2⟩
     case measure=>simp [lenV];omega
  ·obtain rfl:s=n:=by omega
   obtain ⟨pO,pU,q,bw,hO9⟩:=st
   have HE:Hid ((stN es s).2.map (fun t:Nat=>(t:Int))=nrmE es):=by
    unfold nrmE stN Hid
    rw [HL.out]
   have hl9:(nrmE es).length=s:=by rw [← HE.out,List.length_map];exact stS_len hI s (by rw [HL.out];omega)
   rw [HE.out] at q
   clear pO pU
   go_wp2
   go_ret
   exact ⟨⟨_,rfl,by rw [hl9];exact q⟩,bw⟩


theorem info_clock:(Tryz.prog.info? 178).map (fun i=>(i.zero,i.size,i.bytes))=some (some (.agg #[.int .i64 0,.int .i64 0,.int .i64 0]),3,24):=by kernel_rfl
def tabC (n:Nat) (c:Nat→Nat→Nat):List Value:=tab (n*3) fun j=>.int .i64 (c (j / 3) (j % 3):Nat)
theorem at_three {n i t:Nat} (hi:i<n) (ht:t<3):i*3+t<n*3∧(i*3+t) / 3=i∧(i*3+t) % 3=t:=by omega
theorem tabC_get {n i t:Nat} (c:Nat→Nat→Nat) (hi:i<n) (ht:t<3):(tabC n c)[i*3+t]?=some (.int .i64 (c i t:Nat)):=by
 obtain ⟨h1,h2,h3⟩:=at_three hi ht
 unfold tabC
 rw [tab_get _ h1,h2,h3]
theorem tabC_congr {n:Nat} {c d:Nat→Nat→Nat} (h:∀ i t,i<n→t<3→c i t=d i t):tabC n c=tabC n d:=by
 refine tab_congr (fun j hj=>?_)
 rw [h (j / 3) (j % 3) (by omega) (by omega)]
theorem tabC_set {n i t:Nat} (c:Nat→Nat→Nat) (v:Nat) (hi:i<n) (ht:t<3):(tabC n c).set (i*3+t) (.int .i64 (v:Nat))=tabC n (fun k u=>if k=i∧u=t then v else c k u):=by
 unfold tabC
 rw [tab_set]
 refine tab_congr (fun j hj=>?_)
 by_cases e:j=i*3+t
 ·subst e
  obtain ⟨_,h2,h3⟩:=at_three hi ht
  rw [if_pos rfl,h2,h3]
  simp only [and_self,if_true]
 ·rw [if_neg e]
  have e9:¬ (j / 3=i∧j % 3=t):=by omega
  simp only [if_neg e9]
theorem tabC_set3 {n i:Nat} (c:Nat→Nat→Nat) (f:Nat→Nat) (hi:i<n):set3 (tabC n c) (i*3) (.int .i64 (f 0:Nat)) (.int .i64 (f 1:Nat)) (.int .i64 (f 2:Nat))=tabC n (fun k u=>if k=i then f u else c k u):=by
 unfold set3
 have e0:=tabC_set c (f 0) hi (show 0<3 by omega)
 rw [Nat.add_zero] at e0
 rw [e0,tabC_set _ (f 1) hi (by omega),tabC_set _ (f 2) hi (by omega)]
 refine tabC_congr (fun k u hk hu=>?_)
 by_cases e:k=i
 ·subst e
  match u,hu with
  | 0,_=>simp
  | 1,_=>simp
  | 2,_=>simp
 ·simp [e]
theorem clkF_far (D:Nat→Nat→Bool) (th:Nat→Nat) (t:Nat):∀ n j,n≤j→clkF D th n j t=0
 | 0,_,_=>rfl
 | n+1,j,h=>by
  show (if j=n then _ else _)=_
  rw [if_neg (by omega)]
  exact clkF_far D th t n j (by omega)
theorem joinN_bound {D:Nat→Nat→Bool} {k t B:Nat} {prev:Nat→Nat→Nat} (h:∀ j,prev j t≤B):∀ n,joinN D k prev t n≤B
 | 0=>Nat.zero_le _
 | n+1=>by
  have ih:=joinN_bound (D:=D) (k:=k) h n
  show (if D n k then Nat.max _ _ else _)≤B
  split
  ·exact Nat.max_le.2 ⟨ih,h n⟩
  ·exact ih
theorem clkF_bound (D:Nat→Nat→Bool) (th:Nat→Nat) (t:Nat):∀ n j,clkF D th n j t≤n
 | 0,_=>Nat.le_refl _
 | n+1,j=>by
  show (if j=n then _ else _)≤_
  have ih:=clkF_bound D th t n
  split
  ·have:=joinN_bound (D:=D) (k:=n) (prev:=clkF D th n) ih n
   split<;>omega
  ·have:=ih j;omega
def ClkGot (e:Ending) (w w':World) (n:Nat) (c:Nat→Nat→Nat):Prop:=∃ g,e=.returned (.slice (some ⟨g,0,none⟩) n n)∧Blk w' g 178 (tabC n c)∧w.heap.size≤g∧Below w.heap.size w w'
theorem joinN_next (D:Nat→Nat→Bool) (k:Nat) (prev:Nat→Nat→Nat) (t n:Nat):joinN D k prev t (n+1)=if D n k then Nat.max (joinN D k prev t n) (prev n t) else joinN D k prev t n:=rfl
theorem clkF_next (D:Nat→Nat→Bool) (th:Nat→Nat) (n j t:Nat):clkF D th (n+1) j t=if j=n then joinN D n (clkF D th n) t n+(if t=th n then 1 else 0) else clkF D th n j t:=rfl
def onC (D:Nat→Nat→Bool) (th:Nat→Nat) (i j k t:Nat):Nat:=if k=i then joinN D i (clkF D th i) t j else clkF D th i k t
theorem ev_range {w0 w:World} {a:Option Addr} {n:Nat} {es:List I4} (h:Evs w0 a n es) (hb:Below w0.heap.size w0 w) {k:Nat} (hk:k<n):∃ ge,a=some ⟨ge,0,none⟩∧ge<w0.heap.size∧w.rangeAt ge (k*4) [.int .i64 (evAt es k).1,.int .i64 (evAt es k).2.1,.int .i64 (evAt es k).2.2.1,.int .i64 (evAt es k).2.2.2]:=by
 obtain ⟨ge,e,hg,c0,c1,c2,c3⟩:=ev_cells h hb hk
 refine ⟨ge,e,hg,fun j v hj=>?_⟩
 match j,hj with
 | 0,hj=>simp at hj;rw [← hj];exact c0
 | 1,hj=>simp at hj;rw [← hj];exact c1
 | 2,hj=>simp at hj;rw [← hj];exact c2
 | 3,hj=>simp at hj;rw [← hj];exact c3
 | j+4,hj=>simp at hj

theorem clocksOf_is (a:Option Addr) (n c:Nat) (es:List I4) (w:World) (h:Evs w a n es) (hn:n≤4096) (hnc:n≤c) (hI:inThree es) :
  Calls Tryz.prog 125 #[.slice a n c] w fun e w'=>ClkGot e w w' n (clk (depE es) (thE es)):=by
 obtain ⟨i0,hi9,hz0,hz1,hz2⟩:=info_parts info_clock
 unfold ClkGot
 obtain ⟨D,hD⟩:∃ D,D=depE es:=⟨_,rfl⟩
 obtain ⟨th,hT⟩:∃ th,th=thE es:=⟨_,rfl⟩
 rw [← hD,← hT]
 have HD:Hid (D=depE es∧th=thE es):=⟨hD,hT⟩
 clear hD hT
 go_enter Tryz.func125,Tryz.ntmps125
 go_wp2_with (at_make;refine wpList_make_full _ rfl _ _ 175 rfl w.heap.size 178 i0 (.agg #[.int .i64 0,.int .i64 0,.int .i64 0]) 3 Tryz.underlying175 hi9 hz0 hz1 _ _ _ _ n rfl rfl rfl rfl ?b2 ?b3 ?b4 ?_)
 case b2=>rw [hz2];omega
 case b3=>unfold maxLen;omega
 case b4=>exact Nat.le_refl _
 intro w1 hown hgrow
 rw [made_tab3] at hown
 have bw:Below w.heap.size w w1:=⟨hgrow.os,hgrow.tape,hgrow.output,hgrow.size,fun k hk=>hgrow.block k hk (by simp)⟩
 have pT:Hid (Blk w1 w.heap.size 178 (tabC n (clkF D th 0))):=(blk_of_full hown).1
 clear hown hgrow
 obtain ⟨g,hg⟩:∃ g,g=w.heap.size:=⟨_,rfl⟩
 have hgw:w.heap.size≤g:=by omega
 rw [← hg] at pT ⊢
 clear hg
 go_wp2_with fail
 go_loopw [13] (fun sk wr=>∃ i:Nat,i≤n∧sk=.int .i64 i∧Hid (Blk wr g 178 (tabC n (clkF D th i)))∧Below w.heap.size w wr) (fun sk _=>n - (intOf sk).toNat)
 case atStart=>exact ⟨0,by omega,rfl,pT,bw⟩
 case round =>
  clear pT bw
  obtain ⟨i,hi,rfl,pT,bw⟩:=hrel
  by_cases hin:i<n
  ·have hin':(i:Int)<(n:Int):=by omega
   have hi0:(0:Int)≤(i:Int):=by omega
   obtain ⟨ge,rfl,hgl,hrg⟩:=ev_range h bw hin
   have hDi:∀ j,D j i=depM (evAt es j) (evAt es i):=fun j=>by rw [HD.out.1];rfl
   have hti:(th i:Int)=(evAt es i).1:=by rw [HD.out.2];exact thE_int hI i
   have ht3:th i<3:=by rw [HD.out.2];exact thE_three hI i
   generalize evAt es i=x at hrg hDi hti
   obtain ⟨x0,x1,x2,x3⟩:=x
   simp only at hrg hti
   have pN:=Blk.new wr 38 [.int .i64 0,.int .i64 0,.int .i64 0,.int .i64 0]
   have ha:Below wr.heap.size wr (wr.alloc (.cells #[.int .i64 0,.int .i64 0,.int .i64 0,.int .i64 0] 38)):=by go_grown
   go_wp2_with (first | refine wpList_load_mid rfl 38 _ rfl ge (i*4) rfl [.int .i64 x0,.int .i64 x1,.int .i64 x2,.int .i64 x3] _ hrg Tryz.underlying38 rfl (by kernel_rfl) ?_ | refine wpList_store_blk rfl 38 _ _ rfl wr.heap.size [.int .i64 x0,.int .i64 x1,.int .i64 x2,.int .i64 x3] rfl rfl pN (by kernel_rfl) rfl rfl ?_)
   intro W pX g1
   have hgr:=pT.out.lt
   have pT1:Hid (Blk W g 178 (tabC n (onC D th i 0))):=by
    have e:tabC n (onC D th i 0)=tabC n (clkF D th i):=tabC_congr (fun k t _ _=>by
     unfold onC
     split
     ·rename_i e;subst e;rw [clkF_far D th t k k (Nat.le_refl _)];rfl
     ·rfl)
    unfold Hid
    rw [e]
    exact (pT.out.below ha).kept g1 (by simp;omega)
   have bw1:=(bel_trans bw ha).grown g1 (Nat.le_trans bw.size ha.size) (fun k e=>by cases e;exact bw.size)
   have hgX:wr.heap.size<W.heap.size:=pX.out.lt
   have hgg:g<wr.heap.size:=hgr
   have hwg:=bw.size
   clear pN ha g1 hrg pT bw hgr
   generalize wr.heap.size=gX at *
   have hic:i≤c:=by omega
   have hc0:¬ c=0:=by omega
   go_wp2_with fail
   go_loopw [22] (fun sj wr=>∃ j:Nat,j≤i∧sj=.int .i64 j∧Hid (Blk wr g 178 (tabC n (onC D th i j)))∧Hid (Blk wr gX 38 [.int .i64 x0,.int .i64 x1,.int .i64 x2,.int .i64 x3])∧Below w.heap.size w wr) (fun sj _=>i - (intOf sj).toNat)
   case atStart=>exact ⟨0,by omega,rfl,pT1,pX,bw1⟩
   case round =>
    clear pT1 bw1 pX hgX
    obtain ⟨j,hj,rfl,pT,pX,bw⟩:=hrel
    by_cases hji:j<i
    ·have hji':(j:Int)<(i:Int):=by omega
     have hj0:(0:Int)≤(j:Int):=by omega
     have hjn':(j:Int)<(n:Int):=by omega
     obtain ⟨ge',hge',_,hrg⟩:=ev_range h bw (show j<n by omega)
     cases hge'
     have hDj:=hDi j
     generalize evAt es j=y at hrg hDj
     obtain ⟨y0,y1,y2,y3⟩:=y
     simp only at hrg
     have pN:=Blk.new wr 38 [.int .i64 0,.int .i64 0,.int .i64 0,.int .i64 0]
     have ha:Below wr.heap.size wr (wr.alloc (.cells #[.int .i64 0,.int .i64 0,.int .i64 0,.int .i64 0] 38)):=by go_grown
     go_wp2_with (first | refine wpList_load_mid rfl 38 _ rfl ge (j*4) rfl [.int .i64 y0,.int .i64 y1,.int .i64 y2,.int .i64 y3] _ hrg Tryz.underlying38 rfl (by kernel_rfl) ?_ | refine wpList_store_blk rfl 38 _ _ rfl wr.heap.size [.int .i64 y0,.int .i64 y1,.int .i64 y2,.int .i64 y3] rfl rfl pN (by kernel_rfl) rfl rfl ?_)
     intro W pY g1
     have hgr:=pT.out.lt
     have hxr:=pX.out.lt
     have pT1:Hid (Blk W g 178 (tabC n (onC D th i j))):=(pT.out.below ha).kept g1 (by simp;omega)
     have pX1:=(pX.out.below ha).kept g1 (by simp;omega)
     have bw1:=(bel_trans bw ha).grown g1 (Nat.le_trans bw.size ha.size) (fun k e=>by cases e;exact bw.size)
     have pY1:=pY.out
     clear pN ha g1 hrg pT bw pX pY hgr hxr
     generalize wr.heap.size=gY at *
     go_wp2_with (first | refine wpList_load_blk rfl 38 _ rfl gY rfl pY1 _ Tryz.underlying38 rfl (by kernel_rfl) ?_ | refine wpList_load_blk rfl 38 _ rfl gX rfl pX1 _ Tryz.underlying38 rfl (by kernel_rfl) ?_)
     refine (implDepends_is (y0,y1,y2,y3) (x0,x1,x2,x3) _).mono ?_
     rintro e w2 ⟨rfl,hb⟩
     rw [← hDj]
     have pT2:Hid (Blk w2 g 178 (tabC n (onC D th i j))):=pT1.out.below hb
     have pX2:Hid (Blk w2 gX 38 [.int .i64 x0,.int .i64 x1,.int .i64 x2,.int .i64 x3]):=pX1.below hb
     have bw2:=bel_trans bw1 hb
     clear pT1 pX1 pY1 hb bw1 hDj
     cases hd:D j i
     ·have pT3:Hid (Blk w2 g 178 (tabC n (onC D th i (j+1)))):=by
       have e:tabC n (onC D th i (j+1))=tabC n (onC D th i j):=tabC_congr (fun k t _ _=>by
        unfold onC
        rw [joinN_next,hd]
        rfl)
       unfold Hid
       rw [e]
       exact pT2.out
      clear pT2 hd
      go_wp2
      go_roundw
      case rel=>exact ⟨j+1,by omega,by go_num,pT3,pX2,bw2⟩
      case measure=>simp [intOf];omega
     ·have c0:=(pT2.out.cell (j*3)).trans (tabC_get (t:=0) (onC D th i j) (show j<n by omega) (by omega))
      have c1:=(pT2.out.cell (j*3+1)).trans (tabC_get (t:=1) (onC D th i j) (show j<n by omega) (by omega))
      have c2:=(pT2.out.cell (j*3+2)).trans (tabC_get (t:=2) (onC D th i j) (show j<n by omega) (by omega))
      have kJ:=join_is (w:=w2.drew) (off:=i*3) pT2.out (onC D th i j i) (onC D th i j j) (tabC_get (t:=0) _ hin (by omega)) (tabC_get (t:=1) _ hin (by omega)) (tabC_get (t:=2) _ hin (by omega))
      rw [tabC_set3 (onC D th i j) (fun t=>max (onC D th i j i t) (onC D th i j j t)) hin] at kJ
      have eJ:tabC n (fun k u=>if k=i then max (onC D th i j i u) (onC D th i j j u) else onC D th i j k u)=tabC n (onC D th i (j+1)):=tabC_congr (fun k t _ _=>by
       unfold onC
       rw [joinN_next,hd]
       have ne:¬ j=i:=by omega
       by_cases e:k=i
       ·simp only [e,if_true,if_neg ne]
       ·simp only [if_neg e])
      rw [eJ] at kJ
      unfold ck at kJ
      clear eJ
      have kJ2:=kJ.mono (R':=fun e w'=>e=.returned (.tuple #[])∧Blk w' g 178 (tabC n (onC D th i (j+1)))∧w2.drew.grownBy w' (some g)∧w'.cell? ⟨g,j*3,none⟩=some (.int .i64 (onC D th i j j 0:Nat))∧w'.cell? ⟨g,j*3+1,none⟩=some (.int .i64 (onC D th i j j 1:Nat))∧w'.cell? ⟨g,j*3+2,none⟩=some (.int .i64 (onC D th i j j 2:Nat))) (by
       rintro e w' ⟨h1,h2,h3⟩
       have eZ:∀ t,onC D th i (j+1) j t=onC D th i j j t:=fun t=>by
        unfold onC
        rw [if_neg (show ¬ j=i by omega),if_neg (show ¬ j=i by omega)]
       have d0:=(h2.cell (j*3)).trans (tabC_get (t:=0) _ (show j<n by omega) (by omega))
       have d1:=(h2.cell (j*3+1)).trans (tabC_get (t:=1) _ (show j<n by omega) (by omega))
       have d2:=(h2.cell (j*3+2)).trans (tabC_get (t:=2) _ (show j<n by omega) (by omega))
       rw [eZ] at d0 d1 d2
       exact ⟨h1,h2,h3,d0,d1,d2⟩)
      clear kJ
      generalize onC D th i j j 0=z0 at *
      generalize onC D th i j j 1=z1 at *
      generalize onC D th i j j 2=z2 at *
      clear hd
      go_wp2_with fail
      go_region_held3 (fun w'=>w'.cell? ⟨g,j*3,none⟩=some (.int .i64 z0)∧w'.cell? ⟨g,j*3+1,none⟩=some (.int .i64 z1)∧w'.cell? ⟨g,j*3+2,none⟩=some (.int .i64 z2)) (first | (exact ⟨c0,c1,c2⟩) | (exact ⟨d0,d1,d2⟩) | go_keep)
       (first | (go_at_call 169;refine kJ2.mono ?_;rintro e w3 ⟨rfl,pJ,gJ,d0,d1,d2⟩))
      clear kJ2 c0 c1 c2 d0 d1 d2
      have pX3:Hid (Blk w3 gX 38 [.int .i64 x0,.int .i64 x1,.int .i64 x2,.int .i64 x3]):=pX2.out.drew.kept gJ (by simp;omega)
      have bw3:Below w.heap.size w w3:=(bel_trans bw2 (by go_grown)).grown gJ bw2.size (fun k e=>by cases e;exact hgw)
      have pT3:Hid (Blk w3 g 178 (tabC n (onC D th i (j+1)))):=pJ
      clear pX2 bw2 pT2 gJ pJ
      go_wp2
      go_roundw
      case rel=>exact ⟨j+1,by omega,by go_num,pT3,pX3,bw3⟩
      case measure=>simp [intOf];omega
    ·obtain rfl:j=i:=by omega
     subst hti
     clear hDi hic hc0
     obtain ⟨t,ht⟩:∃ t,t=th j:=⟨_,rfl⟩
     have HTt:Hid (t=th j):=ht
     rw [← ht] at ht3 pX
     clear ht
     have cX:=pX.out.cell 0
     simp only [List.getElem?_cons_zero] at cX
     have c0:=(pT.out.cell (j*3+t)).trans (tabC_get _ hin ht3)
     have f0:=pT.out.frozen (j*3+t)
     have eV:onC D th j j j t=joinN D j (clkF D th j) t j:=by unfold onC;rw [if_pos rfl]
     rw [eV] at c0
     have hvb:=joinN_bound (D:=D) (k:=j) (prev:=clkF D th j) (t:=t) (fun q=>clkF_bound D th t j q) j
     have pT2:=pT.out.set (j*3+t) (.int .i64 (joinN D j (clkF D th j) t j+1:Nat))
     rw [tabC_set _ _ hin ht3] at pT2
     have e2:tabC n (fun k u=>if k=j∧u=t then joinN D j (clkF D th j) t j+1 else onC D th j j k u)=tabC n (clkF D th (j+1)):=tabC_congr (fun k u _ _=>by
      rw [clkF_next]
      unfold onC
      by_cases e:k=j
      ·simp only [e,true_and,if_true]
       by_cases e':u=t
       ·subst e'
        rw [if_pos rfl,if_pos HTt.out]
       ·rw [if_neg e',if_neg (fun q=>e' (q.trans HTt.out.symm)),Nat.add_zero]
      ·simp only [e,false_and,if_false])
     rw [e2] at pT2
     clear e2 eV pT
     generalize joinN D j (clkF D th j) t j=v at *
     have hw9:IntKind.i64.wrap ((v:Int)+1)=((v+1:Nat):Int):=by
      rw [IntWalk.i64_in _ ⟨by omega,by omega⟩]
      omega
     have ht9:(t:Int)<3:=by omega
     have ht8:(0:Int)≤(t:Int):=by omega
     clear pX
     go_wp2_with fail
     go_region
     have pT3:Hid (Blk ((wr.setCell ⟨g,j*3+t,none⟩ (.int .i64 (v+1:Nat))).drew) g 178 (tabC n (clkF D th (j+1)))):=pT2
     have bw3:Below w.heap.size w ((wr.setCell ⟨g,j*3+t,none⟩ (.int .i64 (v+1:Nat))).drew):=bel_trans (bw.setCell hgw _) (by go_grown)
     clear pT2 bw hw9 c0 f0 cX
     go_wp2
     go_roundw
     case rel=>exact ⟨j+1,by omega,by go_num,pT3,bw3⟩
     case measure=>simp [intOf];omega
  ·obtain rfl:i=n:=by omega
   have pT2:Blk wr g 178 (tabC i (clk D th)):=by
    have e:tabC i (clk D th)=tabC i (clkF D th i):=tabC_congr (fun k t hk _=>(clkF_clk D th k t i hk).symm)
    rw [e]
    exact pT.out
   clear pT
   go_wp2
   go_ret
   exact ⟨g,rfl,pT2,hgw,bw⟩
end Go.Proofs.YtifoggpohlegmaaGreatDoor
