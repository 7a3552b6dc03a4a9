/-
  Joined: OrdS, NorS.
-/
import Derived.Test.YtifoggpohlegmaaGreatDoorE11
import Derived.Test.YtifoggpohlegmaaGreatDoorE41

namespace Go.Proofs.YtifoggpohlegmaaGreatDoor
set_option maxRecDepth 100000
set_option maxHeartbeats 16000000
open Go.RowKit
set_option linter.unusedVariables false
set_option linter.unusedSimpArgs false

theorem RL:(Tryz.prog.info? 4).map (fun i=>(i.zero,i.size,i.bytes))=some (some (.bool false),1,1):=by kernel_rfl
def Mv (e:Ending) (w w':World) (n:Nat) (D:Nat→Nat→Bool):Prop:=∃ g,e=.returned (.slice (some ⟨g,0,none⟩) (n*n) (n*n))∧Blk w' g 4 (XO n (YL D))∧w.heap.size≤g∧Below w.heap.size w w'
noncomputable def Wq (D:Nat→Nat→Bool) (k:Nat) (f:Nat→Bool) (h c:Nat):Bool:=if c<k then YL D h c else if c=k then f h else false
theorem K8 {n k:Nat} {D:Nat→Nat→Bool}:XO n (Wq D k (YL D · k))=XO n (Wq D (k+1) (fun _=>false)):=by
 refine Tm (fun i c _ _=>?_)
 unfold Wq
 by_cases h1:c<k
 ·rw [if_pos h1,if_pos (by omega)]
 rw [if_neg h1]
 by_cases h2:c=k
 ·rw [if_pos h2,if_pos (by omega),h2]
 rw [if_neg h2,if_neg (by omega)]
 split<;>rfl
theorem N1 {n k i:Nat} {D:Nat→Nat→Bool} {f:Nat→Bool} (hi:i<n) (hk:k<n):(XO n (Wq D k f)).set (i*n+k) (.bool true)=XO n (Wq D k (fun h=>f h || h == i)):=by
 rw [GH _ _ hi hk]
 refine Tm (fun h c _ _=>?_)
 unfold Wq
 by_cases h1:c<k
 ·rw [if_neg (by omega),if_pos h1,if_pos h1]
 rw [if_neg h1,if_neg h1]
 by_cases h2:c=k
 ·subst h2
  simp only [and_true,if_true]
  by_cases h3:h=i
  ·simp [h3]
  simp [h3]
 simp [h2]
theorem XD {n k:Nat} {D:Nat→Nat→Bool} {f g:Nat→Bool} (h:∀ i,f i=g i):XO n (Wq D k f)=XO n (Wq D k g):=by
 have:f=g:=funext h
 rw [this]

theorem NK (a:Option Addr) (n c:Nat) (es:List I4) (w:World) (h:Evs w a n es) (hn:n≤4096) :
  Calls Tryz.prog 127 #[.slice a n c] w fun e w'=>Mv e w w' n (Z9 es):=by
 obtain ⟨i0,hi9,hz0,hz1,hz2⟩:=info_parts RL
 obtain ⟨N,hN⟩:∃ N,N=n*n:=⟨_,rfl⟩
 have hNb:N≤16777216:=by rw [hN];exact Nat.mul_le_mul hn hn
 have hw:=Fp hN hNb
 unfold Mv
 rw [← hN]
 have HN:Hid (N=n*n):=hN
 clear hN
 obtain ⟨D,hD⟩:∃ D,D=Z9 es:=⟨_,rfl⟩
 rw [← hD]
 have HD:Hid (D=Z9 es):=hD
 clear hD
 go_enter Tryz.func127,Tryz.ntmps127
 go_wp2_with (at_make;refine wpList_make_full _ rfl _ _ 180 rfl w.heap.size 4 i0 (.bool false) 1 Tryz.underlying180 hi9 hz0 hz1 _ _ _ _ N rfl rfl hw hw ?b2 ?b3 ?b4 ?_)
 case b2=>rw [hz2];omega
 case b3=>unfold maxLen;omega
 case b4=>exact Nat.le_refl _
 intro w1 hown hgrow
 rw [NT] at hown
 have bw:Below w.heap.size w w1:=⟨hgrow.os,hgrow.tape,hgrow.output,hgrow.size,fun k hk=>hgrow.block k hk (by simp)⟩
 have pT:Hid (Blk w1 w.heap.size 4 (XO n (Wq D 0 (fun _=>false)))):=by
  have:=(VZ hown).1
  rw [HN.out] at this
  refine this.trans ?_
  congr 3
  refine XM (fun i _=>?_)
  unfold Wq
  simp
 clear hown hgrow
 obtain ⟨g,hg⟩:∃ g,g=w.heap.size:=⟨_,rfl⟩
 have hgw:w.heap.size≤g:=by omega
 rw [← hg] at pT ⊢
 clear hg
 go_wp2_with fail
 go_loopw [5] (fun sk wr=>∃ k:Nat,k≤n∧sk=.int .i64 k∧Hid (Blk wr g 4 (XO n (Wq D k (fun _=>false))))∧Below w.heap.size w wr) (fun sk _=>n - (intOf sk).toNat)
 case atStart=>exact ⟨0,by omega,rfl,pT,bw⟩
 case round =>
  clear pT bw
  obtain ⟨k,hk,rfl,pT,bw⟩:=hrel
  by_cases hkn:k<n
  ·have hkn':(k:Int)<(n:Int):=by omega
   have pT2:Hid (Blk wr g 4 (XO n (Wq D k (Vm D k k)))):=by
    have e:=XD (n:=n) (k:=k) (D:=D) (f:=Vm D k k) (g:=fun _=>false) (JW D k)
    unfold Hid
    rw [e]
    exact pT.out
   clear pT
   go_wp2_with fail
   go_loopw [6] (fun si wr=>∃ ii:Nat,ii≤k∧si=.int .i64 ((ii:Int) - 1)∧Hid (Blk wr g 4 (XO n (Wq D k (Vm D k ii))))∧Below w.heap.size w wr) (fun si _=>(intOf si+1).toNat)
   case atStart=>exact ⟨k,by omega,rfl,pT2,bw⟩
   case round =>
    clear pT2 bw
    obtain ⟨ii,hii,rfl,pT,bw⟩:=hrel
    rcases Nat.eq_zero_or_pos ii with rfl | hpos
    ·have pT2:Hid (Blk wr g 4 (XO n (Wq D (k+1) (fun _=>false)))):=by
      have e:=XD (n:=n) (k:=k) (D:=D) (f:=Vm D k 0) (g:=(YL D · k)) (JV D k)
      unfold Hid
      rw [← K8,← e]
      exact pT.out
     clear pT
     go_wp2
     go_roundw
     case rel=>exact ⟨k+1,by omega,by go_num,pT2,bw⟩
     case measure=>simp [intOf];omega
    obtain ⟨i,rfl⟩:∃ i,ii=i+1:=⟨ii - 1,by omega⟩
    have hi0:((i+1:Nat):Int) - 1=(i:Int):=by omega
    rw [hi0]
    have hi9:(0:Int)≤(i:Int):=by omega
    have hin:(i:Int)<(n:Int):=by omega
    have hk0:(0:Int)≤(k:Int):=by omega
    obtain ⟨h1,h2,h3 | ⟨ge,rfl,hgl,hce⟩⟩:=h
    ·clear h2;omega
    clear h2
    have gc:=fun t ht=>by
     have:=hce t ht
     rw [← bw.cell (p:=⟨ge,_,none⟩) hgl,← bw.cell (p:=⟨ge,_,none⟩) hgl,← bw.cell (p:=⟨ge,_,none⟩) hgl,← bw.cell (p:=⟨ge,_,none⟩) hgl] at this
     exact this
    obtain ⟨c0,c1,c2,c3⟩:=gc i (by omega)
    obtain ⟨e0,e1,e2,e3⟩:=gc k (by omega)
    clear gc
    have hDx:D i k=Ya (es.getD i (0,0,0,0)) (es.getD k (0,0,0,0)):=by rw [HD.out];rfl
    generalize es.getD i (0,0,0,0)=x at c0 c1 c2 c3 hDx
    generalize es.getD k (0,0,0,0)=y at e0 e1 e2 e3 hDx
    obtain ⟨M,P,hw1,hw2,hP,hP0,hPe⟩:=PN HN.out hNb (show i<n by omega) hkn
    have HP:Hid (P=i*n+k):=hPe
    clear hPe
    go_wp2_with fail
    go_region_held3 (fun w'=>w'.cell? ⟨ge,i*4,none⟩=some (.int .i64 x.1)∧w'.cell? ⟨ge,i*4+1,none⟩=some (.int .i64 x.2.1)∧w'.cell? ⟨ge,i*4+2,none⟩=some (.int .i64 x.2.2.1)∧w'.cell? ⟨ge,i*4+3,none⟩=some (.int .i64 x.2.2.2)∧w'.cell? ⟨ge,k*4,none⟩=some (.int .i64 y.1)∧w'.cell? ⟨ge,k*4+1,none⟩=some (.int .i64 y.2.1)∧w'.cell? ⟨ge,k*4+2,none⟩=some (.int .i64 y.2.2.1)∧w'.cell? ⟨ge,k*4+3,none⟩=some (.int .i64 y.2.2.2)) (first | (exact ⟨c0,c1,c2,c3,e0,e1,e2,e3⟩) | (refine ⟨?_,?_,?_,?_,?_,?_,?_,?_⟩<;>(apply Za (by assumption);assumption)) | go_keep)
     (first | (go_at_call 16;refine (Qf x y _).mono ?_;rintro e w2 ⟨rfl,hb1⟩))
    rename_i hHeld
    rw [← hDx]
    have bw2:Below w.heap.size w w2:=Zb bw (Zb (by go_grown) hb1)
    have pT2:Hid (Blk w2 g 4 (XO n (Wq D k (Vm D k (i+1))))):=pT.out.below (Zb (by go_grown) hb1)
    clear pT hb1 bw c0 c1 c2 c3 e0 e1 e2 e3 hce
    cases hd:D i k
    ·have pT3:Hid (Blk w2 g 4 (XO n (Wq D k (Vm D k i)))):=by
      have e:=XD (n:=n) (k:=k) (D:=D) (f:=Vm D k i) (g:=Vm D k (i+1)) (Ki hd)
      unfold Hid
      rw [e]
      exact pT2.out
     clear pT2 hDx hHeld hd
     go_wp2
     go_roundw
     case rel=>exact ⟨i,by omega,by go_num,pT3,bw2⟩
     case measure=>simp [intOf]<;>omega
    have qc:=pT2.out.cell P
    have qf:=pT2.out.frozen P
    rw [HP.out,T1 _ (by omega) hkn,← HP.out] at qc
    have pT3:Hid (Blk (w2.setCell ⟨g,P,none⟩ (.bool true)) g 4 (XO n (Wq D k (VT D k i 0)))):=by
     have:=pT2.out.set P (.bool true)
     rw [HP.out,N1 (by omega) hkn,← HP.out] at this
     have e:=XD (n:=n) (k:=k) (D:=D) (f:=VT D k i 0) (g:=fun h=>Vm D k (i+1) h || h == i) (K1 D k i)
     unfold Hid
     rw [e]
     exact this
    have bw3:Below w.heap.size w (w2.setCell ⟨g,P,none⟩ (.bool true)):=bw2.setCell hgw _
    clear hDx hHeld pT2 bw2
    go_wp2_with fail
    generalize w2.setCell ⟨g,P,none⟩ (.bool true)=w3 at *
    clear qc qf hw1 hw2 hP hP0 HP
    go_loopw [7] (fun sh wr=>∃ h:Nat,h≤i∧sh=.int .i64 h∧Hid (Blk wr g 4 (XO n (Wq D k (VT D k i h))))∧Below w.heap.size w wr) (fun sh _=>i - (intOf sh).toNat)
    case atStart=>exact ⟨0,by omega,rfl,pT3,bw3⟩
    case round =>
     clear pT3 bw3
     obtain ⟨h,hh,rfl,pT,bw⟩:=hrel
     by_cases hhi:h<i
     ·have hhi':(h:Int)<(i:Int):=by omega
      obtain ⟨M,P,hw1,hw2,hP,hP0,hPe⟩:=PN HN.out hNb (show h<n by omega) (show i<n by omega)
      have HP:Hid (P=h*n+i):=hPe
      obtain ⟨M',P',hw1',hw2',hP',hP0',hPe'⟩:=PN HN.out hNb (show h<n by omega) hkn
      have HP':Hid (P'=h*n+k):=hPe'
      have eM:M'=M:=by
       exact (Int.ofNat_inj.1 (hw1.symm.trans hw1')).symm
      subst eM
      clear hPe hPe' hw1'
      have qc:=pT.out.cell P
      rw [HP.out,T1 _ (by omega) (by omega),← HP.out] at qc
      have eB:Wq D k (VT D k i h) h i=YL D h i:=by unfold Wq;rw [if_pos (by omega)]
      rw [eB] at qc
      clear eB
      have qc':=pT.out.cell P'
      have qf':=pT.out.frozen P'
      rw [HP'.out,T1 _ (by omega) (by omega),← HP'.out] at qc'
      cases hb:YL D h i
      ·have pT3:Hid (Blk wr g 4 (XO n (Wq D k (VT D k i (h+1))))):=by
        have e:=XD (n:=n) (k:=k) (D:=D) (f:=VT D k i (h+1)) (g:=VT D k i h) (fun j=>by rw [Q1,hb];simp)
        unfold Hid
        rw [e]
        exact pT.out
       rw [hb] at qc
       clear pT hb
       go_wp2
       go_roundw
       case rel=>exact ⟨h+1,by omega,by go_num,pT3,bw⟩
       case measure=>simp [intOf];omega
      have pT3:Hid (Blk (wr.setCell ⟨g,P',none⟩ (.bool true)) g 4 (XO n (Wq D k (VT D k i (h+1))))):=by
       have:=pT.out.set P' (.bool true)
       rw [HP'.out,N1 (by omega) hkn,← HP'.out] at this
       have e:=XD (n:=n) (k:=k) (D:=D) (f:=VT D k i (h+1)) (g:=fun j=>VT D k i h j || j == h) (fun j=>by rw [Q1,hb];simp)
       unfold Hid
       rw [e]
       exact this
      have bw3:Below w.heap.size w (wr.setCell ⟨g,P',none⟩ (.bool true)):=bw.setCell hgw _
      rw [hb] at qc
      clear pT hb bw
      go_wp2
      go_roundw
      case rel=>exact ⟨h+1,by omega,by go_num,pT3,bw3⟩
      case measure=>simp [intOf];omega
     obtain rfl:h=i:=by omega
     have pT3:Hid (Blk wr g 4 (XO n (Wq D k (Vm D k h)))):=by
      have e:=XD (n:=n) (k:=k) (D:=D) (f:=Vm D k h) (g:=VT D k h h) (fun j=>(Ho hd (by omega) j).symm)
      unfold Hid
      rw [e]
      exact pT.out
     clear pT hd
     go_wp2
     go_roundw
     case rel=>exact ⟨h,by omega,by go_num,pT3,bw⟩
     case measure=>simp [intOf]<;>omega
  obtain rfl:k=n:=by omega
  have pT2:Blk wr g 4 (XO k (YL D)):=by
   have e:XO k (YL D)=XO k (Wq D k (fun _=>false)):=Tm (fun i c _ hc=>by unfold Wq;rw [if_pos hc])
   rw [e]
   exact pT.out
  clear pT
  go_wp2
  go_ret
  exact ⟨g,rfl,pT2,hgw,bw⟩


theorem SR {w:World} {B e s n:Nat} {v:Value} {xs:List Value} (h:w.ownsRow B e s v n xs):∃ a cap,v=.slice a n cap:=by
 rcases h.2 with ⟨rfl,rfl⟩ | ⟨g,cap,cur,rfl,_⟩
 ·exact ⟨_,_,rfl⟩
 exact ⟨_,_,rfl⟩
noncomputable def Uf (es:List I4):List Int:=(stS (YL (Z9 es)) (thE es) es.length es.length).2.map (fun t:Nat=>(t:Int))
noncomputable def stN (es:List I4) (s:Nat):(Nat→Bool) × List Nat:=stS (YL (Z9 es)) (thE es) es.length s
def Na:Option Nat→Int
 | none=>-1
 | some b=>b
def FC (e:Ending) (w:World) (B:Nat) (ks:List Int):Prop:=∃ v,e=.returned v∧w.ownsRow B 3 1 v ks.length (ks.map (Value.int .i64))
def Ro (w wr:World) (gO gU:Nat) (es:List I4) (n s:Nat) (vo:Value):Prop:=
 Blk wr gO 4 (XO n (YL (Z9 es)))∧Blk wr gU 4 (tab n fun j=>.bool ((stN es s).1 j))∧wr.ownsRow w.heap.size 3 1 vo s (((stN es s).2.map (fun t:Nat=>(t:Int))).map (Value.int .i64))∧Below w.heap.size w wr∧gO<wr.heap.size
def F3:Value→Nat
 | .slice _ n _=>n
 | _=>0
theorem Ro.drewN {w wr:World} {gO gU:Nat} {es:List I4} {n s:Nat} {vo:Value} (h:Ro w wr gO gU es n s vo) (d:Nat):Ro w (wr.drewN d) gO gU es n s vo:=
 ⟨h.1.drewN d,h.2.1.drewN d,Zf h.2.2.1 (Z4 d),Zb h.2.2.2.1 (Z4 d),h.2.2.2.2⟩
theorem WK (ok:Nat→Bool) (th:Nat→Nat) (k:Nat):Xd ok th (k+1)=if ok k then (match Xd ok th k with | none=>some k | some b=>if th k<th b then some k else some b) else Xd ok th k:=rfl
theorem Nb {ok:Nat→Bool} {th:Nat→Nat}:∀ k b,Xd ok th k=some b→b<k
 | 0,b,h=>by cases h
 | k+1,b,h=>by
  rw [WK] at h
  have ih:=Nb (ok:=ok) (th:=th) k
  split at h
  ·split at h
   ·cases h;omega
   rename_i b' hb'
   have:=ih b' hb'
   split at h<;>(cases h;omega)
  have:=ih b h;omega
theorem Tw {w0 w:World} {a:Option Addr} {n:Nat} {es:List I4} (h:Evs w0 a n es) (hb:Below w0.heap.size w0 w) {k:Nat} (hk:k<n):∃ ge,a=some ⟨ge,0,none⟩∧ge<w0.heap.size∧w.cell? ⟨ge,k*4,none⟩=some (.int .i64 (Xz es k).1)∧w.cell? ⟨ge,k*4+1,none⟩=some (.int .i64 (Xz es k).2.1)∧w.cell? ⟨ge,k*4+2,none⟩=some (.int .i64 (Xz es k).2.2.1)∧w.cell? ⟨ge,k*4+3,none⟩=some (.int .i64 (Xz es k).2.2.2):=by
 obtain ⟨h1,h2,h3 | ⟨ge,rfl,hgl,hce⟩⟩:=h
 ·clear h2;omega
 obtain ⟨c0,c1,c2,c3⟩:=hce k hk
 exact ⟨ge,rfl,hgl,(hb.cell (p:=⟨ge,_,none⟩) hgl).trans c0,(hb.cell (p:=⟨ge,_,none⟩) hgl).trans c1,(hb.cell (p:=⟨ge,_,none⟩) hgl).trans c2,(hb.cell (p:=⟨ge,_,none⟩) hgl).trans c3⟩
theorem LP {es:List I4} (h:YK es) (s:Nat) (hs:s≤es.length):(stN es s).2.length=s:=by
 induction s with
 | zero=>rfl
 | succ s ih =>
  obtain ⟨_,_,_,h4⟩:=WH (D:=Z9 es) (B:=YL (Z9 es)) (Wj h) (Xw h) (n:=es.length) (fun i k _ _=>XU) s (by omega)
  obtain ⟨b,hb,_⟩:=h4 (by omega)
  unfold stN
  rw [Qj hb]
  simp only [List.length_append,List.length_singleton]
  have:=ih (by omega)
  unfold stN at this
  rw [this]

theorem PR (a:Option Addr) (n c:Nat) (es:List I4) (w:World) (h:Evs w a n es) (hn:n≤4096) (hI:YK es) :
  Calls Tryz.prog 65 #[.slice a n c] w fun e w'=>FC e w' w.heap.size (Uf es)∧Below w.heap.size w w':=by
 obtain ⟨i0,hi9,hz0,hz1,hz2⟩:=info_parts RL
 obtain ⟨i1,hi,hz3,hz4,hz5⟩:=info_parts Xe
 obtain ⟨N,hN⟩:∃ N,N=n*n:=⟨_,rfl⟩
 have hNb:N≤16777216:=by rw [hN];exact Nat.mul_le_mul hn hn
 have HN:Hid (N=n*n):=hN
 have HL:Hid (es.length=n):=h.1
 have kO:=NK a n c es w h hn
 unfold Mv at kO
 rw [← hN] at kO
 clear hN
 go_enter Tryz.func65,Tryz.ntmps65
 go_wp2_with fail
 refine kO.mono ?_
 rintro e w1 ⟨gO,rfl,pO,hgO,bw⟩
 clear kO
 have hsz1:=bw.size
 go_wp2_with (at_make;refine wpList_make_full _ rfl _ _ 180 rfl w.heap.size 4 i0 (.bool false) 1 Tryz.underlying180 hi9 hz0 hz1 _ _ _ _ n rfl rfl rfl rfl ?b2 ?b3 ?b4 ?_)
 case b2=>rw [hz2];omega
 case b3=>unfold maxLen;omega
 case b4=>exact hsz1
 intro w2 hown hgrow
 rw [NT] at hown
 have ha:Below w1.heap.size w1 w2:=⟨hgrow.os,hgrow.tape,hgrow.output,hgrow.size,fun k hk=>hgrow.block k hk (by simp)⟩
 have pU:Hid (Blk w2 w1.heap.size 4 (tab n fun j=>.bool ((stN es 0).1 j))):=(VZ hown).1
 have pO2:=pO.below ha
 have hOU:gO<w1.heap.size:=pO.lt
 replace bw:=Zb bw ha
 have hbn:Below w2.heap.size w2 (w2.alloc (.cells #[] 3)):=by go_grown
 have q:=Yx w2 3 1 w.heap.size bw.size
 have pU2:=pU.out.below hbn
 replace pO2:=pO2.below hbn
 replace bw:=Zb bw hbn
 have hU2:=pU2.lt
 have st:Ro w (w2.alloc (.cells #[] 3)) gO w1.heap.size es n 0 (.slice (some ⟨w2.heap.size,0,none⟩) 0 0):=⟨pO2,pU2,q,bw,by omega⟩
 clear hown hgrow ha pU pU2 pO pO2 bw q hbn hU2
 generalize w1.heap.size=gU at *
 go_wp2_with fail
 go_loopw [6] (fun so wr=>∃ (s:Nat) (oa:Option Addr) (oc:Nat),s≤n∧so=.slice oa s oc∧Ro w wr gO gU es n s so) (fun so _=>n - F3 so)
 case atStart=>exact ⟨0,_,_,by omega,rfl,st⟩
 case round =>
  clear st
  obtain ⟨s,oa,oc,hs,rfl,st⟩:=hrel
  by_cases hsn:s<n
  ·have hsn':(s:Int)<(n:Int):=by omega
   have hns:=WH (D:=Z9 es) (B:=YL (Z9 es)) (Wj hI) (Xw hI) (n:=es.length) (fun i k _ _=>XU) s (by rw [HL.out];omega)
   obtain ⟨_,_,_,h4⟩:=hns
   obtain ⟨b,hb,hbn,_⟩:=h4 (by rw [HL.out];omega)
   have hst:=Qj hb
   rw [HL.out] at hbn
   obtain ⟨ok,hok⟩:∃ ok,ok=okU (YL (Z9 es)) es.length (stN es s).1:=⟨_,rfl⟩
   have HB:Hid (Xd ok (thE es) n=some b):=by rw [hok,Hid,← HL.out];exact hb
   have HS:Hid (stN es (s+1)=(fun i=>(stN es s).1 i || i == b,(stN es s).2++[thE es b])):=hst
   have HK:Hid (ok=okU (YL (Z9 es)) n (stN es s).1):=by rw [Hid,hok,HL.out]
   clear h4 hb hst hok
   go_wp2_with fail
   go_loopw [7,8] (fun sb sk wq=>∃ k:Nat,k≤n∧sb=.int .i64 (Na (Xd ok (thE es) k))∧sk=.int .i64 k∧Ro w wq gO gU es n s (.slice oa s oc)) (fun _ sk _=>n - (intOf sk).toNat)
   case atStart=>exact ⟨0,by omega,rfl,rfl,st⟩
   case round =>
    clear st
    obtain ⟨k,hk,rfl,rfl,st⟩:=hrel
    by_cases hkn:k<n
    ·have hkn':(k:Int)<(n:Int):=by omega
     have hk0:(0:Int)≤(k:Int):=by omega
     have qk:=st.2.1.cell k
     rw [WB _ hkn] at qk
     go_wp2_with fail
     generalize wr=wq at *
     go_loopw [9,10] (fun sf si wz=>∃ i:Nat,i≤n∧sf=.bool (!(stN es s).1 k && T6 (YL (Z9 es)) (stN es s).1 k i)∧si=.int .i64 i∧wz=wq) (fun _ si _=>n - (intOf si).toNat)
     case atStart=>exact ⟨0,by omega,by simp [T6],rfl,rfl⟩
     case round =>
      obtain ⟨i,hi,rfl,rfl,hwz⟩:=hrel
      subst hwz
      by_cases hin:i<n
      ·have hin':(i:Int)<(n:Int):=by omega
       have hi0:(0:Int)≤(i:Int):=by omega
       have qi:=st.2.1.cell i
       rw [WB _ hin] at qi
       obtain ⟨M,P,hw1,hw2,hP,hP0,hPe⟩:=PN HN.out hNb hin hkn
       have qo:=st.1.cell P
       rw [hPe,T1 _ hin hkn,← hPe] at qo
       clear hPe
       have HA:Hid (T6 (YL (Z9 es)) (stN es s).1 k (i+1)=(T6 (YL (Z9 es)) (stN es s).1 k i && ((stN es s).1 i || !YL (Z9 es) i k))):=rfl
       obtain ⟨f0,hf0⟩:∃ f0,f0=(!(stN es s).1 k && T6 (YL (Z9 es)) (stN es s).1 k i):=⟨_,rfl⟩
       have HA2:Hid ((!(stN es s).1 k && T6 (YL (Z9 es)) (stN es s).1 k (i+1))=(f0 && ((stN es s).1 i || !YL (Z9 es) i k))):=by
        rw [Hid,HA.out,hf0,Bool.and_assoc]
       rw [← hf0]
       clear hf0 HA
       generalize (stN es s).1 i=u at *
       generalize YL (Z9 es) i k=o at *
       cases f0
       ·go_wp2
        go_roundw
        case rel=>exact ⟨i+1,by omega,by rw [HA2.out];rfl,by go_num,by first | rfl | trivial⟩
        case measure=>simp [intOf];omega
       cases u
       ·cases o
        ·go_wp2
         go_roundw
         case rel=>exact ⟨i+1,by omega,by rw [HA2.out];rfl,by go_num,by first | rfl | trivial⟩
         case measure=>simp [intOf];omega
        go_wp2
        go_roundw
        case rel=>exact ⟨i+1,by omega,by rw [HA2.out];rfl,by go_num,by first | rfl | trivial⟩
        case measure=>simp [intOf];omega
       go_wp2
       go_roundw
       case rel=>exact ⟨i+1,by omega,by rw [HA2.out];rfl,by go_num,by first | rfl | trivial⟩
       case measure=>simp [intOf];omega
      obtain rfl:i=n:=by omega
      have HO:Hid (ok k=(!(stN es s).1 k && T6 (YL (Z9 es)) (stN es s).1 k i)):=by rw [HK.out];rfl
      rw [← HO.out]
      clear HO HK qk hi hin
      have hst9:=fun d=>st.drewN d
      cases ho:ok k
      ·have HE:Hid (Xd ok (thE es) (k+1)=Xd ok (thE es) k):=by rw [Hid,WK,ho];rfl
       clear ho
       go_wp2
       go_quiet (fail)
       go_wp2
       go_roundw
       case rel=>exact ⟨k+1,by omega,by rw [HE.out],by go_num,hst9 _⟩
       case measure=>simp [intOf];omega
      cases hbk:Xd ok (thE es) k
      ·have HE:Hid (Xd ok (thE es) (k+1)=some k):=by rw [Hid,WK,ho,hbk];rfl
       clear ho hbk
       unfold Na
       go_wp2
       go_quiet (fail)
       go_wp2
       go_roundw
       case rel=>exact ⟨k+1,by omega,by rw [HE.out];rfl,by go_num,hst9 _⟩
       case measure=>simp [intOf];omega
      rename_i b0
      have hb0:=Nb k b0 hbk
      obtain ⟨ge,rfl,hgl,c0,_⟩:=Tw h st.2.2.2.1 hkn
      obtain ⟨ge',hge',_,d0,_⟩:=Tw h st.2.2.2.1 (show b0<i by omega)
      cases hge'
      rw [← WC hI] at c0 d0
      have hb0':(b0:Int)<(i:Int):=by omega
      have hb1:(0:Int)≤(b0:Int):=by omega
      by_cases hl:thE es k<thE es b0
      ·have HE:Hid (Xd ok (thE es) (k+1)=some k):=by rw [Hid,WK,ho,hbk];simp [hl]
       have hl':(thE es k:Int)<(thE es b0:Int):=by omega
       clear ho hbk hl
       generalize thE es k=tk at *
       generalize thE es b0=tb at *
       unfold Na
       simp only
       go_wp2
       go_quiet (fail)
       go_wp2
       go_roundw
       case rel=>exact ⟨k+1,by omega,by rw [HE.out];rfl,by go_num,hst9 _⟩
       case measure=>simp [intOf];omega
      have HE:Hid (Xd ok (thE es) (k+1)=some b0):=by rw [Hid,WK,ho,hbk];simp [hl]
      have hl':¬ (thE es k:Int)<(thE es b0:Int):=by omega
      clear ho hbk hl
      generalize thE es k=tk at *
      generalize thE es b0=tb at *
      unfold Na
      simp only
      go_wp2
      go_quiet (fail)
      go_wp2
      go_roundw
      case rel=>exact ⟨k+1,by omega,by rw [HE.out];rfl,by go_num,hst9 _⟩
      case measure=>simp [intOf];omega
    obtain rfl:k=n:=by omega
    rw [HB.out]
    unfold Na
    simp only
    obtain ⟨pO,pU,q,bw,hO9⟩:=st
    obtain ⟨ge,rfl,hgl,c0,_⟩:=Tw h bw hbn
    rw [← WC hI] at c0
    have qk:=pU.cell b
    have qf:=pU.frozen b
    rw [WB _ hbn] at qk
    have hbn':(b:Int)<(k:Int):=by omega
    have hb0:(0:Int)≤(b:Int):=by omega
    have hgUw:w.heap.size≤gU:=by omega
    have gs:wr.grownBy (wr.setCell ⟨gU,b,none⟩ (.bool true)) (some gU):=⟨rfl,rfl,rfl,by simp,fun i _ hr=>Below.heap_setCell wr ⟨gU,b,none⟩ (.bool true) i (fun e=>hr (by rw [e]))⟩
    have pU2:Hid (Blk (wr.setCell ⟨gU,b,none⟩ (.bool true)) gU 4 (tab k fun j=>.bool ((stN es (s+1)).1 j))):=by
     have:=pU.set b (.bool true)
     rw [T3] at this
     unfold Hid
     rw [HS.out]
     refine this.trans ?_
     congr 3
     refine XM (fun j _=>?_)
     by_cases e:j=b
     ·subst e;simp
     simp [e]
    have pO2:=pO.kept gs (by simp;omega)
    have q2:=q.kept gs (.inr (Z5 q pU (by decide)))
    have bw2:=bw.grown gs bw.size (fun x hx=>by cases hx;exact hgUw)
    have c2:(wr.setCell ⟨gU,b,none⟩ (.bool true)).cell? ⟨ge,b*4,none⟩=some (.int .i64 (thE es b:Int)):=by
     rw [← c0]
     have h1:=bw.cell (p:=⟨ge,b*4,none⟩) hgl
     have h2:=bw2.cell (p:=⟨ge,b*4,none⟩) hgl
     rw [h1,h2]
    have hl9:((stN es s).2.map (fun t:Nat=>(t:Int))).length=s:=by rw [List.length_map];exact LP hI s (by rw [HL.out];omega)
    have hsz:=bw2.size
    have hO8:gO<(wr.setCell ⟨gU,b,none⟩ (.bool true)).heap.size:=pO2.lt
    clear pO pU q bw
    obtain ⟨wx,hwx⟩:∃ wx,wx=wr.setCell ⟨gU,b,none⟩ (.bool true):=⟨_,rfl⟩
    rw [← hwx] at pU2 pO2 q2 bw2 c2 hsz hO8
    have HW:Hid (wx=wr.setCell ⟨gU,b,none⟩ (.bool true)):=hwx
    have HZ:Hid (wr.heap.size=wx.heap.size):=by rw [Hid,hwx];simp
    clear hwx gs
    go_wp2_with (at_builtin;rw [← HW.out];(try rw [HZ.out]);refine wpList_append_own _ rfl _ _ 27 rfl w.heap.size 3 i1 (.int .i64 0) 1 8 Tryz.underlying27 hi hz3 hz4 hz5 rfl (by decide) _ _ _ rfl (q2.alloc _) ⟨wx.heap.size,0,none⟩ 1 1 [.int .i64 (thE es b:Int)] rfl rfl (cell_one_new _ _ _) (by simp [Value.oneCell']) ?c3 ?c4 ?c5 ?_)
    case c3=>unfold maxLen;omega
    case c4=>omega
    case c5=>simp;omega
    intro v' wn hown' hgrow hx9
    clear hx9
    have ha:Below wx.heap.size wx (wx.alloc (.cells #[.int .i64 (thE es b:Int)] 3)):=by go_grown
    obtain ⟨oa',oc',rfl⟩:=SR hown'
    have R:wn.ownsRow w.heap.size 3 1 (.slice oa' (s+1) oc') (s+1) (((stN es (s+1)).2.map (fun t:Nat=>(t:Int))).map (Value.int .i64)):=by
     rw [HS.out]
     simp only [List.map_append,List.map_map,List.map_cons,List.map_nil,Function.comp_apply]
     exact hown'
    have qa:=Zf q2 ha
    have st2:Ro w wn gO gU es k (s+1) (.slice oa' (s+1) oc'):=by
     have pOa:=pO2.below ha
     have pUa:=pU2.out.below ha
     refine ⟨pOa.kept hgrow (Z5 qa pOa (by decide)),pUa.kept hgrow (Z5 qa pUa (by decide)),R,(Zb bw2 ha).grown hgrow (Nat.le_trans hsz ha.size) (fun x hx=>(q2.lt x hx).1),?_⟩
     exact Nat.lt_of_lt_of_le (Nat.lt_of_lt_of_le hO8 ha.size) hgrow.size
    clear hown' hgrow R qa ha q2 pU2 pO2 bw2 c2
    go_wp2
    go_roundw
    case rel=>exact ⟨s+1,_,_,by omega,rfl,st2⟩
    case measure=>simp [F3];omega
  obtain rfl:s=n:=by omega
  obtain ⟨pO,pU,q,bw,hO9⟩:=st
  have HE:Hid ((stN es s).2.map (fun t:Nat=>(t:Int))=Uf es):=by
   unfold Uf stN Hid
   rw [HL.out]
  have hl9:(Uf es).length=s:=by rw [← HE.out,List.length_map];exact LP hI s (by rw [HL.out];omega)
  rw [HE.out] at q
  clear pO pU
  go_wp2
  go_ret
  exact ⟨⟨_,rfl,by rw [hl9];exact q⟩,bw⟩
end Go.Proofs.YtifoggpohlegmaaGreatDoor
