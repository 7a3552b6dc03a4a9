/-
  Joined: OrdS, Parse.
-/
import Derived.Test.YtifoggpohlegmaaGreatDoorC06
import Derived.Test.YtifoggpohlegmaaGreatDoorC15

namespace Go.Proofs.YtifoggpohlegmaaGreatDoor
set_option maxRecDepth 100000
set_option maxHeartbeats 16000000
open Go.RowKit
set_option linter.unusedVariables false
set_option linter.unusedSimpArgs false

theorem info_boolO:(Tryz.prog.info? 4).map (fun i=>(i.zero,i.size,i.bytes))=some (some (.bool false),1,1):=by kernel_rfl
def OrdGot (e:Ending) (w w':World) (n:Nat) (D:Nat→Nat→Bool):Prop:=∃ g,e=.returned (.slice (some ⟨g,0,none⟩) (n*n) (n*n))∧Blk w' g 4 (tab2 n (befB D))∧w.heap.size≤g∧Below w.heap.size w w'
noncomputable def ordF (D:Nat→Nat→Bool) (k:Nat) (f:Nat→Bool) (h c:Nat):Bool:=if c<k then befB D h c else if c=k then f h else false
theorem ordF_next {n k:Nat} {D:Nat→Nat→Bool}:tab2 n (ordF D k (befB D · k))=tab2 n (ordF D (k+1) (fun _=>false)):=by
 refine tab2_congr (fun i c _ _=>?_)
 unfold ordF
 by_cases h1:c<k
 ·rw [if_pos h1,if_pos (by omega)]
 ·rw [if_neg h1]
  by_cases h2:c=k
  ·rw [if_pos h2,if_pos (by omega),h2]
  ·rw [if_neg h2,if_neg (by omega)]
   split<;>rfl
theorem ordF_set {n k i:Nat} {D:Nat→Nat→Bool} {f:Nat→Bool} (hi:i<n) (hk:k<n):(tab2 n (ordF D k f)).set (i*n+k) (.bool true)=tab2 n (ordF D k (fun h=>f h || h == i)):=by
 rw [tab2_set _ _ hi hk]
 refine tab2_congr (fun h c _ _=>?_)
 unfold ordF
 by_cases h1:c<k
 ·rw [if_neg (by omega),if_pos h1,if_pos h1]
 ·rw [if_neg h1,if_neg h1]
  by_cases h2:c=k
  ·subst h2
   simp only [and_true,if_true]
   by_cases h3:h=i
   ·simp [h3]
   ·simp [h3]
  ·simp [h2]
theorem ordF_congr {n k:Nat} {D:Nat→Nat→Bool} {f g:Nat→Bool} (h:∀ i,f i=g i):tab2 n (ordF D k f)=tab2 n (ordF D k g):=by
 have:f=g:=funext h
 rw [this]

theorem l05Order_is (a:Option Addr) (n c:Nat) (es:List I4) (w:World) (h:Evs w a n es) (hn:n≤4096) :
  Calls Tryz.prog 127 #[.slice a n c] w fun e w'=>OrdGot e w w' n (depE es):=by
 obtain ⟨i0,hi9,hz0,hz1,hz2⟩:=info_parts info_boolO
 obtain ⟨N,hN⟩:∃ N,N=n*n:=⟨_,rfl⟩
 have hNb:N≤16777216:=by rw [hN];exact Nat.mul_le_mul hn hn
 have hw:=wrap_sq hN hNb
 unfold OrdGot
 rw [← hN]
 have HN:Hid (N=n*n):=hN
 clear hN
 obtain ⟨D,hD⟩:∃ D,D=depE es:=⟨_,rfl⟩
 rw [← hD]
 have HD:Hid (D=depE es):=hD
 clear hD
 go_enter Tryz.func127,Tryz.ntmps127
 go_wp2_with (at_make;refine wpList_make_full _ rfl _ _ 180 rfl w.heap.size 4 i0 (.bool false) 1 Tryz.underlying180 hi9 hz0 hz1 _ _ _ _ N rfl rfl hw hw ?b2 ?b3 ?b4 ?_)
 case b2=>rw [hz2];omega
 case b3=>unfold maxLen;omega
 case b4=>exact Nat.le_refl _
 intro w1 hown hgrow
 rw [made_tab] at hown
 have bw:Below w.heap.size w w1:=⟨hgrow.os,hgrow.tape,hgrow.output,hgrow.size,fun k hk=>hgrow.block k hk (by simp)⟩
 have pT:Hid (Blk w1 w.heap.size 4 (tab2 n (ordF D 0 (fun _=>false)))):=by
  have:=(blk_of_full hown).1
  rw [HN.out] at this
  refine this.trans ?_
  congr 3
  refine tab_congr (fun i _=>?_)
  unfold ordF
  simp
 clear hown hgrow
 obtain ⟨g,hg⟩:∃ g,g=w.heap.size:=⟨_,rfl⟩
 have hgw:w.heap.size≤g:=by omega
 rw [← hg] at pT ⊢
 clear hg
 go_wp2_with fail
 go_loopw [5] (fun sk wr=>∃ k:Nat,k≤n∧sk=.int .i64 k∧Hid (Blk wr g 4 (tab2 n (ordF D k (fun _=>false))))∧Below w.heap.size w wr) (fun sk _=>n - (intOf sk).toNat)
 case atStart=>exact ⟨0,by omega,rfl,pT,bw⟩
 case round =>
  clear pT bw
  obtain ⟨k,hk,rfl,pT,bw⟩:=hrel
  by_cases hkn:k<n
  ·have hkn':(k:Int)<(n:Int):=by omega
   have pT2:Hid (Blk wr g 4 (tab2 n (ordF D k (colB D k k)))):=by
    have e:=ordF_congr (n:=n) (k:=k) (D:=D) (f:=colB D k k) (g:=fun _=>false) (colB_top D k)
    unfold Hid
    rw [e]
    exact pT.out
   clear pT
   go_wp2_with fail
   go_loopw [6] (fun si wr=>∃ ii:Nat,ii≤k∧si=.int .i64 ((ii:Int) - 1)∧Hid (Blk wr g 4 (tab2 n (ordF D k (colB D k ii))))∧Below w.heap.size w wr) (fun si _=>(intOf si+1).toNat)
   case atStart=>exact ⟨k,by omega,rfl,pT2,bw⟩
   case round =>
    clear pT2 bw
    obtain ⟨ii,hii,rfl,pT,bw⟩:=hrel
    rcases Nat.eq_zero_or_pos ii with rfl | hpos
    ·have pT2:Hid (Blk wr g 4 (tab2 n (ordF D (k+1) (fun _=>false)))):=by
      have e:=ordF_congr (n:=n) (k:=k) (D:=D) (f:=colB D k 0) (g:=(befB D · k)) (colB_all D k)
      unfold Hid
      rw [← ordF_next,← e]
      exact pT.out
     clear pT
     go_wp2
     go_roundw
     case rel=>exact ⟨k+1,by omega,by go_num,pT2,bw⟩
     case measure=>simp [intOf];omega
    ·obtain ⟨i,rfl⟩:∃ i,ii=i+1:=⟨ii - 1,by omega⟩
     have hi0:((i+1:Nat):Int) - 1=(i:Int):=by omega
     rw [hi0]
     have hi9:(0:Int)≤(i:Int):=by omega
     have hin:(i:Int)<(n:Int):=by omega
     have hk0:(0:Int)≤(k:Int):=by omega
     obtain ⟨h1,h2,h3 | ⟨ge,rfl,hgl,hce⟩⟩:=h
     ·clear h2;omega
     clear h2
     have gc:=fun t ht=>by
      have:=hce t ht
      rw [← bw.cell (p:=⟨ge,_,none⟩) hgl,← bw.cell (p:=⟨ge,_,none⟩) hgl,← bw.cell (p:=⟨ge,_,none⟩) hgl,← bw.cell (p:=⟨ge,_,none⟩) hgl] at this
      exact this
     obtain ⟨c0,c1,c2,c3⟩:=gc i (by omega)
     obtain ⟨e0,e1,e2,e3⟩:=gc k (by omega)
     clear gc
     have hDx:D i k=depM (es.getD i (0,0,0,0)) (es.getD k (0,0,0,0)):=by rw [HD.out];rfl
     generalize es.getD i (0,0,0,0)=x at c0 c1 c2 c3 hDx
     generalize es.getD k (0,0,0,0)=y at e0 e1 e2 e3 hDx
     obtain ⟨M,P,hw1,hw2,hP,hP0,hPe⟩:=ix_two HN.out hNb (show i<n by omega) hkn
     have HP:Hid (P=i*n+k):=hPe
     clear hPe
     go_wp2_with fail
     go_region_held3 (fun w'=>w'.cell? ⟨ge,i*4,none⟩=some (.int .i64 x.1)∧w'.cell? ⟨ge,i*4+1,none⟩=some (.int .i64 x.2.1)∧w'.cell? ⟨ge,i*4+2,none⟩=some (.int .i64 x.2.2.1)∧w'.cell? ⟨ge,i*4+3,none⟩=some (.int .i64 x.2.2.2)∧w'.cell? ⟨ge,k*4,none⟩=some (.int .i64 y.1)∧w'.cell? ⟨ge,k*4+1,none⟩=some (.int .i64 y.2.1)∧w'.cell? ⟨ge,k*4+2,none⟩=some (.int .i64 y.2.2.1)∧w'.cell? ⟨ge,k*4+3,none⟩=some (.int .i64 y.2.2.2)) (first | (exact ⟨c0,c1,c2,c3,e0,e1,e2,e3⟩) | (refine ⟨?_,?_,?_,?_,?_,?_,?_,?_⟩<;>(apply cells_kept (by assumption);assumption)) | go_keep)
      (first | (go_at_call 16;refine (specDepends_is x y _).mono ?_;rintro e w2 ⟨rfl,hb1⟩))
     rename_i hHeld
     rw [← hDx]
     have bw2:Below w.heap.size w w2:=bel_trans bw (bel_trans (by go_grown) hb1)
     have pT2:Hid (Blk w2 g 4 (tab2 n (ordF D k (colB D k (i+1))))):=pT.out.below (bel_trans (by go_grown) hb1)
     clear pT hb1 bw c0 c1 c2 c3 e0 e1 e2 e3 hce
     cases hd:D i k
     ·have pT3:Hid (Blk w2 g 4 (tab2 n (ordF D k (colB D k i)))):=by
       have e:=ordF_congr (n:=n) (k:=k) (D:=D) (f:=colB D k i) (g:=colB D k (i+1)) (colB_skip hd)
       unfold Hid
       rw [e]
       exact pT2.out
      clear pT2 hDx hHeld hd
      go_wp2
      go_roundw
      case rel=>exact ⟨i,by omega,by go_num,pT3,bw2⟩
      case measure=>simp [intOf]<;>omega
     ·have qc:=pT2.out.cell P
      have qf:=pT2.out.frozen P
      rw [HP.out,tab2_get _ (by omega) hkn,← HP.out] at qc
      have pT3:Hid (Blk (w2.setCell ⟨g,P,none⟩ (.bool true)) g 4 (tab2 n (ordF D k (midB D k i 0)))):=by
       have:=pT2.out.set P (.bool true)
       rw [HP.out,ordF_set (by omega) hkn,← HP.out] at this
       have e:=ordF_congr (n:=n) (k:=k) (D:=D) (f:=midB D k i 0) (g:=fun h=>colB D k (i+1) h || h == i) (midB_zero D k i)
       unfold Hid
       rw [e]
       exact this
      have bw3:Below w.heap.size w (w2.setCell ⟨g,P,none⟩ (.bool true)):=bw2.setCell hgw _
      clear hDx hHeld pT2 bw2
      go_wp2_with fail
      generalize w2.setCell ⟨g,P,none⟩ (.bool true)=w3 at *
      clear qc qf hw1 hw2 hP hP0 HP
      go_loopw [7] (fun sh wr=>∃ h:Nat,h≤i∧sh=.int .i64 h∧Hid (Blk wr g 4 (tab2 n (ordF D k (midB D k i h))))∧Below w.heap.size w wr) (fun sh _=>i - (intOf sh).toNat)
      case atStart=>exact ⟨0,by omega,rfl,pT3,bw3⟩
      case round =>
       clear pT3 bw3
       obtain ⟨h,hh,rfl,pT,bw⟩:=hrel
       by_cases hhi:h<i
       ·have hhi':(h:Int)<(i:Int):=by omega
        obtain ⟨M,P,hw1,hw2,hP,hP0,hPe⟩:=ix_two HN.out hNb (show h<n by omega) (show i<n by omega)
        have HP:Hid (P=h*n+i):=hPe
        obtain ⟨M',P',hw1',hw2',hP',hP0',hPe'⟩:=ix_two HN.out hNb (show h<n by omega) hkn
        have HP':Hid (P'=h*n+k):=hPe'
        have eM:M'=M:=by
         exact (Int.ofNat_inj.1 (hw1.symm.trans hw1')).symm
        subst eM
        clear hPe hPe' hw1'
        have qc:=pT.out.cell P
        rw [HP.out,tab2_get _ (by omega) (by omega),← HP.out] at qc
        have eB:ordF D k (midB D k i h) h i=befB D h i:=by unfold ordF;rw [if_pos (by omega)]
        rw [eB] at qc
        clear eB
        have qc':=pT.out.cell P'
        have qf':=pT.out.frozen P'
        rw [HP'.out,tab2_get _ (by omega) (by omega),← HP'.out] at qc'
        cases hb:befB D h i
        ·have pT3:Hid (Blk wr g 4 (tab2 n (ordF D k (midB D k i (h+1))))):=by
          have e:=ordF_congr (n:=n) (k:=k) (D:=D) (f:=midB D k i (h+1)) (g:=midB D k i h) (fun j=>by rw [midB_succ,hb];simp)
          unfold Hid
          rw [e]
          exact pT.out
         rw [hb] at qc
         clear pT hb
         go_wp2
         go_roundw
         case rel=>exact ⟨h+1,by omega,by go_num,pT3,bw⟩
         case measure=>simp [intOf];omega
        ·have pT3:Hid (Blk (wr.setCell ⟨g,P',none⟩ (.bool true)) g 4 (tab2 n (ordF D k (midB D k i (h+1))))):=by
          have:=pT.out.set P' (.bool true)
          rw [HP'.out,ordF_set (by omega) hkn,← HP'.out] at this
          have e:=ordF_congr (n:=n) (k:=k) (D:=D) (f:=midB D k i (h+1)) (g:=fun j=>midB D k i h j || j == h) (fun j=>by rw [midB_succ,hb];simp)
          unfold Hid
          rw [e]
          exact this
         have bw3:Below w.heap.size w (wr.setCell ⟨g,P',none⟩ (.bool true)):=bw.setCell hgw _
         rw [hb] at qc
         clear pT hb bw
         go_wp2
         go_roundw
         case rel=>exact ⟨h+1,by omega,by go_num,pT3,bw3⟩
         case measure=>simp [intOf];omega
       ·obtain rfl:h=i:=by omega
        have pT3:Hid (Blk wr g 4 (tab2 n (ordF D k (colB D k h)))):=by
         have e:=ordF_congr (n:=n) (k:=k) (D:=D) (f:=colB D k h) (g:=midB D k h h) (fun j=>(midB_end hd (by omega) j).symm)
         unfold Hid
         rw [e]
         exact pT.out
        clear pT hd
        go_wp2
        go_roundw
        case rel=>exact ⟨h,by omega,by go_num,pT3,bw⟩
        case measure=>simp [intOf]<;>omega
  ·obtain rfl:k=n:=by omega
   have pT2:Blk wr g 4 (tab2 k (befB D)):=by
    have e:tab2 k (befB D)=tab2 k (ordF D k (fun _=>false)):=tab2_congr (fun i c _ hc=>by unfold ordF;rw [if_pos hc])
    rw [e]
    exact pT.out
   clear pT
   go_wp2
   go_ret
   exact ⟨g,rfl,pT2,hgw,bw⟩


def triples:List Int→List I3
 | a::b::c::r=>(a,b,c)::triples r
 | _=>[]

def parse:Nat→List Int→Option (List (List I3))
 | 0,[]=>some []
 | 0,_::_=>none
 | _+1,[]=>none
 | k+1,n::zs=>if (zs.length:Int)<3*n then none else (parse k (zs.drop (3*n.toNat))).map (triples (zs.take (3*n.toNat))::·)

theorem parse_step {k:Nat} {n:Int} {zs:List Int} (h:¬ (zs.length:Int)<3*n):parse (k+1) (n::zs)=(parse k (zs.drop (3*n.toNat))).map (triples (zs.take (3*n.toNat))::·):=by simp [parse,h]
def PState (zs:List Int) (k:Nat) (done:List (List I3)) (rest:List Int):Prop:=parse 3 zs=(parse (3 - k) rest).map (done++·)

theorem PState.step {zs:List Int} {k:Nat} {done:List (List I3)} {n:Int} {ys:List Int} (h:PState zs k done (n::ys)) (hk:k<3) (hs:¬ (ys.length:Int)<3*n):PState zs (k+1) (done++[triples (ys.take (3*n.toNat))]) (ys.drop (3*n.toNat)):=by
 unfold PState at h ⊢
 obtain ⟨j,hj⟩:∃ j,3 - k=j+1:=⟨3 - k - 1,by omega⟩
 rw [h,hj,parse_step hs,show 3 - (k+1)=j by omega,Option.map_map]
 congr 1
 funext r
 simp
end Go.Proofs.YtifoggpohlegmaaGreatDoor
