/-
  Joined: CodeS, Vm3, Vm4, BlkT, Mach0.
-/
import Derived.Test.YtmhlokahmblboaaGreatDoorK06
import Derived.Test.YtmhlokahmblboaaGreatDoorK09

namespace Go.Proofs.YtmhlokahmblboaaGreatDoor
set_option maxRecDepth 100000
set_option maxHeartbeats 16000000
open Go.RowKit

theorem Sr (a:Option Addr) (len cap:Nat) (rows:List (List I3)) (w:World) (h:XL w a len cap rows) :
  Calls Tryz.prog 44 #[.agg #[.slice a len cap]] w fun e w'=>e=.returned (.bool (Zn rows))∧Below w.heap.size w w':=by
 obtain ⟨fin,hfin⟩:∃ fin,fin=Zn rows:=⟨_,rfl⟩
 rw [← hfin]
 obtain ⟨hl,hlc,hcm,hcase⟩:=h
 unfold maxLen at hcm
 by_cases h3:len=3
 ·subst h3
  have hfin':Hid (fin=(rows.drop 0).all ZN):=by rw [Hid,hfin,Zn,decide_eq_true hl];rfl
  clear hfin
  rcases hcase with h0 | ⟨b,off,rfl,hblt,hcell⟩
  ·omega
  go_enter Tryz.func44,Tryz.ntmps44
  go_wp2
  go_loopw [3] (fun si wr=>∃ (k:Nat),k≤3∧si=.int .i64 k∧Hid (fin=(rows.drop k).all ZN)∧wr.cell? ⟨w.heap.size,0,none⟩=some (.slice (some ⟨b,off,none⟩) 3 cap)∧Below w.heap.size w wr) (fun si _=>3 - (intOf si).toNat)
  case atStart=>exact ⟨0,by omega,rfl,hfin',by simp [go_sem],by go_grown⟩
  case round =>
   obtain ⟨k,hk,rfl,hH,hP,hbel⟩:=hrel
   by_cases hlt:k<3
   ·have hlt2:(k:Int)<3:=by omega
    obtain ⟨a',len',cap',hc,hI⟩:=hcell k hlt
    have hst:=P1 (rows:=rows) (k:=k) (by omega)
    generalize rows.getD k []=xs at hI hst
    have hst':Hid ((rows.drop k).all ZN=(ZN xs && (rows.drop (k+1)).all ZN)):=hst
    clear hst hcell
    have hc':wr.cell? ⟨b,off+k,none⟩=some (.slice a' len' cap'):=by rw [hbel.cell (p:=⟨b,_,none⟩) hblt];exact hc
    obtain ⟨hl',hlc',hcm',_,hcase'⟩:=hI
    unfold maxLen at hcm'
    by_cases h6:len'≤6
    ·obtain ⟨p,hp⟩:∃ p,p=ZN xs:=⟨_,rfl⟩
     rw [← hp] at hst'
     have hp':Hid (p=Z2 len' 0 (xs.drop 0)):=by rw [Hid,hp,ZN,hl',decide_eq_true h6];rfl
     clear hp
     go_wp2
     go_loopw [4] (fun si wi=>∃ (i:Nat),i≤len'∧si=.int .i64 i∧Hid (p=Z2 len' i (xs.drop i))∧wi.cell? ⟨w.heap.size,0,none⟩=some (.slice (some ⟨b,off,none⟩) 3 cap)∧Below w.heap.size w wi) (fun si _=>len' - (intOf si).toNat)
     case atStart=>exact ⟨0,by omega,rfl,hp',hP,hbel⟩
     case round =>
      clear hP hbel hc'
      obtain ⟨i,hi,rfl,hHi,hP,hbel⟩:=hrel
      have hc':wr.cell? ⟨b,off+k,none⟩=some (.slice a' len' cap'):=by rw [hbel.cell (p:=⟨b,_,none⟩) hblt];exact hc
      by_cases hil:i<len'
      ·have hil2:(i:Int)<(len':Int):=by omega
       rcases hcase' with h0 | ⟨b',off',rfl,hblt',hcell'⟩
       ·omega
       obtain ⟨c0,c1,c2⟩:=hcell' i hil
       have hsi:=SI (n:=len') (xs:=xs) (k:=i) (by omega)
       generalize xs.getD i (0,0,0)=x at c0 c1 c2 hsi
       have hsi':Hid (Z2 len' i (xs.drop i)=((okI x && Wn x i len') && Z2 len' (i+1) (xs.drop (i+1)))):=hsi
       clear hsi hcell'
       have d0:wr.cell? ⟨b',off'+i*3,none⟩=some (.int .i64 x.1):=by rw [hbel.cell (p:=⟨b',_,none⟩) hblt'];exact c0
       have d1:wr.cell? ⟨b',off'+i*3+1,none⟩=some (.int .i64 x.2.1):=by rw [hbel.cell (p:=⟨b',_,none⟩) hblt'];exact c1
       have d2:wr.cell? ⟨b',off'+i*3+2,none⟩=some (.int .i64 x.2.2):=by rw [hbel.cell (p:=⟨b',_,none⟩) hblt'];exact c2
       clear c0 c1 c2
       go_wp2_with fail
       have e0:(wr.alloc (.cells #[.int .i64 x.1,.int .i64 x.2.1,.int .i64 x.2.2] 122)).cell? ⟨wr.heap.size,0,none⟩=some (.int .i64 x.1):=by simp [go_sem]
       have e1:(wr.alloc (.cells #[.int .i64 x.1,.int .i64 x.2.1,.int .i64 x.2.2] 122)).cell? ⟨wr.heap.size,1,none⟩=some (.int .i64 x.2.1):=by simp [go_sem]
       have e2:(wr.alloc (.cells #[.int .i64 x.1,.int .i64 x.2.1,.int .i64 x.2.2] 122)).cell? ⟨wr.heap.size,2,none⟩=some (.int .i64 x.2.2):=by simp [go_sem]
       have hP0:(wr.alloc (.cells #[.int .i64 x.1,.int .i64 x.2.1,.int .i64 x.2.2] 122)).cell? ⟨w.heap.size,0,none⟩=some (.slice (some ⟨b,off,none⟩) 3 cap):=Za (by go_grown) _ _ hP
       have hc0:(wr.alloc (.cells #[.int .i64 x.1,.int .i64 x.2.1,.int .i64 x.2.2] 122)).cell? ⟨b,off+k,none⟩=some (.slice (some ⟨b',off',none⟩) len' cap'):=Za (by go_grown) _ _ hc'
       have hbel0:Below w.heap.size w (wr.alloc (.cells #[.int .i64 x.1,.int .i64 x.2.1,.int .i64 x.2.2] 122)):=Zb hbel (by go_grown)
       clear hP hc' hbel d0 d1 d2
       generalize wr.alloc (.cells #[.int .i64 x.1,.int .i64 x.2.1,.int .i64 x.2.2] 122)=w0 at e0 e1 e2 hP0 hc0 hbel0
       generalize wr.heap.size=X at e0 e1 e2
       obtain ⟨x0,x1,x2⟩:=x
       have hk0:(0:Int)≤(k:Int):=by omega
       have hi1:IntKind.i64.wrap ((i:Int)+1)=(i:Int)+1:=IntWalk.i64_in _ ⟨by omega,by omega⟩
       have kI:=Jd (x0,x1,x2)
       have kL:=YG x2 ((i:Int)+1) len'
       unfold I3.val at kI
       simp only [] at e0 e1 e2 kI
       cases hq:okI (x0,x1,x2)
       ·rw [hq] at kI
        have hff:fin=false:=by rw [hH.out,hst'.out,hHi.out,hsi'.out,hq];rfl
        subst hff
        clear hH hst' hHi hsi' hq
        refine wp_region_held_drew (S:=(fun w'=>w'.cell? ⟨X,0,none⟩=some (.int .i64 x0)∧w'.cell? ⟨X,1,none⟩=some (.int .i64 x1)∧w'.cell? ⟨X,2,none⟩=some (.int .i64 x2)∧w'.cell? ⟨w.heap.size,0,none⟩=some (.slice (some ⟨b,off,none⟩) 3 cap)∧w'.cell? ⟨b,off+k,none⟩=some (.slice (some ⟨b',off',none⟩) len' cap'))) (by kernel_rfl) ⟨e0,e1,e2,hP0,hc0⟩ (fun hHeld=>?_)
        refine tkm 0 39 (.agg #[.int .i64 x0,.int .i64 x1,.int .i64 x2]) ?_
        refine tkr 1 40 (fun K hK=>?_)
        go_simp
        refine (kI _).mono ?_
        rintro e w1 ⟨rfl,hb1⟩
        go_wp2_with fail
        refine hK.out _ _ ?_ (fun hHeld1=>?_)
        ·exact ⟨Za hb1 _ _ hHeld.1,Za hb1 _ _ hHeld.2.1,Za hb1 _ _ hHeld.2.2.1,Za hb1 _ _ hHeld.2.2.2.1,Za hb1 _ _ hHeld.2.2.2.2⟩
        clear hK hHeld
        refine tkm 2 41 (.bool true) ?_
        refine tkm 3 42 (.bool true) ?_
        refine tku 4 43 ?_
        refine tku 5 44 ?_
        refine tku 6 45 ?_
        refine tku 7 46 ?_
        refine tku 8 47 ?_
        refine tku 9 48 ?_
        refine tku 10 49 ?_
        refine tku 11 50 ?_
        refine tku 12 51 ?_
        refine tku 13 52 ?_
        refine tku 14 53 ?_
        refine tku 15 54 ?_
        refine tku 16 55 ?_
        refine tku 17 56 ?_
        refine tku 18 57 ?_
        refine tku 19 58 ?_
        refine tku 20 59 ?_
        refine tkm 21 60 (.bool true) ?_
        refine wpAnyH_done (by kernel_rfl) ?_ _
        have hb2:Below w.heap.size w w1:=Zb hbel0 (Zb (by go_grown) hb1)
        go_wp2
        go_ret
        exact ⟨rfl,hb2⟩
       rw [hq] at kI
       by_cases h7:x0=7
       ·subst h7
        have hle:Wn (7,x1,x2) i len'=inB x2 ((i:Int)+1) len':=rfl
        cases hr:inB x2 ((i:Int)+1) len'
        ·rw [hr] at kL
         have hff:fin=false:=by rw [hH.out,hst'.out,hHi.out,hsi'.out,hq,hle,hr];rfl
         subst hff
         clear hH hst' hHi hsi' hq hle hr
         go_region_held3 (fun w'=>w'.cell? ⟨X,0,none⟩=some (.int .i64 7)∧w'.cell? ⟨X,1,none⟩=some (.int .i64 x1)∧w'.cell? ⟨X,2,none⟩=some (.int .i64 x2)∧w'.cell? ⟨w.heap.size,0,none⟩=some (.slice (some ⟨b,off,none⟩) 3 cap)∧w'.cell? ⟨b,off+k,none⟩=some (.slice (some ⟨b',off',none⟩) len' cap')) (first | (exact ⟨e0,e1,e2,hP0,hc0⟩) | (refine ⟨?_,?_,?_,?_,?_⟩<;>(apply Za (by assumption);assumption)) | go_keep)
          (first | (go_at_call 97;refine (kI _).mono ?_;rintro e w1 ⟨rfl,hb1⟩) | (go_at_call 98;refine (kL _).mono ?_;rintro e w2 ⟨rfl,rfl⟩))
         have hb2:Below w.heap.size w w1:=Zb hbel0 (Zb (by go_grown) hb1)
         go_wp2
         go_ret
         exact ⟨rfl,hb2⟩
        rw [hr] at kL
        have hHi':Hid (p=Z2 len' (i+1) (xs.drop (i+1))):=by rw [Hid,hHi.out,hsi'.out,hq,hle,hr];rfl
        clear hHi hsi' hq hle hr
        go_region_held3 (fun w'=>w'.cell? ⟨X,0,none⟩=some (.int .i64 7)∧w'.cell? ⟨X,1,none⟩=some (.int .i64 x1)∧w'.cell? ⟨X,2,none⟩=some (.int .i64 x2)∧w'.cell? ⟨w.heap.size,0,none⟩=some (.slice (some ⟨b,off,none⟩) 3 cap)∧w'.cell? ⟨b,off+k,none⟩=some (.slice (some ⟨b',off',none⟩) len' cap')) (first | (exact ⟨e0,e1,e2,hP0,hc0⟩) | (refine ⟨?_,?_,?_,?_,?_⟩<;>(apply Za (by assumption);assumption)) | go_keep)
         (first | (go_at_call 97;refine (kI _).mono ?_;rintro e w1 ⟨rfl,hb1⟩) | (go_at_call 98;refine (kL _).mono ?_;rintro e w2 ⟨rfl,rfl⟩))
        have hb2:Below w.heap.size w w1:=Zb hbel0 (Zb (by go_grown) hb1)
        have hP1:w1.cell? ⟨w.heap.size,0,none⟩=some (.slice (some ⟨b,off,none⟩) 3 cap):=Za (Zb (by go_grown) hb1) _ _ hP0
        go_wp2
        go_roundw
        case rel=>exact ⟨i+1,by omega,by go_num,hHi',hP1,hb2⟩
        case measure=>simp [intOf];omega
       have h7':(x0 == 7)=false:=by simpa using h7
       have hle:Wn (x0,x1,x2) i len'=true:=if_neg h7
       have hHi':Hid (p=Z2 len' (i+1) (xs.drop (i+1))):=by rw [Hid,hHi.out,hsi'.out,hq,hle];rfl
       clear hHi hsi' hq hle
       refine wp_region_held_drew (S:=(fun w'=>w'.cell? ⟨X,0,none⟩=some (.int .i64 x0)∧w'.cell? ⟨X,1,none⟩=some (.int .i64 x1)∧w'.cell? ⟨X,2,none⟩=some (.int .i64 x2)∧w'.cell? ⟨w.heap.size,0,none⟩=some (.slice (some ⟨b,off,none⟩) 3 cap)∧w'.cell? ⟨b,off+k,none⟩=some (.slice (some ⟨b',off',none⟩) len' cap'))) (by kernel_rfl) ⟨e0,e1,e2,hP0,hc0⟩ (fun hHeld=>?_)
       refine tkm 0 39 (.agg #[.int .i64 x0,.int .i64 x1,.int .i64 x2]) ?_
       refine tkr 1 40 (fun K hK=>?_)
       go_simp
       refine (kI _).mono ?_
       rintro e w1 ⟨rfl,hb1⟩
       go_wp2_with fail
       refine hK.out _ _ ?_ (fun hHeld1=>?_)
       ·exact ⟨Za hb1 _ _ hHeld.1,Za hb1 _ _ hHeld.2.1,Za hb1 _ _ hHeld.2.2.1,Za hb1 _ _ hHeld.2.2.2.1,Za hb1 _ _ hHeld.2.2.2.2⟩
       clear hK hHeld
       refine tkm 2 41 (.bool false) ?_
       refine tkm 3 42 (.bool false) ?_
       refine tkm 4 43 (.pointer (some ⟨X,0,none⟩)) ?_
       refine tkm 5 44 (.int .i64 x0) ?_
       refine tkm 6 45 (.bool false) ?_
       refine tkm 7 46 (.bool false) ?_
       refine tku 8 47 ?_
       refine tku 9 48 ?_
       refine tku 10 49 ?_
       refine tku 11 50 ?_
       refine tku 12 51 ?_
       refine tku 13 52 ?_
       refine tku 14 53 ?_
       refine tku 15 54 ?_
       refine tku 16 55 ?_
       refine tku 17 56 ?_
       refine tku 18 57 ?_
       refine tku 19 58 ?_
       refine tkm 20 59 (.bool false) ?_
       refine tkm 21 60 (.bool false) ?_
       refine wpAnyH_done (by kernel_rfl) ?_ _
       have hb2:Below w.heap.size w w1:=Zb hbel0 (Zb (by go_grown) hb1)
       have hP1:w1.cell? ⟨w.heap.size,0,none⟩=some (.slice (some ⟨b,off,none⟩) 3 cap):=Za (Zb (by go_grown) hb1) _ _ hP0
       go_wp2
       go_roundw
       case rel=>exact ⟨i+1,by omega,by go_num,hHi',hP1,hb2⟩
       case measure=>simp [intOf];omega
      obtain rfl:i=len':=by omega
      have hd:Z2 i i (xs.drop i)=true:=by rw [List.drop_eq_nil_of_le (by omega)];rfl
      have hff:p=true:=hHi.out.trans hd
      subst hff
      have hH':Hid (fin=(rows.drop (k+1)).all ZN):=by rw [Hid,hH.out,hst'.out];rfl
      clear hH hst' hHi hd hcase'
      go_wp2
      go_roundw
      case rel=>exact ⟨k+1,by omega,by go_num,hH',hP,hbel⟩
      case measure=>simp [intOf];omega
    have hff:fin=false:=by rw [hH.out,hst'.out,ZN,decide_eq_false (by omega)];rfl
    subst hff
    clear hH hst'
    go_wp2
    go_ret
    exact ⟨rfl,hbel⟩
   obtain rfl:k=3:=by omega
   have hd:(rows.drop 3).all ZN=true:=by rw [List.drop_eq_nil_of_le (by omega)];rfl
   have hff:fin=true:=hH.out.trans hd
   subst hff
   clear hH hd hcell
   go_wp2
   go_ret
   exact ⟨rfl,hbel⟩
 have hff:fin=false:=by rw [hfin,Zn,decide_eq_false (by omega)];rfl
 subst hff
 clear hfin
 have h3':(len:Int)≠3:=by omega
 go_enter Tryz.func44,Tryz.ntmps44
 go_wp2
 go_ret
 exact ⟨rfl,by go_grown⟩


def YO (zs:List Int) (n high:Int):Bool:=zs.all (fun z=>decide (0≤z∧z≤high)) && decide ((zs.length:Int)=n)
def Zk (m:V4):Bool:=YO m.1 3 6 && (YO m.2.1 4 9 && (YO m.2.2.1 2 3 && YO m.2.2.2 6 9))
theorem P0 {zs:List Int} {n high:Int} {k:Nat} (hk:k<zs.length) (h:¬ (0≤zs.getD k 0∧zs.getD k 0≤high)):YO zs n high=false:=by
 unfold YO
 have:zs.all (fun z=>decide (0≤z∧z≤high))=false:=by
  rw [List.all_eq_false]
  refine ⟨zs.getD k 0,by simp [List.getD,hk],?_⟩
  simpa using h
 rw [this];rfl
theorem Qw {zs:List Int} {n high:Int} (h:∀ i,i<zs.length→0≤zs.getD i 0∧zs.getD i 0≤high):YO zs n high=decide ((zs.length:Int)=n):=by
 unfold YO
 have:zs.all (fun z=>decide (0≤z∧z≤high))=true:=by
  rw [List.all_eq_true]
  intro z hz
  obtain ⟨i,hi,rfl⟩:=List.getElem_of_mem hz
  have:=h i hi
  simpa [List.getD,hi] using this
 rw [this];rfl

theorem Ut (a:Option Addr) (len cap:Nat) (zs:List Int) (n high:Int) (w:World) (h:YS .i64 w a len cap zs) :
  Calls Tryz.prog 177 #[.slice a len cap,.int .i64 n,.int .i64 high] w fun e w'=>e=.returned (.bool (YO zs n high))∧w=w':=by
 obtain ⟨hl,hlc,hcm,hcase⟩:=h
 unfold maxLen at hcm
 obtain ⟨fin,hfin⟩:∃ fin,fin=YO zs n high:=⟨_,rfl⟩
 rw [← hfin]
 have HF:Hid (fin=YO zs n high):=hfin
 clear hfin
 have hend:∀ b:Bool,b=decide ((len:Int)=n)→Hid (∀ i,i<zs.length→0≤zs.getD i 0∧zs.getD i 0≤high)→fin=b:=fun b hb h=>by rw [HF.out,Qw h.out,hb,hl]
 obtain ⟨b,hb⟩:∃ b,b=decide ((len:Int)=n):=⟨_,rfl⟩
 have he:=hend b hb
 have hb2:((len:Int) == n)=b:=by rw [hb];by_cases h:(len:Int)=n<;>simp [h]
 clear hend hb
 have HE:Hid (Hid (∀ i,i<zs.length→0≤zs.getD i 0∧zs.getD i 0≤high)→fin=b):=he
 clear he
 by_cases h0:len=0
 ·subst h0
  obtain rfl:fin=b:=HE.out (fun i hi=>by omega)
  clear HE HF
  go_enter Tryz.func177,Tryz.ntmps177
  go_wp2
  refine wp_loop_rounds 1 ?_
  rw [rounds_succ]
  simp only [Int.natCast_zero] at hb2
  go_wp2
  go_ret
  exact ⟨rfl,rfl⟩
 rcases hcase with h0' | ⟨bk,off,rfl,hblt,hcell⟩
 ·exact absurd h0' h0
 go_enter Tryz.func177,Tryz.ntmps177
 go_wp2
 go_loopw [7] (fun si wr=>∃ k:Nat,k≤len∧si=.int .i64 k∧Hid (∀ i,i<k→0≤zs.getD i 0∧zs.getD i 0≤high)∧w=wr) (fun si _=>len - (intOf si).toNat)
 case atStart=>exact ⟨0,by omega,rfl,(fun i hi=>by omega),rfl⟩
 case round =>
  obtain ⟨k,hk,rfl,HK,rfl⟩:=hrel
  by_cases hlt:k<len
  ·have hc:=hcell k hlt
   have hlt':(k:Int)<(len:Int):=by omega
   by_cases hin:0≤zs.getD k 0∧zs.getD k 0≤high
   ·have HK2:Hid (∀ i,i<k+1→0≤zs.getD i 0∧zs.getD i 0≤high):=fun i hi=>by
     by_cases e:i=k
     ·subst e;exact hin
     exact HK.out i (by omega)
    have kI:=fun w=>Sb (zs.getD k 0) 0 high w hin
    clear hcell hin
    generalize zs.getD k 0=x at hc kI
    go_wp2_with fail
    refine (kI _).mono ?_
    rintro e w1 ⟨rfl,rfl⟩
    go_wp2
    go_roundw
    case rel=>exact ⟨k+1,by omega,by go_num,HK2,by trivial⟩
    case measure=>simp [intOf];omega
   obtain rfl:fin=false:=by rw [HF.out];exact P0 (by omega) hin
   have kI:=fun w=>RL (zs.getD k 0) 0 high w hin
   clear hcell hin HE HF
   generalize zs.getD k 0=x at hc kI
   go_wp2_with fail
   refine (kI _).mono ?_
   rintro e w1 ⟨rfl,rfl⟩
   go_wp2
   go_ret
   exact ⟨rfl,rfl⟩
  obtain rfl:k=len:=by omega
  obtain rfl:fin=b:=HE.out (fun i hi=>HK.out i (by omega))
  clear hcell HE HF HK
  go_wp2
  go_ret
  exact ⟨rfl,rfl⟩

theorem NA (s:S4) (m:V4) (w:World) (h:Yk w s m) :
  Calls Tryz.prog 131 #[s.val] w fun e w'=>e=.returned (.bool (Zk m))∧Below w.heap.size w w':=by
 obtain ⟨⟨i0,_⟩,⟨i1,_⟩,⟨i2,_⟩,⟨i3,_⟩⟩:=h
 obtain ⟨⟨a0,n0,c0⟩,⟨a1,n1,c1⟩,⟨a2,n2,c2⟩,⟨a3,n3,c3⟩⟩:=s
 obtain ⟨m0,m1,m2,m3⟩:=m
 unfold S4.val Zk
 simp only at i0 i1 i2 i3 ⊢
 have bw:Below w.heap.size w (w.alloc (.cells #[.slice a0 n0 c0,.slice a1 n1 c1,.slice a2 n2 c2,.slice a3 n3 c3] 74)):=by go_grown
 have k0:=Ut a0 n0 c0 m0 3 6 _ (i0.below bw)
 have k1:=Ut a1 n1 c1 m1 4 9 _ (i1.below bw)
 have k2:=Ut a2 n2 c2 m2 2 3 _ (i2.below bw)
 have k3:=Ut a3 n3 c3 m3 6 9 _ (i3.below bw)
 clear i0 i1 i2 i3
 generalize YO m0 3 6=x0 at *
 generalize YO m1 4 9=x1 at *
 generalize YO m2 2 3=x2 at *
 generalize YO m3 6 9=x3 at *
 go_enter Tryz.func131,Tryz.ntmps131
 go_wp2_with fail
 refine k0.mono ?_
 rintro e w1 ⟨rfl,rfl⟩
 cases x0
 ·go_wp2
  go_ret
  exact ⟨rfl,bw⟩
 go_wp2_with fail
 refine k1.mono ?_
 rintro e w1 ⟨rfl,rfl⟩
 cases x1
 ·go_wp2
  go_ret
  exact ⟨rfl,bw⟩
 go_wp2_with fail
 refine k2.mono ?_
 rintro e w1 ⟨rfl,rfl⟩
 cases x2
 ·go_wp2
  go_ret
  exact ⟨rfl,bw⟩
 go_wp2_with fail
 refine k3.mono ?_
 rintro e w1 ⟨rfl,rfl⟩
 cases x3
 ·go_wp2
  go_ret
  exact ⟨rfl,bw⟩
 go_wp2
 go_ret
 exact ⟨rfl,bw⟩


def XO (m:V4):List Int:=((m.1++m.2.1)++m.2.2.1)++m.2.2.2
def Ye (m:V4):ByteArray:=strOfNums ((XO m).map fun z=>48+z)
theorem YP {zs:List Int} {n high:Int} (h:YO zs n high=true):(zs.length:Int)=n∧∀ z ∈ zs,0≤z∧z≤high:=by
 unfold YO at h
 simp at h
 exact ⟨h.2,h.1⟩
theorem ZT {m:V4} (h:Zk m=true):m.1.length=3∧m.2.1.length=4∧m.2.2.1.length=2∧m.2.2.2.length=6∧∀ z ∈ XO m,0≤z∧z≤9:=by
 unfold Zk at h
 simp only [Bool.and_eq_true] at h
 obtain ⟨h0,h1,h2,h3⟩:=h
 obtain ⟨l0,e0⟩:=YP h0
 obtain ⟨l1,e1⟩:=YP h1
 obtain ⟨l2,e2⟩:=YP h2
 obtain ⟨l3,e3⟩:=YP h3
 refine ⟨by omega,by omega,by omega,by omega,fun z hz=>?_⟩
 unfold XO at hz
 simp only [List.mem_append] at hz
 rcases hz with ((hz | hz) | hz) | hz
 ·have:=e0 z hz;omega
 ·exact e1 z hz
 ·have:=e2 z hz;omega
 exact e3 z hz
theorem XE {w:World} {b off n c:Nat} {zs:List Int} (h:YS .i64 w (some ⟨b,off,none⟩) n c zs):∀ j u,(zs.map (Value.int .i64))[j]?=some u→w.cell? ((⟨b,off,none⟩:Addr).add j)=some u:=by
 obtain ⟨hl,_,_,h0⟩:=h
 intro j u hj
 have hjl:j<zs.length:=by
  rcases Nat.lt_or_ge j zs.length with h | h
  ·exact h
  simp [List.getElem?_eq_none h] at hj
 rcases h0 with h0 | ⟨b',off',ha,_,hc⟩
 ·omega
 cases ha
 have e:(⟨b,off,none⟩:Addr).add j=⟨b,off+j,none⟩:=by unfold Addr.add;split<;>simp_all
 rw [e,hc j (by omega)]
 simp [hjl] at hj
 simp [List.getD,hjl,hj]
theorem Wh (zs:List Int):∀ u ∈ zs.map (Value.int .i64),u.oneCell'=true:=by intro u hu;obtain ⟨z,_,rfl⟩:=List.mem_map.1 hu;rfl
theorem X4 (w:World) (t s B:Nat) (hB:B≤w.heap.size):(w.alloc (.cells #[] t)).ownsRow B t s (.slice (some ⟨w.heap.size,0,none⟩) 0 0) 0 []:=World.ownsRow_lit w #[] 0 hB (by unfold maxLen;omega) (by simp)
theorem Zw {w:World} {a:Option Addr} {n c k:Nat} {zs:List Int} (h:YS .i64 w a n c zs) (hl:zs.length=k) (hk:0<k):n=k∧∃ b off,a=some ⟨b,off,none⟩:=by
 have hn:n=k:=h.1.symm.trans hl
 rcases h.2.2.2 with h0 | ⟨b,off,ha,_⟩
 ·omega
 exact ⟨hn,b,off,ha⟩

theorem Vo (s:S4) (m:V4) (w:World) (h:Yk w s m) (hok:Zk m=true) :
  Calls Tryz.prog 81 #[s.val] w fun e w'=>e=.returned (.string (Ye m))∧Below w.heap.size w w':=by
 obtain ⟨i0,hi,hz0,hz1,hz2⟩:=info_parts Xc
 obtain ⟨l0,l1,l2,l3,hdig⟩:=ZT hok
 have HD:Hid (∀ z ∈ XO m,0≤z∧z≤9):=hdig
 obtain ⟨fin,hfin⟩:∃ fin,fin=Ye m:=⟨_,rfl⟩
 rw [← hfin]
 have HF:Hid (fin=strOfNums ((XO m).map fun z=>48+z)):=hfin
 clear hdig hfin hok
 obtain ⟨⟨j0,_⟩,⟨j1,_⟩,⟨j2,_⟩,⟨j3,_⟩⟩:=h
 obtain ⟨⟨a0,n0,c0⟩,⟨a1,n1,c1⟩,⟨a2,n2,c2⟩,⟨a3,n3,c3⟩⟩:=s
 obtain ⟨zs,hzs⟩:∃ zs,zs=XO m:=⟨_,rfl⟩
 rw [← hzs] at HD HF
 have hall:zs=((m.1++m.2.1)++m.2.2.1)++m.2.2.2:=hzs
 clear hzs
 obtain ⟨m0,m1,m2,m3⟩:=m
 simp only at j0 j1 j2 j3 l0 l1 l2 l3 hall
 obtain ⟨rfl,b0,o0,rfl⟩:=Zw j0 l0 (by omega)
 obtain ⟨rfl,b1,o1,rfl⟩:=Zw j1 l1 (by omega)
 obtain ⟨rfl,b2,o2,rfl⟩:=Zw j2 l2 (by omega)
 obtain ⟨rfl,b3,o3,rfl⟩:=Zw j3 l3 (by omega)
 unfold S4.val
 simp only
 have bw:Below w.heap.size w ((w.alloc (.cells #[.slice (some ⟨b0,o0,none⟩) 3 c0,.slice (some ⟨b1,o1,none⟩) 4 c1,.slice (some ⟨b2,o2,none⟩) 2 c2,.slice (some ⟨b3,o3,none⟩) 6 c3] 74)).alloc (.cells #[] 5)):=by go_grown
 have pP:((w.alloc (.cells #[.slice (some ⟨b0,o0,none⟩) 3 c0,.slice (some ⟨b1,o1,none⟩) 4 c1,.slice (some ⟨b2,o2,none⟩) 2 c2,.slice (some ⟨b3,o3,none⟩) 6 c3] 74)).alloc (.cells #[] 5)).ownsRow w.heap.size 74 4 (.slice (some ⟨w.heap.size,0,none⟩) 1 1) 1 [.slice (some ⟨b0,o0,none⟩) 3 c0,.slice (some ⟨b1,o1,none⟩) 4 c1,.slice (some ⟨b2,o2,none⟩) 2 c2,.slice (some ⟨b3,o3,none⟩) 6 c3]:=(F9 w _ _ _ _ 74 w.heap.size (Nat.le_refl _)).alloc _
 have pQ:((w.alloc (.cells #[.slice (some ⟨b0,o0,none⟩) 3 c0,.slice (some ⟨b1,o1,none⟩) 4 c1,.slice (some ⟨b2,o2,none⟩) 2 c2,.slice (some ⟨b3,o3,none⟩) 6 c3] 74)).alloc (.cells #[] 5)).ownsRow w.heap.size 5 1 (.slice (some ⟨w.heap.size+1,0,none⟩) 0 0) 0 (u8s []):=by
  have h9:=X4 (w.alloc (.cells #[.slice (some ⟨b0,o0,none⟩) 3 c0,.slice (some ⟨b1,o1,none⟩) 4 c1,.slice (some ⟨b2,o2,none⟩) 2 c2,.slice (some ⟨b3,o3,none⟩) 6 c3] 74)) 5 1 w.heap.size (by simp)
  simp only [World.size_alloc] at h9
  exact h9
 go_enter Tryz.func81,Tryz.ntmps81
 go_wp2_with fail
 generalize ((w.alloc (.cells #[.slice (some ⟨b0,o0,none⟩) 3 c0,.slice (some ⟨b1,o1,none⟩) 4 c1,.slice (some ⟨b2,o2,none⟩) 2 c2,.slice (some ⟨b3,o3,none⟩) 6 c3] 74)).alloc (.cells #[] 5))=W0 at *
 generalize w.heap.size+1=Q at *
 have g0:W0.cell? ⟨w.heap.size,0,none⟩=some (.slice (some ⟨b0,o0,none⟩) 3 c0):=by simpa using pP.cellAt 0 (by simp)
 have g1:W0.cell? ⟨w.heap.size,1,none⟩=some (.slice (some ⟨b1,o1,none⟩) 4 c1):=by simpa using pP.cellAt 1 (by simp)
 have g2:W0.cell? ⟨w.heap.size,2,none⟩=some (.slice (some ⟨b2,o2,none⟩) 2 c2):=by simpa using pP.cellAt 2 (by simp)
 have g3:W0.cell? ⟨w.heap.size,3,none⟩=some (.slice (some ⟨b3,o3,none⟩) 6 c3):=by simpa using pP.cellAt 3 (by simp)
 refine wp_region_held_drew (S:=(fun w'=>w'.cell? ⟨w.heap.size,0,none⟩=some (.slice (some ⟨b0,o0,none⟩) 3 c0)∧w'.cell? ⟨w.heap.size,1,none⟩=some (.slice (some ⟨b1,o1,none⟩) 4 c1)∧w'.cell? ⟨w.heap.size,2,none⟩=some (.slice (some ⟨b2,o2,none⟩) 2 c2)∧w'.cell? ⟨w.heap.size,3,none⟩=some (.slice (some ⟨b3,o3,none⟩) 6 c3))) (by kernel_rfl) ⟨g0,g1,g2,g3⟩ (fun hS0=>?_)
 refine tkm 1 8 (.pointer (some ⟨w.heap.size,0,none⟩)) ?_
 refine tkm 2 9 (.slice (some ⟨b0,o0,none⟩) 3 c0) ?_
 refine tkm 4 11 (.pointer (some ⟨w.heap.size,1,none⟩)) ?_
 refine tkm 5 12 (.slice (some ⟨b1,o1,none⟩) 4 c1) ?_
 refine tkm 7 14 (.pointer (some ⟨w.heap.size,2,none⟩)) ?_
 refine tkm 8 15 (.slice (some ⟨b2,o2,none⟩) 2 c2) ?_
 refine tkm 10 17 (.pointer (some ⟨w.heap.size,3,none⟩)) ?_
 refine tkm 11 18 (.slice (some ⟨b3,o3,none⟩) 6 c3) ?_
 refine tkr 0 7 (fun K hK=>?_)
 have hsz0:w.heap.size≤W0.heap.size:=bw.size
 have q0:=(X4 W0 3 1 w.heap.size hsz0).drew
 have hal:Below W0.heap.size W0 (W0.alloc (.cells #[] 3)).drew:=by go_grown
 replace bw:=Zb bw hal
 replace pP:=Ze pP hal
 replace pQ:=Ze pQ hal
 clear hal
 have y0:(W0.alloc (.cells #[] 3)).drew.cell? ⟨w.heap.size,0,none⟩=some (.slice (some ⟨b0,o0,none⟩) 3 c0):=by simpa using pP.cellAt 0 (by simp)
 have y1:(W0.alloc (.cells #[] 3)).drew.cell? ⟨w.heap.size,1,none⟩=some (.slice (some ⟨b1,o1,none⟩) 4 c1):=by simpa using pP.cellAt 1 (by simp)
 have y2:(W0.alloc (.cells #[] 3)).drew.cell? ⟨w.heap.size,2,none⟩=some (.slice (some ⟨b2,o2,none⟩) 2 c2):=by simpa using pP.cellAt 2 (by simp)
 have y3:(W0.alloc (.cells #[] 3)).drew.cell? ⟨w.heap.size,3,none⟩=some (.slice (some ⟨b3,o3,none⟩) 6 c3):=by simpa using pP.cellAt 3 (by simp)
 go_simp
 refine hK.out _ _ ⟨y0,y1,y2,y3⟩ (fun hS1=>?_)
 clear hK y0 y1 y2 y3
 generalize (W0.alloc (.cells #[] 3)).drew=U0 at *
 refine tkr 3 10 (fun K hK=>?_)
 refine Y5 rfl _ _ 72 rfl w.heap.size 3 i0 (.int .i64 0) 1 8 Tryz.underlying72 hi hz0 hz1 hz2 rfl (by decide) _ _ _ rfl q0 ⟨b0,o0,none⟩ 3 c0 (m0.map (Value.int .i64)) rfl (by simp [l0]) (XE (j0.below bw)) (Wh _) (by unfold maxLen;omega) (by omega) bw.size ?_
 intro v1 U1 q1 gr1
 replace pP:=pP.kept gr1 (Yh pP q0 (by decide))
 replace pQ:=pQ.kept gr1 (Yh pQ q0 (by decide))
 replace bw:=bw.grown gr1 bw.size (fun k hk=>(q0.lt k hk).1)
 have y0:U1.cell? ⟨w.heap.size,0,none⟩=some (.slice (some ⟨b0,o0,none⟩) 3 c0):=by simpa using pP.cellAt 0 (by simp)
 have y1:U1.cell? ⟨w.heap.size,1,none⟩=some (.slice (some ⟨b1,o1,none⟩) 4 c1):=by simpa using pP.cellAt 1 (by simp)
 have y2:U1.cell? ⟨w.heap.size,2,none⟩=some (.slice (some ⟨b2,o2,none⟩) 2 c2):=by simpa using pP.cellAt 2 (by simp)
 have y3:U1.cell? ⟨w.heap.size,3,none⟩=some (.slice (some ⟨b3,o3,none⟩) 6 c3):=by simpa using pP.cellAt 3 (by simp)
 refine hK.out _ _ ⟨y0,y1,y2,y3⟩ (fun hS2=>?_)
 clear hK y0 y1 y2 y3 q0 gr1
 simp only [Act.put,tka,tkb,tkc]
 refine tkr 6 13 (fun K hK=>?_)
 refine Y5 rfl _ _ 72 rfl w.heap.size 3 i0 (.int .i64 0) 1 8 Tryz.underlying72 hi hz0 hz1 hz2 rfl (by decide) _ _ _ rfl q1 ⟨b1,o1,none⟩ 4 c1 (m1.map (Value.int .i64)) rfl (by simp [l1]) (XE (j1.below bw)) (Wh _) (by unfold maxLen;omega) (by omega) bw.size ?_
 intro v2 U2 q2 gr2
 replace pP:=pP.kept gr2 (Yh pP q1 (by decide))
 replace pQ:=pQ.kept gr2 (Yh pQ q1 (by decide))
 replace bw:=bw.grown gr2 bw.size (fun k hk=>(q1.lt k hk).1)
 have y0:U2.cell? ⟨w.heap.size,0,none⟩=some (.slice (some ⟨b0,o0,none⟩) 3 c0):=by simpa using pP.cellAt 0 (by simp)
 have y1:U2.cell? ⟨w.heap.size,1,none⟩=some (.slice (some ⟨b1,o1,none⟩) 4 c1):=by simpa using pP.cellAt 1 (by simp)
 have y2:U2.cell? ⟨w.heap.size,2,none⟩=some (.slice (some ⟨b2,o2,none⟩) 2 c2):=by simpa using pP.cellAt 2 (by simp)
 have y3:U2.cell? ⟨w.heap.size,3,none⟩=some (.slice (some ⟨b3,o3,none⟩) 6 c3):=by simpa using pP.cellAt 3 (by simp)
 refine hK.out _ _ ⟨y0,y1,y2,y3⟩ (fun hS3=>?_)
 clear hK y0 y1 y2 y3 q1 gr2
 simp only [Act.put,tka,tkb,tkc]
 refine tkr 9 16 (fun K hK=>?_)
 refine Y5 rfl _ _ 72 rfl w.heap.size 3 i0 (.int .i64 0) 1 8 Tryz.underlying72 hi hz0 hz1 hz2 rfl (by decide) _ _ _ rfl q2 ⟨b2,o2,none⟩ 2 c2 (m2.map (Value.int .i64)) rfl (by simp [l2]) (XE (j2.below bw)) (Wh _) (by unfold maxLen;omega) (by omega) bw.size ?_
 intro v3 U3 q3 gr3
 replace pP:=pP.kept gr3 (Yh pP q2 (by decide))
 replace pQ:=pQ.kept gr3 (Yh pQ q2 (by decide))
 replace bw:=bw.grown gr3 bw.size (fun k hk=>(q2.lt k hk).1)
 have y0:U3.cell? ⟨w.heap.size,0,none⟩=some (.slice (some ⟨b0,o0,none⟩) 3 c0):=by simpa using pP.cellAt 0 (by simp)
 have y1:U3.cell? ⟨w.heap.size,1,none⟩=some (.slice (some ⟨b1,o1,none⟩) 4 c1):=by simpa using pP.cellAt 1 (by simp)
 have y2:U3.cell? ⟨w.heap.size,2,none⟩=some (.slice (some ⟨b2,o2,none⟩) 2 c2):=by simpa using pP.cellAt 2 (by simp)
 have y3:U3.cell? ⟨w.heap.size,3,none⟩=some (.slice (some ⟨b3,o3,none⟩) 6 c3):=by simpa using pP.cellAt 3 (by simp)
 refine hK.out _ _ ⟨y0,y1,y2,y3⟩ (fun hS4=>?_)
 clear hK y0 y1 y2 y3 q2 gr3
 simp only [Act.put,tka,tkb,tkc]
 refine tkr 12 19 (fun K hK=>?_)
 refine Y5 rfl _ _ 72 rfl w.heap.size 3 i0 (.int .i64 0) 1 8 Tryz.underlying72 hi hz0 hz1 hz2 rfl (by decide) _ _ _ rfl q3 ⟨b3,o3,none⟩ 6 c3 (m3.map (Value.int .i64)) rfl (by simp [l3]) (XE (j3.below bw)) (Wh _) (by unfold maxLen;omega) (by omega) bw.size ?_
 intro v4 U4 q4 gr4
 replace pP:=pP.kept gr4 (Yh pP q3 (by decide))
 replace pQ:=pQ.kept gr4 (Yh pQ q3 (by decide))
 replace bw:=bw.grown gr4 bw.size (fun k hk=>(q3.lt k hk).1)
 have y0:U4.cell? ⟨w.heap.size,0,none⟩=some (.slice (some ⟨b0,o0,none⟩) 3 c0):=by simpa using pP.cellAt 0 (by simp)
 have y1:U4.cell? ⟨w.heap.size,1,none⟩=some (.slice (some ⟨b1,o1,none⟩) 4 c1):=by simpa using pP.cellAt 1 (by simp)
 have y2:U4.cell? ⟨w.heap.size,2,none⟩=some (.slice (some ⟨b2,o2,none⟩) 2 c2):=by simpa using pP.cellAt 2 (by simp)
 have y3:U4.cell? ⟨w.heap.size,3,none⟩=some (.slice (some ⟨b3,o3,none⟩) 6 c3):=by simpa using pP.cellAt 3 (by simp)
 refine hK.out _ _ ⟨y0,y1,y2,y3⟩ (fun hS5=>?_)
 clear hK y0 y1 y2 y3 q3 gr4
 simp only [Act.put,tka,tkb,tkc]
 refine tkm 13 4 v4 ?_
 refine wpAnyH_done (by kernel_rfl) ?_ _
 clear hS0 hS1 hS2 hS3 hS4 hS5 pP g0 g1 g2 g3 hsz0 hi hz0 hz1 hz2
 have q5:U4.ownsRow w.heap.size 3 1 v4 15 (zs.map (Value.int .i64)):=by
  rw [hall]
  simpa [List.append_assoc] using q4
 clear q4 hall
 obtain ⟨g,capA,rfl⟩:∃ g c,v4=.slice (some ⟨g,0,none⟩) 15 c:=by
  rcases q5.2 with ⟨rfl,h5⟩ | ⟨g,cap,cur,hv,_⟩
  ·exact absurd h5 (by decide)
  exact ⟨g,cap,hv⟩
 have hl15:zs.length=15:=by simpa using q5.1
 have HL:Hid (zs.length=15):=hl15
 clear hl15
 obtain ⟨i8,hi8,hy0,hy1,hy2⟩:=info_parts PD
 go_wp2
 go_loopw [3,5] (fun so si wr=>∃ j:Nat,j≤15∧si=.int .i64 j∧wr.ownsRow w.heap.size 5 1 so j (u8s ((zs.map fun z=>48+z).take j))∧wr.ownsRow w.heap.size 3 1 (.slice (some ⟨g,0,none⟩) 15 capA) 15 (zs.map (Value.int .i64))∧Below w.heap.size w wr) (fun _ si _=>15 - (intOf si).toNat)
 case atStart=>exact ⟨0,by omega,rfl,by simpa using pQ,q5,bw⟩
 case round =>
  clear pQ q5 bw
  obtain ⟨j,hj,rfl,hr,hq,hbw⟩:=hrel
  by_cases hlt:j<15
  ·have hjl:j<zs.length:=by rw [HL.out];exact hlt
   have hc:wr.cell? ⟨g,j,none⟩=some (.int .i64 (zs.getD j 0)):=by
    have:=hq.cellAt j (by omega)
    rw [this]
    simp [List.getD,hjl]
   have hx:=HD.out (zs.getD j 0) (by simp [List.getD,hjl])
   have HX:Hid ((zs.map fun z=>48+z).take (j+1)=(zs.map fun z=>48+z).take j++[48+zs.getD j 0]):=by
    rw [Hid,List.take_succ_eq_append_getElem (by simpa using hjl)]
    simp [List.getD,hjl]
   obtain ⟨d,hd⟩:∃ d:Nat,zs.getD j 0=(d:Int):=⟨(zs.getD j 0).toNat,by omega⟩
   rw [hd] at hc hx HX
   have hd9:d≤9:=by omega
   clear hx hd hjl
   have hsz:=hbw.size
   have hj15:(j:Int)<15:=by omega
   go_wp2_with (at_builtin;refine wpList_append_own _ rfl _ _ 22 rfl w.heap.size 5 i8 (.int .u8 0) 1 1 Tryz.underlying22 hi8 hy0 hy1 hy2 rfl (by decide) _ _ _ rfl (hr.alloc _) ⟨wr.heap.size,0,none⟩ 1 1 [.int .u8 (48+(d:Int))] rfl rfl (cell_one_new _ _ _) (UU _) ?c3 ?c4 ?c5 ?_)
   case c3=>unfold maxLen;omega
   case c4=>omega
   case c5=>simp;omega
   intro v' w2 hown' hgrow _
   have R:w2.ownsRow w.heap.size 5 1 v' (j+1) (u8s ((zs.map fun z=>48+z).take (j+1))):=by
    rw [HX.out]
    simpa [u8s] using hown'
   have hq2:=(hq.alloc (.cells #[.int .u8 (48+(d:Int))] 5)).kept hgrow (Yh hq hr (by decide))
   have b2:Below w.heap.size w w2:=(hbw.alloc hsz _).grown hgrow (by simp;omega) (fun k hk=>(hr.lt k hk).1)
   clear hown' hgrow hr hq hbw hc HX
   go_wp2
   go_roundw
   case rel=>exact ⟨j+1,by omega,by go_num,R,hq2,b2⟩
   case measure=>simp [intOf];omega
  obtain rfl:j=15:=by omega
  have hfull:(zs.map fun z=>48+z).take 15=zs.map fun z=>48+z:=List.take_of_length_le (by simp [HL.out])
  rw [hfull] at hr
  have hcv:=Vy hr
  rw [← HF.out] at hcv
  clear hr hq hfull
  go_wp2
  go_ret
  exact ⟨rfl,hbw⟩


def Blk (w:World) (g:Nat) (t:TypeId) (cs:List Value):Prop:=w.heap[g]?=some (.cells cs.toArray t (0,0))
theorem Blk.lt {w:World} {g t:Nat} {cs:List Value} (h:Blk w g t cs):g<w.heap.size:=(Array.getElem?_eq_some_iff.1 h).1
theorem Blk.cell {w:World} {g t:Nat} {cs:List Value} (h:Blk w g t cs) (i:Nat):w.cell? ⟨g,i,none⟩=cs[i]?:=by
 unfold Blk at h
 simp [World.cell?,h]
theorem Blk.frozen {w:World} {g t:Nat} {cs:List Value} (h:Blk w g t cs) (i:Nat):w.frozen? ⟨g,i,none⟩=false:=by
 unfold Blk at h
 simp [World.frozen?,h]
theorem Blk.set {w:World} {g t:Nat} {cs:List Value} (h:Blk w g t cs) (i:Nat) (v:Value):Blk (w.setCell ⟨g,i,none⟩ v) g t (cs.set i v):=by
 have hl:=h.lt
 unfold Blk at h ⊢
 simp [World.setCell,Array.getElem?_modify,h]
theorem Blk.below {w w':World} {g t:Nat} {cs:List Value} (h:Blk w g t cs) (hb:Below w.heap.size w w'):Blk w' g t cs:=(hb.block g h.lt).trans h
theorem Blk.new (w:World) (t:Nat) (cs:List Value):Blk (w.alloc (.cells cs.toArray t)) w.heap.size t cs:=by
 show (w.heap.push _)[w.heap.size]?=_
 simp
theorem Blk.drew {w:World} {g t:Nat} {cs:List Value} (h:Blk w g t cs):Blk w.drew g t cs:=h
theorem Blk.drewN {w:World} {g t:Nat} {cs:List Value} (h:Blk w g t cs) (d:Nat):Blk (w.drewN d) g t cs:=h
theorem Blk.off {w:World} {g t:Nat} {cs:List Value} (h:Blk w g t cs) (p:Addr) (v:Value) (hp:g≠p.block):Blk (w.setCell p v) g t cs:=(Below.heap_setCell w p v g hp).trans h


def Yn (rows:List (List I3)) (k:Nat):List I3:=rows.getD k []
def Z1 (rows:List (List I3)) (m:V4) (k:Nat):Bool:=decide (((Yn rows k).length:Int)≤m.1.getD k 0)
def Yq (rows:List (List I3)) (m:V4) (k:Nat):I3:=(Yn rows k).getD (m.1.getD k 0).toNat (0,0,0)
def XP (m:V4) (x:I3):Bool:=decide (x.1=5) && !decide (m.2.2.1.getD x.2.1.toNat 0=0)
def Qm (rows:List (List I3)) (m:V4) (k:Nat):Bool:=!Z1 rows m k && XP m (Yq rows m k)
def YA (rows:List (List I3)) (m:V4) (k:Nat):Bool:=!Z1 rows m k && !XP m (Yq rows m k)
def Zj (rows:List (List I3)) (m:V4):Nat→List Int
 | 0=>[]
 | k+1=>if YA rows m k then Zj rows m k++[(k:Int)] else Zj rows m k
def XX (rows:List (List I3)) (m:V4) (k:Nat):Bool:=(List.range' k (3 - k)).any fun i=>!Z1 rows m i
def Xh (rows:List (List I3)) (m:V4):Bool:=decide (Zj rows m 3=[]) && XX rows m 0
def ZC (m:V4) (x:I3) (k:Nat):V4 × Int:=
 if x.1=1 then ((m.1.set k (m.1.getD k 0+1),m.2.1,m.2.2.1,m.2.2.2.set (k*2+x.2.1.toNat) (m.2.1.getD x.2.2.toNat 0)),0)
 else if x.1=2 then ((m.1.set k (m.1.getD k 0+1),m.2.1.set x.2.1.toNat (m.2.2.2.getD (k*2+x.2.2.toNat) 0),m.2.2.1,m.2.2.2),0)
 else if x.1=3 then ((m.1.set k (m.1.getD k 0+1),m.2.1,m.2.2.1,m.2.2.2.set (k*2+x.2.1.toNat) x.2.2),0)
 else if x.1=4 then ((m.1.set k (m.1.getD k 0+1),m.2.1,m.2.2.1,m.2.2.2.set (k*2+x.2.1.toNat) ((m.2.2.2.getD (k*2+x.2.1.toNat) 0+x.2.2) % 10)),0)
 else if x.1=5 then ((m.1.set k (m.1.getD k 0+1),m.2.1,m.2.2.1.set x.2.1.toNat (k+1),m.2.2.2),0)
 else if x.1=6 then
  if m.2.2.1.getD x.2.1.toNat 0=k+1 then ((m.1.set k (m.1.getD k 0+1),m.2.1,m.2.2.1.set x.2.1.toNat 0,m.2.2.2),0)
  else ((m.1.set k (m.1.getD k 0+1),m.2.1,m.2.2.1,m.2.2.2),13)
 else if x.1=7 then
  if m.2.2.2.getD (k*2+x.2.1.toNat) 0=0 then ((m.1.set k (m.1.getD k 0+1),m.2.1,m.2.2.1,m.2.2.2),0)
  else ((m.1.set k x.2.2,m.2.1,m.2.2.1,m.2.2.2),0)
 else if m.2.2.2.getD (k*2+x.2.1.toNat) 0=x.2.2 then ((m.1.set k (m.1.getD k 0+1),m.2.1,m.2.2.1,m.2.2.2),0)
 else ((m.1.set k (m.1.getD k 0+1),m.2.1,m.2.2.1,m.2.2.2),12)

theorem RO (rows:List (List I3)) (m:V4) {k:Nat} (hk:k<3):XX rows m k=(!Z1 rows m k || XX rows m (k+1)):=by
 unfold XX
 obtain ⟨n,hn⟩:∃ n,3 - k=n+1:=⟨3 - k - 1,by omega⟩
 have hn':3 - (k+1)=n:=by omega
 rw [hn,hn',List.range'_succ,List.any_cons]
theorem QO (rows:List (List I3)) (m:V4):XX rows m 3=false:=rfl

theorem Uf {m:V4} (h:Zk m=true):∃ p0 p1 p2 v0 v1 v2 v3 h0 h1 x0 y0 x1 y1 x2 y2:Int,m=([p0,p1,p2],[v0,v1,v2,v3],[h0,h1],[x0,y0,x1,y1,x2,y2]):=by
 obtain ⟨l0,l1,l2,l3,_⟩:=ZT h
 obtain ⟨a,b,c,d⟩:=m
 simp only at l0 l1 l2 l3
 match a,b,c,d,l0,l1,l2,l3 with
 | [p0,p1,p2],[v0,v1,v2,v3],[h0,h1],[x0,y0,x1,y1,x2,y2],_,_,_,_=>exact ⟨p0,p1,p2,v0,v1,v2,v3,h0,h1,x0,y0,x1,y1,x2,y2,rfl⟩
theorem Yi {m:V4} (h:Zk m=true):(∀ z ∈ m.1,0≤z∧z≤6)∧(∀ z ∈ m.2.1,0≤z∧z≤9)∧(∀ z ∈ m.2.2.1,0≤z∧z≤3)∧∀ z ∈ m.2.2.2,0≤z∧z≤9:=by
 unfold Zk at h
 simp only [Bool.and_eq_true] at h
 exact ⟨(YP h.1).2,(YP h.2.1).2,(YP h.2.2.1).2,(YP h.2.2.2).2⟩
theorem Xn {zs:List Int} {lo hi:Int} (h:∀ z ∈ zs,lo≤z∧z≤hi) (h0:lo≤0∧0≤hi) (k:Nat):lo≤zs.getD k 0∧zs.getD k 0≤hi:=by
 rcases Nat.lt_or_ge k zs.length with hk | hk
 ·simp only [List.getD,List.getElem?_eq_getElem hk,Option.getD_some]
  exact h _ (List.getElem_mem hk)
 simp [List.getD,List.getElem?_eq_none hk,h0]

def Zf (c0 c1 c2:Value) (m:V4):List Value:=
 [c0,.int .i64 (m.1.getD 0 0),.int .i64 (m.2.2.2.getD 0 0),.int .i64 (m.2.2.2.getD 1 0),
  c1,.int .i64 (m.1.getD 1 0),.int .i64 (m.2.2.2.getD 2 0),.int .i64 (m.2.2.2.getD 3 0),
  c2,.int .i64 (m.1.getD 2 0),.int .i64 (m.2.2.2.getD 4 0),.int .i64 (m.2.2.2.getD 5 0),
  .int .i64 (m.2.1.getD 0 0),.int .i64 (m.2.1.getD 1 0),.int .i64 (m.2.1.getD 2 0),.int .i64 (m.2.1.getD 3 0),
  .int .i64 (m.2.2.1.getD 0 0),.int .i64 (m.2.2.1.getD 1 0)]
def Fq (c0 c1 c2:Value) (k:Nat):Value:=[c0,c1,c2].getD k undef

section
variable (c0 c1 c2 : Value) (m : V4)
theorem G0 {k:Nat} (hk:k<3):(Zf c0 c1 c2 m)[k*4]?=some (Fq c0 c1 c2 k):=by
 match k,hk with
 | 0,_=>rfl
 | 1,_=>rfl
 | 2,_=>rfl
theorem Fv {k:Nat} (hk:k<3):(Zf c0 c1 c2 m)[k*4+1]?=some (.int .i64 (m.1.getD k 0)):=by
 match k,hk with
 | 0,_=>rfl
 | 1,_=>rfl
 | 2,_=>rfl
theorem VZ {k a:Nat} (hk:k<3) (ha:a<2):(Zf c0 c1 c2 m)[k*4+2+a]?=some (.int .i64 (m.2.2.2.getD (k*2+a) 0)):=by
 match k,hk,a,ha with
 | 0,_,0,_=>rfl
 | 1,_,0,_=>rfl
 | 2,_,0,_=>rfl
 | 0,_,1,_=>rfl
 | 1,_,1,_=>rfl
 | 2,_,1,_=>rfl
theorem Hk {a:Nat} (ha:a<4):(Zf c0 c1 c2 m)[12+a]?=some (.int .i64 (m.2.1.getD a 0)):=by
 match a,ha with
 | 0,_=>rfl
 | 1,_=>rfl
 | 2,_=>rfl
 | 3,_=>rfl
theorem Rb {a:Nat} (ha:a<2):(Zf c0 c1 c2 m)[16+a]?=some (.int .i64 (m.2.2.1.getD a 0)):=by
 match a,ha with
 | 0,_=>rfl
 | 1,_=>rfl
end

section
variable (c0 c1 c2 : Value) (m : V4) (h : Zk m = true)
include h
end
end Go.Proofs.YtmhlokahmblboaaGreatDoor
