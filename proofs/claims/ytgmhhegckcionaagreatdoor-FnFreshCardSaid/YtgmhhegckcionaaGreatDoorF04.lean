/-
  Joined: CodeS.
-/
import Derived.Test.YtgmhhegckcionaaGreatDoorF03

namespace Go.Proofs.YtgmhhegckcionaaGreatDoor
set_option maxRecDepth 100000
set_option maxHeartbeats 16000000
open Go.RowKit

theorem Rt (a:Option Addr) (len cap:Nat) (rows:List (List I3)) (w:World) (h:YT w a len cap rows) :
  Calls Tryz.prog 40 #[.agg #[.slice a len cap]] w fun e w'=>e=.returned (.bool (Zf rows))∧Below w.heap.size w w':=by
 obtain ⟨fin,hfin⟩:∃ fin,fin=Zf rows:=⟨_,rfl⟩
 rw [← hfin]
 obtain ⟨hl,hlc,hcm,hcase⟩:=h
 unfold maxLen at hcm
 by_cases h3:len=3
 ·subst h3
  have hfin':Hid (fin=(rows.drop 0).all ZP):=by rw [Hid,hfin,Zf,decide_eq_true hl];rfl
  clear hfin
  rcases hcase with h0 | ⟨b,off,rfl,hblt,hcell⟩
  ·omega
  go_enter Tryz.func40,Tryz.ntmps40
  go_wp2
  go_loopw [3] (fun si wr=>∃ (k:Nat),k≤3∧si=.int .i64 k∧Hid (fin=(rows.drop k).all ZP)∧wr.cell? ⟨w.heap.size,0,none⟩=some (.slice (some ⟨b,off,none⟩) 3 cap)∧Below w.heap.size w wr) (fun si _=>3 - (intOf si).toNat)
  case atStart=>exact ⟨0,by omega,rfl,hfin',by simp [go_sem],by go_grown⟩
  case round =>
   obtain ⟨k,hk,rfl,hH,hP,hbel⟩:=hrel
   by_cases hlt:k<3
   ·have hlt2:(k:Int)<3:=by omega
    obtain ⟨a',len',cap',hc,hI⟩:=hcell k hlt
    have hst:=Mt (rows:=rows) (k:=k) (by omega)
    generalize rows.getD k []=xs at hI hst
    have hst':Hid ((rows.drop k).all ZP=(ZP xs && (rows.drop (k+1)).all ZP)):=hst
    clear hst hcell
    have hc':wr.cell? ⟨b,off+k,none⟩=some (.slice a' len' cap'):=by rw [hbel.cell (p:=⟨b,_,none⟩) hblt];exact hc
    obtain ⟨hl',hlc',hcm',_,hcase'⟩:=hI
    unfold maxLen at hcm'
    by_cases h6:len'≤6
    ·obtain ⟨p,hp⟩:∃ p,p=ZP xs:=⟨_,rfl⟩
     rw [← hp] at hst'
     have hp':Hid (p=Z4 len' 0 (xs.drop 0)):=by rw [Hid,hp,ZP,hl',decide_eq_true h6];rfl
     clear hp
     go_wp2
     go_loopw [4] (fun si wi=>∃ (i:Nat),i≤len'∧si=.int .i64 i∧Hid (p=Z4 len' i (xs.drop i))∧wi.cell? ⟨w.heap.size,0,none⟩=some (.slice (some ⟨b,off,none⟩) 3 cap)∧Below w.heap.size w wi) (fun si _=>len' - (intOf si).toNat)
     case atStart=>exact ⟨0,by omega,rfl,hp',hP,hbel⟩
     case round =>
      clear hP hbel hc'
      obtain ⟨i,hi,rfl,hHi,hP,hbel⟩:=hrel
      have hc':wr.cell? ⟨b,off+k,none⟩=some (.slice a' len' cap'):=by rw [hbel.cell (p:=⟨b,_,none⟩) hblt];exact hc
      by_cases hil:i<len'
      ·have hil2:(i:Int)<(len':Int):=by omega
       rcases hcase' with h0 | ⟨b',off',rfl,hblt',hcell'⟩
       ·omega
       obtain ⟨c0,c1,c2⟩:=hcell' i hil
       have hsi:=RN (n:=len') (xs:=xs) (k:=i) (by omega)
       generalize xs.getD i (0,0,0)=x at c0 c1 c2 hsi
       have hsi':Hid (Z4 len' i (xs.drop i)=((okI x && WY x i len') && Z4 len' (i+1) (xs.drop (i+1)))):=hsi
       clear hsi hcell'
       have d0:wr.cell? ⟨b',off'+i*3,none⟩=some (.int .i64 x.1):=by rw [hbel.cell (p:=⟨b',_,none⟩) hblt'];exact c0
       have d1:wr.cell? ⟨b',off'+i*3+1,none⟩=some (.int .i64 x.2.1):=by rw [hbel.cell (p:=⟨b',_,none⟩) hblt'];exact c1
       have d2:wr.cell? ⟨b',off'+i*3+2,none⟩=some (.int .i64 x.2.2):=by rw [hbel.cell (p:=⟨b',_,none⟩) hblt'];exact c2
       clear c0 c1 c2
       go_wp2_with fail
       have e0:(wr.alloc (.cells #[.int .i64 x.1,.int .i64 x.2.1,.int .i64 x.2.2] 122)).cell? ⟨wr.heap.size,0,none⟩=some (.int .i64 x.1):=by simp [go_sem]
       have e1:(wr.alloc (.cells #[.int .i64 x.1,.int .i64 x.2.1,.int .i64 x.2.2] 122)).cell? ⟨wr.heap.size,1,none⟩=some (.int .i64 x.2.1):=by simp [go_sem]
       have e2:(wr.alloc (.cells #[.int .i64 x.1,.int .i64 x.2.1,.int .i64 x.2.2] 122)).cell? ⟨wr.heap.size,2,none⟩=some (.int .i64 x.2.2):=by simp [go_sem]
       have hP0:(wr.alloc (.cells #[.int .i64 x.1,.int .i64 x.2.1,.int .i64 x.2.2] 122)).cell? ⟨w.heap.size,0,none⟩=some (.slice (some ⟨b,off,none⟩) 3 cap):=Za (by go_grown) _ _ hP
       have hc0:(wr.alloc (.cells #[.int .i64 x.1,.int .i64 x.2.1,.int .i64 x.2.2] 122)).cell? ⟨b,off+k,none⟩=some (.slice (some ⟨b',off',none⟩) len' cap'):=Za (by go_grown) _ _ hc'
       have hbel0:Below w.heap.size w (wr.alloc (.cells #[.int .i64 x.1,.int .i64 x.2.1,.int .i64 x.2.2] 122)):=Zb hbel (by go_grown)
       clear hP hc' hbel d0 d1 d2
       generalize wr.alloc (.cells #[.int .i64 x.1,.int .i64 x.2.1,.int .i64 x.2.2] 122)=w0 at e0 e1 e2 hP0 hc0 hbel0
       generalize wr.heap.size=X at e0 e1 e2
       obtain ⟨x0,x1,x2⟩:=x
       have hk0:(0:Int)≤(k:Int):=by omega
       have hi1:IntKind.i64.wrap ((i:Int)+1)=(i:Int)+1:=IntWalk.i64_in _ ⟨by omega,by omega⟩
       have kI:=GH (x0,x1,x2)
       have kL:=YP x2 ((i:Int)+1) len'
       unfold I3.val at kI
       simp only [] at e0 e1 e2 kI
       cases hq:okI (x0,x1,x2)
       ·rw [hq] at kI
        have hff:fin=false:=by rw [hH.out,hst'.out,hHi.out,hsi'.out,hq];rfl
        subst hff
        clear hH hst' hHi hsi' hq
        refine wp_region_held_drew (S:=(fun w'=>w'.cell? ⟨X,0,none⟩=some (.int .i64 x0)∧w'.cell? ⟨X,1,none⟩=some (.int .i64 x1)∧w'.cell? ⟨X,2,none⟩=some (.int .i64 x2)∧w'.cell? ⟨w.heap.size,0,none⟩=some (.slice (some ⟨b,off,none⟩) 3 cap)∧w'.cell? ⟨b,off+k,none⟩=some (.slice (some ⟨b',off',none⟩) len' cap'))) (by kernel_rfl) ⟨e0,e1,e2,hP0,hc0⟩ (fun hHeld=>?_)
        refine tkm 0 39 (.agg #[.int .i64 x0,.int .i64 x1,.int .i64 x2]) ?_
        refine tkr 1 40 (fun K hK=>?_)
        go_simp
        refine (kI _).mono ?_
        rintro e w1 ⟨rfl,hb1⟩
        go_wp2_with fail
        refine hK.out _ _ ?_ (fun hHeld1=>?_)
        ·exact ⟨Za hb1 _ _ hHeld.1,Za hb1 _ _ hHeld.2.1,Za hb1 _ _ hHeld.2.2.1,Za hb1 _ _ hHeld.2.2.2.1,Za hb1 _ _ hHeld.2.2.2.2⟩
        clear hK hHeld
        refine tkm 2 41 (.bool true) ?_
        refine tkm 3 42 (.bool true) ?_
        refine tku 4 43 ?_
        refine tku 5 44 ?_
        refine tku 6 45 ?_
        refine tku 7 46 ?_
        refine tku 8 47 ?_
        refine tku 9 48 ?_
        refine tku 10 49 ?_
        refine tku 11 50 ?_
        refine tku 12 51 ?_
        refine tku 13 52 ?_
        refine tku 14 53 ?_
        refine tku 15 54 ?_
        refine tku 16 55 ?_
        refine tku 17 56 ?_
        refine tku 18 57 ?_
        refine tku 19 58 ?_
        refine tku 20 59 ?_
        refine tkm 21 60 (.bool true) ?_
        refine wpAnyH_done (by kernel_rfl) ?_ _
        have hb2:Below w.heap.size w w1:=Zb hbel0 (Zb (by go_grown) hb1)
        go_wp2
        go_ret
        exact ⟨rfl,hb2⟩
       rw [hq] at kI
       by_cases h7:x0=7
       ·subst h7
        have hle:WY (7,x1,x2) i len'=inB x2 ((i:Int)+1) len':=rfl
        cases hr:inB x2 ((i:Int)+1) len'
        ·rw [hr] at kL
         have hff:fin=false:=by rw [hH.out,hst'.out,hHi.out,hsi'.out,hq,hle,hr];rfl
         subst hff
         clear hH hst' hHi hsi' hq hle hr
         go_region_held3 (fun w'=>w'.cell? ⟨X,0,none⟩=some (.int .i64 7)∧w'.cell? ⟨X,1,none⟩=some (.int .i64 x1)∧w'.cell? ⟨X,2,none⟩=some (.int .i64 x2)∧w'.cell? ⟨w.heap.size,0,none⟩=some (.slice (some ⟨b,off,none⟩) 3 cap)∧w'.cell? ⟨b,off+k,none⟩=some (.slice (some ⟨b',off',none⟩) len' cap')) (first | (exact ⟨e0,e1,e2,hP0,hc0⟩) | (refine ⟨?_,?_,?_,?_,?_⟩<;>(apply Za (by assumption);assumption)) | go_keep)
          (first | (go_at_call 76;refine (kI _).mono ?_;rintro e w1 ⟨rfl,hb1⟩) | (go_at_call 77;refine (kL _).mono ?_;rintro e w2 ⟨rfl,rfl⟩))
         have hb2:Below w.heap.size w w1:=Zb hbel0 (Zb (by go_grown) hb1)
         go_wp2
         go_ret
         exact ⟨rfl,hb2⟩
        rw [hr] at kL
        have hHi':Hid (p=Z4 len' (i+1) (xs.drop (i+1))):=by rw [Hid,hHi.out,hsi'.out,hq,hle,hr];rfl
        clear hHi hsi' hq hle hr
        go_region_held3 (fun w'=>w'.cell? ⟨X,0,none⟩=some (.int .i64 7)∧w'.cell? ⟨X,1,none⟩=some (.int .i64 x1)∧w'.cell? ⟨X,2,none⟩=some (.int .i64 x2)∧w'.cell? ⟨w.heap.size,0,none⟩=some (.slice (some ⟨b,off,none⟩) 3 cap)∧w'.cell? ⟨b,off+k,none⟩=some (.slice (some ⟨b',off',none⟩) len' cap')) (first | (exact ⟨e0,e1,e2,hP0,hc0⟩) | (refine ⟨?_,?_,?_,?_,?_⟩<;>(apply Za (by assumption);assumption)) | go_keep)
         (first | (go_at_call 76;refine (kI _).mono ?_;rintro e w1 ⟨rfl,hb1⟩) | (go_at_call 77;refine (kL _).mono ?_;rintro e w2 ⟨rfl,rfl⟩))
        have hb2:Below w.heap.size w w1:=Zb hbel0 (Zb (by go_grown) hb1)
        have hP1:w1.cell? ⟨w.heap.size,0,none⟩=some (.slice (some ⟨b,off,none⟩) 3 cap):=Za (Zb (by go_grown) hb1) _ _ hP0
        go_wp2
        go_roundw
        case rel=>exact ⟨i+1,by omega,by go_num,hHi',hP1,hb2⟩
        case measure=>simp [intOf];omega
       have h7':(x0 == 7)=false:=by simpa using h7
       have hle:WY (x0,x1,x2) i len'=true:=if_neg h7
       have hHi':Hid (p=Z4 len' (i+1) (xs.drop (i+1))):=by rw [Hid,hHi.out,hsi'.out,hq,hle];rfl
       clear hHi hsi' hq hle
       refine wp_region_held_drew (S:=(fun w'=>w'.cell? ⟨X,0,none⟩=some (.int .i64 x0)∧w'.cell? ⟨X,1,none⟩=some (.int .i64 x1)∧w'.cell? ⟨X,2,none⟩=some (.int .i64 x2)∧w'.cell? ⟨w.heap.size,0,none⟩=some (.slice (some ⟨b,off,none⟩) 3 cap)∧w'.cell? ⟨b,off+k,none⟩=some (.slice (some ⟨b',off',none⟩) len' cap'))) (by kernel_rfl) ⟨e0,e1,e2,hP0,hc0⟩ (fun hHeld=>?_)
       refine tkm 0 39 (.agg #[.int .i64 x0,.int .i64 x1,.int .i64 x2]) ?_
       refine tkr 1 40 (fun K hK=>?_)
       go_simp
       refine (kI _).mono ?_
       rintro e w1 ⟨rfl,hb1⟩
       go_wp2_with fail
       refine hK.out _ _ ?_ (fun hHeld1=>?_)
       ·exact ⟨Za hb1 _ _ hHeld.1,Za hb1 _ _ hHeld.2.1,Za hb1 _ _ hHeld.2.2.1,Za hb1 _ _ hHeld.2.2.2.1,Za hb1 _ _ hHeld.2.2.2.2⟩
       clear hK hHeld
       refine tkm 2 41 (.bool false) ?_
       refine tkm 3 42 (.bool false) ?_
       refine tkm 4 43 (.pointer (some ⟨X,0,none⟩)) ?_
       refine tkm 5 44 (.int .i64 x0) ?_
       refine tkm 6 45 (.bool false) ?_
       refine tkm 7 46 (.bool false) ?_
       refine tku 8 47 ?_
       refine tku 9 48 ?_
       refine tku 10 49 ?_
       refine tku 11 50 ?_
       refine tku 12 51 ?_
       refine tku 13 52 ?_
       refine tku 14 53 ?_
       refine tku 15 54 ?_
       refine tku 16 55 ?_
       refine tku 17 56 ?_
       refine tku 18 57 ?_
       refine tku 19 58 ?_
       refine tkm 20 59 (.bool false) ?_
       refine tkm 21 60 (.bool false) ?_
       refine wpAnyH_done (by kernel_rfl) ?_ _
       have hb2:Below w.heap.size w w1:=Zb hbel0 (Zb (by go_grown) hb1)
       have hP1:w1.cell? ⟨w.heap.size,0,none⟩=some (.slice (some ⟨b,off,none⟩) 3 cap):=Za (Zb (by go_grown) hb1) _ _ hP0
       go_wp2
       go_roundw
       case rel=>exact ⟨i+1,by omega,by go_num,hHi',hP1,hb2⟩
       case measure=>simp [intOf];omega
      obtain rfl:i=len':=by omega
      have hd:Z4 i i (xs.drop i)=true:=by rw [List.drop_eq_nil_of_le (by omega)];rfl
      have hff:p=true:=hHi.out.trans hd
      subst hff
      have hH':Hid (fin=(rows.drop (k+1)).all ZP):=by rw [Hid,hH.out,hst'.out];rfl
      clear hH hst' hHi hd hcase'
      go_wp2
      go_roundw
      case rel=>exact ⟨k+1,by omega,by go_num,hH',hP,hbel⟩
      case measure=>simp [intOf];omega
    have hff:fin=false:=by rw [hH.out,hst'.out,ZP,decide_eq_false (by omega)];rfl
    subst hff
    clear hH hst'
    go_wp2
    go_ret
    exact ⟨rfl,hbel⟩
   obtain rfl:k=3:=by omega
   have hd:(rows.drop 3).all ZP=true:=by rw [List.drop_eq_nil_of_le (by omega)];rfl
   have hff:fin=true:=hH.out.trans hd
   subst hff
   clear hH hd hcell
   go_wp2
   go_ret
   exact ⟨rfl,hbel⟩
 have hff:fin=false:=by rw [hfin,Zf,decide_eq_false (by omega)];rfl
 subst hff
 clear hfin
 have h3':(len:Int)≠3:=by omega
 go_enter Tryz.func40,Tryz.ntmps40
 go_wp2
 go_ret
 exact ⟨rfl,by go_grown⟩
end Go.Proofs.YtgmhhegckcionaaGreatDoor
