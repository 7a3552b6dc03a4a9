/-
  Joined: MokI.
-/
import Derived.Test.YthlcdhddickdiaaDoorE31

namespace Go.Proofs.YthlcdhddickdiaaDoor
set_option maxRecDepth 100000
set_option maxHeartbeats 16000000
open Go.RowKit
set_option linter.unusedVariables false
set_option linter.unusedSimpArgs false

theorem memoTable_is (a:Option Addr) (n cap:Nat) (w:World) :
  Calls Tryd.prog 39 #[.agg #[.slice a n cap]] w fun e w'=>e=.returned (.agg #[.slice a n cap])∧Below w.heap.size w w':=by
 have pR:Blk ((w.alloc (.cells #[.slice a n cap] 33)).alloc (.cells #[.slice none 0 0] 67)) (w.heap.size+1) 67 [.slice none 0 0]:=blkAt _ _ _ (by simp)
 have r0:=pR.cell 0
 have fr0:=pR.frozen 0
 have pZ:=pR.set 0 (.slice a n cap)
 simp only [List.set_cons_zero] at pZ
 have z0:=pZ.cell 0
 simp only [List.getElem?_cons_zero] at z0 r0
 clear pR pZ
 go_enter Tryd.func39,Tryd.ntmps39
 go_wp2
 refine bodyPost_ret (by simp [results,Tryd.results39,go_sem,z0];try rfl) rfl ?_
 exact ⟨rfl,by go_grown⟩
theorem tableRight_is (a:Option Addr) (n cap:Nat) (es:List E3) (w:World) (h:Ents w a n cap es) :
  Calls Tryd.prog 60 #[.agg #[.slice a n cap]] w fun e w'=>e=.returned (.bool (upE es))∧Below w.heap.size w w':=by
 have bu:Below w.heap.size w (w.alloc (.cells #[.slice a n cap] 67)):=by go_grown
 have k:=risesE_is a n cap es _ (h.below bu)
 go_enter Tryd.func60,Tryd.ntmps60
 go_wp2_with fail
 refine k.mono ?_
 rintro e w1 ⟨rfl,hb⟩
 replace bu:=bel8 bu hb
 go_wp2
 go_ret
 exact ⟨rfl,bu⟩

theorem implMemoOK_is (a:Option Addr) (n cap:Nat) (es:List E3) (w:World) (h:Ents w a n cap es) (hV:VmShape w) :
  Calls Tryd.prog 36 #[.agg #[.slice a n cap]] w fun e w'=>e=.returned (.bool (memOk es))∧Below w.heap.size w w':=by
 rw [memOk_split]
 have hl:=h.1
 rw [hl]
 have bu:Below w.heap.size w (w.alloc (.cells #[.slice a n cap] 33)):=by go_grown
 have g0:(w.alloc (.cells #[.slice a n cap] 33)).cell? ⟨w.heap.size,0,none⟩=some (.slice a n cap):=by first | (simp [go_sem];done) | (simp [World.cell?];done)
 by_cases h2:n≤2000
 ·rw [decide_eq_true h2,Bool.true_and]
  have h3:¬ (2000:Int)<(n:Int):=by omega
  have kT:=fun W=>memoTable_is a n cap W
  have kU:=fun W (hb:Below w.heap.size w W)=>tableRight_is a n cap es W (h.below hb)
  obtain ⟨r,hr⟩:∃ r,r=(allE es && upE es):=⟨_,rfl⟩
  rw [← hr]
  have HR:Hid (r=(allE (es.drop 0) && upE es)):=by rw [Hid];simpa using hr
  clear hr
  generalize upE es=ue at *
  go_enter Tryd.func36,Tryd.ntmps36
  go_wp2_with fail
  generalize (w.alloc (.cells #[.slice a n cap] 33))=U at *
  go_loopw [12] (fun si wr=>∃ k:Nat,k≤n∧si=.int .i64 k∧Hid (r=(allE (es.drop k) && ue))∧Below U.heap.size U wr) (fun si _=>n - (intOf si).toNat)
  case atStart=>exact ⟨0,by omega,rfl,HR,Below.refl _ _⟩
  case round =>
   clear HR
   obtain ⟨k,hk,rfl,HR,bw⟩:=hrel
   have bx:Below w.heap.size w wr:=bel8 bu bw
   by_cases hlt:k<n
   ·obtain ⟨_,_,_,hcase⟩:=h.below bx
    rcases hcase with e0 | ⟨b,off,rfl,hb,hc⟩
    ·omega
    obtain ⟨s,x0,x1,x2,hm⟩:=hc k hlt
    clear hc hb
    have hst:=allE_drop (es:=es) (k:=k) (by omega)
    have kE:=fun W (hb:Below wr.heap.size wr W)=>implEntryOK_is (es.getD k e3d) s W (hm.below hb) ((hV.below bx).below hb)
    generalize es.getD k e3d=x at *
    have HS:Hid (allE (es.drop k)=(entOk x && allE (es.drop (k+1)))):=hst
    clear hst hm
    obtain ⟨xk,xb,xz⟩:=x
    obtain ⟨⟨a1,n1,c1⟩,⟨a2,n2,c2⟩⟩:=s
    unfold entV at kE
    simp only at x0 x1 x2 kE
    have hlt':(k:Int)<(n:Int):=by omega
    have hk0:(0:Int)≤(k:Int):=by omega
    cases hx:entOk (xk,xb,xz)
    ·have HF:Hid (r=false):=by rw [Hid,HR.out,HS.out,hx];rfl
     rw [hx] at kE
     clear hx HS HR
     go_wp2_with fail
     refine (kE _ (by go_grown)).mono ?_
     rintro e w1 ⟨rfl,hb1⟩
     have bw1:=bel8 bx (bel8 (by go_grown) hb1)
     clear hb1 x0 x1 x2 kE
     go_wp2
     go_ret
     exact ⟨by rw [HF.out];rfl,bw1⟩
    ·have HF:Hid (r=(allE (es.drop (k+1)) && ue)):=by rw [Hid,HR.out,HS.out,hx];rfl
     rw [hx] at kE
     clear hx HS HR
     go_wp2_with fail
     refine (kE _ (by go_grown)).mono ?_
     rintro e w1 ⟨rfl,hb1⟩
     have bw1:=bel8 bw (bel8 (by go_grown) hb1)
     clear hb1 x0 x1 x2 kE
     go_wp2
     go_roundw
     case rel=>exact ⟨k+1,by omega,by go_num,HF,bw1⟩
     case measure=>simp [intOf];omega
   ·obtain rfl:k=n:=by omega
    have HF:Hid (r=ue):=by rw [Hid,HR.out,List.drop_of_length_le (by omega)];rfl
    have g1:=cell8 bw g0
    clear HR
    go_wp2_with fail
    refine (kT _).mono ?_
    rintro e w1 ⟨rfl,hb1⟩
    replace bx:=bel8 bx hb1
    clear hb1 g1
    go_wp2_with fail
    refine (kU _ bx).mono ?_
    rintro e w2 ⟨rfl,hb1⟩
    replace bx:=bel8 bx hb1
    clear hb1
    go_wp2
    go_ret
    exact ⟨by rw [HF.out];rfl,bx⟩
 ·rw [decide_eq_false h2,Bool.false_and]
  have h3:(2000:Int)<(n:Int):=by omega
  go_enter Tryd.func36,Tryd.ntmps36
  go_wp2
  go_ret
  exact ⟨rfl,bu⟩
end Go.Proofs.YthlcdhddickdiaaDoor
