/-
  Joined: BugS.
-/
import Derived.Test.YtdopgkbegjfhjaaC05
import Derived.Test.YtdopgkbegjfhjaaC07
import Derived.Test.YtdopgkbegjfhjaaC08

namespace Go.Proofs.Ytdopgkbegjfhjaa
set_option maxRecDepth 100000
set_option maxHeartbeats 16000000
open Go.RowKit
set_option linter.unusedVariables false

theorem szBugS_less (a:Option Addr) (len cap:Nat) (left:Int) (w:World) (hl:len≤maxLen) (h0:0≤left) (h1:left≤2 ^ 20) :
  Calls Try.prog 4 #[.slice a len cap,.int .i64 left] w fun e w'=>e=.returned (.int .i64 (less left len))∧w=w':=by
 unfold maxLen at hl
 unfold less
 go_enter Try.func4,Try.ntmps4
 by_cases h:left - len<0
 ·rw [if_pos h]
  go_wp2
  go_ret
  exact ⟨rfl,rfl⟩
 ·rw [if_neg h]
  go_wp2
  go_ret
  exact ⟨rfl,rfl⟩

theorem info_bug:(Try.prog.info? 33).map (fun i=>(i.zero,i.size,i.bytes))=some (some (.agg #[.int .i64 0,.int .i64 0,.int .i64 0]),3,24):=by kernel_rfl

theorem toBugS_copy (a:Option Addr) (len cap:Nat) (xs:List I3) (w:World) (h:Instrs w a len cap xs) (hn:len≤1048576) :
  Calls Try.prog 6 #[.slice a len cap] w fun e w'=>e=.returned (.slice (some ⟨w.heap.size,0,none⟩) len len) ∧
   (∃ cs,cs=flat xs∧w'.ownsRow w.heap.size 33 3 (.slice (some ⟨w.heap.size,0,none⟩) len len) len cs)∧Below w.heap.size w w':=by
 obtain ⟨i0,hi,hz0,hz1,hz2⟩:=info_parts info_bug
 have hI:=h
 obtain ⟨hl,hlc,hcm,hfit,hcase⟩:=h
 unfold maxLen at hcm
 go_enter Try.func6,Try.ntmps6
 go_wp2_with (at_make;refine wpList_make_full _ rfl _ _ 26 rfl w.heap.size 33 i0 (.agg #[.int .i64 0,.int .i64 0,.int .i64 0]) 3 Try.underlying26 hi hz0 hz1 _ _ _ _ len rfl rfl (by omega) (by omega) ?b2 ?b3 (Nat.le_refl _) ?_)
 case b2=>rw [hz2];omega
 case b3=>unfold maxLen;omega
 intro w0 hown0 hgrow0
 have hb0:Below w.heap.size w w0:=(Below.refl _ _).grown hgrow0 (Nat.le_refl _) (fun k h=>by cases h)
 obtain ⟨cs0,hcs0⟩:∃ cs0,cs0=(madeCells #[Value.int .i64 0,.int .i64 0,.int .i64 0] (len*3)).toList:=⟨_,rfl⟩
 rw [← hcs0] at hown0
 clear hgrow0 hcs0
 go_wp2
 go_loopw [4] (fun si wr=>∃ (k:Nat) (cs:List Value),k≤len∧si=.int .i64 k∧Hid (cs.take (k*3)=flat (xs.take k))∧wr.ownsRow w.heap.size 33 3 (.slice (some ⟨w.heap.size,0,none⟩) len len) len cs∧Below w.heap.size w wr) (fun si _=>len - (intOf si).toNat)
 case atStart=>exact ⟨0,cs0,by omega,rfl,by simp [Hid,flat],hown0,hb0⟩
 case round =>
  obtain ⟨k,cs,hk,rfl,hH,ho,hbel⟩:=hrel
  by_cases hlt:k<len
  ·rcases hcase with h0 | ⟨b,off,rfl,hblt,hcell⟩
   ·omega
   have hlt2:(k:Int)<(len:Int):=by omega
   obtain ⟨c0,c1,c2⟩:=hcell k hlt
   have hstep:=flat_take_succ (xs:=xs) (k:=k) (by omega)
   have hstep':Hid (flat (xs.take (k+1))=flat (xs.take k)++(xs.getD k (0,0,0)).cells):=hstep
   clear hstep hcell
   generalize xs.getD k (0,0,0)=x at c0 c1 c2 hstep'
   have d0:wr.cell? ⟨b,off+k*3,none⟩=some (.int .i64 x.1):=by rw [hbel.cell (p:=⟨b,_,none⟩) hblt];exact c0
   have d1:wr.cell? ⟨b,off+k*3+1,none⟩=some (.int .i64 x.2.1):=by rw [hbel.cell (p:=⟨b,_,none⟩) hblt];exact c1
   have d2:wr.cell? ⟨b,off+k*3+2,none⟩=some (.int .i64 x.2.2):=by rw [hbel.cell (p:=⟨b,_,none⟩) hblt];exact c2
   clear c0 c1 c2
   go_wp2_with fail
   refine (toBug_same x wr).mono ?_
   rintro e w1 ⟨rfl,hb1⟩
   clear d0 d1 d2
   have ho1:=owns_below ho hb1
   have hbel1:Below w.heap.size w w1:=bel_trans hbel hb1
   clear ho hbel hb1
   obtain ⟨x0,x1,x2⟩:=x
   have hlen:=ho1.1
   have f0:=ho1.frozenAt (k*3)
   have f1:=ho1.frozenAt (k*3+1)
   have f2:=ho1.frozenAt (k*3+2)
   obtain ⟨u0,hu0⟩:∃ u,w1.cell? ⟨w.heap.size,k*3,none⟩=some u:=⟨_,by rw [ho1.cellAt _ (by omega)];exact List.getElem?_eq_getElem (by omega)⟩
   obtain ⟨u1,hu1⟩:∃ u,w1.cell? ⟨w.heap.size,k*3+1,none⟩=some u:=⟨_,by rw [ho1.cellAt _ (by omega)];exact List.getElem?_eq_getElem (by omega)⟩
   obtain ⟨u2,hu2⟩:∃ u,w1.cell? ⟨w.heap.size,k*3+2,none⟩=some u:=⟨_,by rw [ho1.cellAt _ (by omega)];exact List.getElem?_eq_getElem (by omega)⟩
   have R:=(((ho1.stored (k*3) (.int .i64 x0)).1.stored (k*3+1) (.int .i64 x1)).1.stored (k*3+2) (.int .i64 x2)).1
   have hT:Hid ((((cs.set (k*3) (.int .i64 x0)).set (k*3+1) (.int .i64 x1)).set (k*3+2) (.int .i64 x2)).take ((k+1)*3)=flat (xs.take (k+1))):=by
    rw [Hid,hstep'.out]
    exact set3_take _ _ _ (by omega) hH.out
   have hb3:Below w.heap.size w (((w1.setCell ⟨w.heap.size,k*3,none⟩ (.int .i64 x0)).setCell ⟨w.heap.size,k*3+1,none⟩ (.int .i64 x1)).setCell ⟨w.heap.size,k*3+2,none⟩ (.int .i64 x2)):=
    ((hbel1.setCell (Nat.le_refl _) _).setCell (Nat.le_refl _) _).setCell (Nat.le_refl _) _
   clear hH hstep' ho1 hbel1
   generalize ((cs.set (k*3) (.int .i64 x0)).set (k*3+1) (.int .i64 x1)).set (k*3+2) (.int .i64 x2)=cs' at R hT
   unfold I3.val
   go_wp2
   go_roundw
   case rel=>exact ⟨k+1,cs',by omega,by go_num,hT,R,hb3⟩
   case measure=>simp [intOf];omega
  ·obtain rfl:k=len:=by omega
   clear hcase hI
   go_wp2
   go_ret
   refine ⟨rfl,⟨cs,?_,ho⟩,hbel⟩
   have h1:=hH.out
   have h2:=ho.1
   rwa [List.take_of_length_le (by omega),List.take_of_length_le (by omega)] at h1

theorem eqBugS_same (a a':Option Addr) (len cap cap':Nat) (xs:List I3) (w:World) (h:Instrs w a len cap xs) (h':Instrs w a' len cap' xs) :
  Calls Try.prog 8 #[.slice a len cap,.slice a' len cap'] w fun e w'=>e=.returned (.bool true)∧Below w.heap.size w w':=by
 obtain ⟨hl,hlc,hcm,_,hcase⟩:=h
 obtain ⟨_,hlc',hcm',_,hcase'⟩:=h'
 unfold maxLen at hcm hcm'
 have hne:((len:Int) != (len:Int))=false:=by simp
 by_cases h0:len=0
 ·subst h0
  go_enter Try.func8,Try.ntmps8
  go_wp2
  refine wp_loop_rounds 1 ?_
  rw [rounds_succ]
  go_wp2
  go_ret
  exact ⟨rfl,Below.refl _ _⟩
 ·rcases hcase with h0' | ⟨b,off,rfl,hblt,hcell⟩
  ·exact absurd h0' h0
  rcases hcase' with h0' | ⟨b',off',rfl,hblt',hcell'⟩
  ·exact absurd h0' h0
  go_enter Try.func8,Try.ntmps8
  go_wp2
  go_loopw [5] (fun si wr=>∃ k:Nat,k≤len∧si=.int .i64 k∧Below w.heap.size w wr) (fun si _=>len - (intOf si).toNat)
  case atStart=>exact ⟨0,by omega,rfl,Below.refl _ _⟩
  case round =>
   obtain ⟨k,hk,rfl,hbel⟩:=hrel
   by_cases hlt:k<len
   ·obtain ⟨c0,c1,c2⟩:=hcell k hlt
    obtain ⟨e0,e1,e2⟩:=hcell' k hlt
    rw [← hbel.cell (p:=⟨b,_,none⟩) hblt] at c0 c1 c2
    rw [← hbel.cell (p:=⟨b',_,none⟩) hblt'] at e0 e1 e2
    have hlt':(k:Int)<(len:Int):=by omega
    generalize xs.getD k (0,0,0)=x at c0 c1 c2 e0 e1 e2
    clear hcell hcell'
    go_wp2_with fail
    have hk0:(0:Int)≤(k:Int):=by omega
    go_region_held3 (fun w'=>w'.cell? ⟨b,off+k*3,none⟩=some (.int .i64 x.1)∧w'.cell? ⟨b,off+k*3+1,none⟩=some (.int .i64 x.2.1)∧w'.cell? ⟨b,off+k*3+2,none⟩=some (.int .i64 x.2.2)∧w'.cell? ⟨b',off'+k*3,none⟩=some (.int .i64 x.1)∧w'.cell? ⟨b',off'+k*3+1,none⟩=some (.int .i64 x.2.1)∧w'.cell? ⟨b',off'+k*3+2,none⟩=some (.int .i64 x.2.2)) (first | (exact ⟨c0,c1,c2,e0,e1,e2⟩) | (refine ⟨?_,?_,?_,?_,?_,?_⟩<;>(apply cells_kept (by assumption);assumption)) | go_keep)
     (first | (go_at_call 15;refine (eqBug_same x _).mono ?_;rintro e w1 ⟨rfl,hb1⟩))
    have hbel1:Below w.heap.size w w1:=bel_trans hbel (bel_trans (by go_grown) hb1)
    go_wp2
    go_roundw
    case rel=>exact ⟨k+1,by omega,by go_num,hbel1⟩
    case measure=>simp [intOf];omega
   ·go_wp2
    go_ret
    exact ⟨rfl,hbel⟩

theorem open_laws_Bugs {H:Type} {enc:TypeId × Value→H} {w:World} {base:Nat} {spare:Nat→Bool} {held:Bool} {r:Reach} {b0:Nat} {v:Value} {d:DataW H} {p:List MemPlace}
  (hv:Value.okWide Try.prog w r b0 22 v) (h:DataW.Trod enc Try.prog w base spare held 22 v d p):∃ a len cap xs,v=.slice a len cap∧Instrs w a len cap xs:=by
 obtain ⟨a,len,cap,rfl⟩:=Go.WideShapes.okWide_slice Try.underlying22 hv
 obtain ⟨fuel,hf⟩:=h
 have hf':DataW.trod enc Try.prog w base spare held fuel 22 [.slice a len cap]=some (d,p):=hf
 obtain ⟨a',len',cap',xs,e,hx⟩:=open_instrs Try.underlying22 Try.underlying35 (by kernel_rfl) (by kernel_rfl) Try.underlying3 Try.underlying3 Try.underlying3 hf'
 exact ⟨a',len',cap',xs,e,hx⟩
end Go.Proofs.Ytdopgkbegjfhjaa
