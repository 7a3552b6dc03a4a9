/-
  Joined: ProgM.
-/
import Derived.Test.YtdopgkbegjfhjaaGreatDoorL15

namespace Go.Proofs.YtdopgkbegjfhjaaGreatDoor
set_option maxRecDepth 100000
set_option maxHeartbeats 16000000
open Go.RowKit

theorem RowsOwn.snoc {w w':World} {B P k G len:Nat} {vs:List Value} {done:List (List I3)} {r:List I3} (h:RowsOwn w B k vs done) (hd:done.length=k) (hb:Below w.heap.size w w') (hk:k<vs.length) (hG:w.heap.size≤G)
  (hn:w'.ownsRow B 109 3 (.slice (some ⟨G,0,none⟩) len len) r.length (flat r)) (hP:P<w.heap.size) (hPn:∀ t,t<k→(vs.getD t undef).ownBlock≠some P) :
  RowsOwn (w'.setCell ⟨P,k,none⟩ (.slice (some ⟨G,0,none⟩) len len)) B (k+1) (vs.set k (.slice (some ⟨G,0,none⟩) len len)) (done++[r]):=by
 have hold:∀ t,t<k→(done++[r]).getD t []=done.getD t []:=fun t ht=>by simp [List.getD,List.getElem?_append_left (show t<done.length by omega)]
 have hnew:(done++[r]).getD k []=r:=by subst hd;simp [List.getD]
 have h':RowsOwn w B k vs (done++[r]):=⟨fun t ht=>by rw [hold t ht];exact h.1 t ht,h.2⟩
 exact h'.put hb hk hG (by rw [hnew];exact hn) hP hPn

theorem wf_small {z:Int} (h:0≤z∧z≤999999999):(Lit.int .i64 z).wf=true:=by
 simp [Lit.wf,IntKind.min,IntKind.max,IntKind.signed,IntKind.bits]
 omega
theorem triples_mem:∀ (zs:List Int) (x:I3),x ∈ triples zs→x.1 ∈ zs∧x.2.1 ∈ zs∧x.2.2 ∈ zs
 | [],x,h=>by simp [triples] at h
 | [_],x,h=>by simp [triples] at h
 | [_,_],x,h=>by simp [triples] at h
 | a::b::c::r,x,h=>by
  rw [triples] at h
  rcases List.mem_cons.1 h with rfl | h
  ·simp
  ·obtain ⟨h1,h2,h3⟩:=triples_mem r x h
   simp [h1,h2,h3]
def allFit (rows:List (List I3)):Prop:=∀ r ∈ rows,∀ x ∈ r,I3.fits x
def small (zs:List Int):Prop:=∀ z ∈ zs,0≤z∧z≤999999999
theorem allFit_snoc {rows:List (List I3)} {zs:List Int} (h:allFit rows) (hz:small zs):allFit (rows++[triples zs]):=by
 intro r hr x hx
 rcases List.mem_append.1 hr with hr | hr
 ·exact h r hr x hx
 ·simp at hr
  subst hr
  obtain ⟨h1,h2,h3⟩:=triples_mem zs x hx
  exact ⟨wf_small (hz _ h1),wf_small (hz _ h2),wf_small (hz _ h3)⟩

theorem OwnProg.lower {w:World} {B B':Nat} {v:Value} {rows:List (List I3)} (h:OwnProg w B v rows) (hB:B'≤B):OwnProg w B' v rows:=by
 obtain ⟨vs,h1,h2,h3,h4⟩:=h
 exact ⟨vs,owns_lower h1 hB,h2,fun t ht=>owns_lower (h3 t ht) hB,h4⟩

def ProgRead (zs:List Int) (base:Nat) (e:Ending) (w':World):Prop:=
 (∃ rows v,parse 3 zs=some rows∧progOk rows=true∧e=.returned (.tuple #[.agg #[v],.bool true])∧allFit rows∧OwnProg w' base v rows) ∨
 ((∀ rows,parse 3 zs=some rows→progOk rows=false)∧∃ a l c,e=.returned (.tuple #[.agg #[.slice a l c],.bool false]))

theorem programOfList_any (a:Option Addr) (n cap:Nat) (zs:List Int) (w:World) (h:Ints .i64 w a n cap zs) (hz:small zs) (hn:n≤4096) :
  Calls Tryz.prog 102 #[.slice a n cap] w fun e w'=>ProgRead zs w.heap.size e w'∧Below w.heap.size w w':=by
 go_enter Tryz.func102,Tryz.ntmps102
 go_wp2_with fail
 refine (emptyProgram_is _).mono ?_
 rintro e w1 ⟨rfl,⟨vs0,ho1⟩,hb1⟩
 try simp only [World.size_alloc] at ho1 hb1
 have kR:w1.cell? ⟨w.heap.size,0,none⟩=some (.slice none 0 0):=by rw [hb1.cell (by simp)];simp [go_sem]
 have fR:w1.frozen? ⟨w.heap.size,0,none⟩=false:=by rw [hb1.frozen (by simp)];first | (simp [go_sem];done) | (simp [World.frozen?];done)
 have b1:Below w.heap.size w w1:=((Below.refl w.heap.size w).alloc (Nat.le_refl _) _).trans (hb1.mono (by omega))
 replace ho1:=owns_lower (B':=w.heap.size+1) ho1 (by omega)
 try simp only [World.size_alloc]
 generalize hP:w.heap.size+1+1=P at ho1
 have hPw:w.heap.size<P:=by omega
 have hP1:=(ho1.lt P rfl).2
 clear hb1 hP
 go_wp2_with fail
 have hoP:=ho1.alloc (.cells #[.slice (some ⟨P,0,none⟩) 3 3] 69)
 have kP:(w1.alloc (.cells #[.slice (some ⟨P,0,none⟩) 3 3] 69)).cell? ⟨w1.heap.size,0,none⟩=some (.slice (some ⟨P,0,none⟩) 3 3):=by simp [go_sem]
 have b2:Below w.heap.size w (w1.alloc (.cells #[.slice (some ⟨P,0,none⟩) 3 3] 69)):=b1.alloc b1.size _
 have kR2:(w1.alloc (.cells #[.slice (some ⟨P,0,none⟩) 3 3] 69)).cell? ⟨w.heap.size,0,none⟩=some (.slice none 0 0):=cells_kept (by go_grown) _ _ kR
 have fR2:(w1.alloc (.cells #[.slice (some ⟨P,0,none⟩) 3 3] 69)).frozen? ⟨w.heap.size,0,none⟩=false:=by
  rw [World.frozen?_of_block (Below.heap_alloc _ _ _ (show w.heap.size<w1.heap.size by omega))];exact fR
 clear ho1 b1 kR fR
 generalize w1.alloc (.cells #[.slice (some ⟨P,0,none⟩) 3 3] 69)=w2 at hoP kP b2 kR2 fR2
 generalize w1.heap.size=X at kP hP1
 have hXw:w.heap.size<X:=by omega
 have hPX:P≠X:=by omega
 clear hP1
 go_loopw [0,11] (fun sl si wr=>∃ (k:Nat) (aL:Option Addr) (lenL capL:Nat) (rest:List Int) (done:List (List I3)) (vs:List Value),k≤3∧si=.int .i64 k∧sl=.slice aL lenL capL∧Ints .i64 w aL lenL capL rest∧small rest∧lenL≤4096∧Hid (PState zs k done rest)∧done.length=k∧Hid (allFit done) ∧
   RowsOwn wr (w.heap.size+1) k vs done∧wr.ownsRow (w.heap.size+1) 107 1 (.slice (some ⟨P,0,none⟩) 3 3) 3 vs∧wr.cell? ⟨X,0,none⟩=some (.slice (some ⟨P,0,none⟩) 3 3)∧wr.cell? ⟨w.heap.size,0,none⟩=some (.slice none 0 0)∧wr.frozen? ⟨w.heap.size,0,none⟩=false∧Below w.heap.size w wr) (fun _ si _=>3 - (intOf si).toNat)
 case atStart=>exact ⟨0,a,n,cap,zs,[],vs0,by omega,rfl,rfl,h,hz,hn,PState.start zs,rfl,(fun r hr=>by cases hr),⟨fun t ht=>by omega,fun t _ ht=>by omega⟩,hoP,kP,kR2,fR2,b2⟩
 case round =>
  clear hoP kP kR2 fR2 b2 h hz hn
  obtain ⟨k,aL,lenL,capL,rest,done,vs,hk,rfl,rfl,hI,hsm,hlL,hPS,hdl,hAF,hR,ho,kP,kR,fR,hbel⟩:=hrel
  have hwr:w.heap.size<wr.heap.size:=lt_of_cell kR
  have fail0:∀ u,(wr.setCell ⟨w.heap.size,0,none⟩ u).cell? ⟨w.heap.size,0,none⟩=some u:=fun u=>World.cell?_setCell_same' _ _ _ (by rw [kR];rfl)
  by_cases hlt:k<3
  ·have hlt2:(k:Int)<3:=by omega
   have hk0:(0:Int)≤(k:Int):=by omega
   obtain ⟨hl,hlc,hcm,hcase⟩:=hI
   unfold maxLen at hcm
   by_cases hl0:lenL=0
   ·subst hl0
    obtain rfl:rest=[]:=List.eq_nil_of_length_eq_zero hl
    have hno:Hid (parse 3 zs=none):=hPS.out.empty hlt
    have hb3:Below w.heap.size w (wr.setCell ⟨w.heap.size,0,none⟩ (.slice none 0 0)):=hbel.setCell (Nat.le_refl _) _
    have k3:=fail0 (.slice none 0 0)
    clear fail0 hPS hR ho
    go_wp2
    clear kR fR hbel kP
    generalize wr.setCell ⟨w.heap.size,0,none⟩ (.slice none 0 0)=w9 at hb3 k3
    refine bodyPost_ret (by simp [results,Tryz.results102,go_sem,k3];try rfl) rfl ?_
    exact ⟨.inr ⟨(fun rows hr=>by rw [hno.out] at hr;cases hr),_,_,_,rfl⟩,hb3⟩
   ·rcases hcase with h0 | ⟨b,off,rfl,hblt,hcell⟩
    ·exact absurd h0 hl0
    obtain ⟨z,ys,rfl⟩:∃ z ys,rest=z::ys:=by
     cases rest with
     | nil=>simp at hl;omega
     | cons z ys=>exact ⟨z,ys,rfl⟩
    obtain ⟨hz0,hz9⟩:=hsm z (by simp)
    obtain ⟨m,rfl⟩:∃ m:Nat,z=(m:Int):=⟨z.toNat,by omega⟩
    have hyl:ys.length+1=lenL:=by simpa using hl
    have hc0:=hcell 0 (by omega)
    have hc0':wr.cell? ⟨b,off,none⟩=some (.int .i64 (m:Int)):=by rw [hbel.cell (p:=⟨b,_,none⟩) hblt];first | exact hc0 | simpa using hc0
    have hl0':((lenL:Int) == 0)=false:=by simp;omega
    have hl0'':(0:Int)<(lenL:Int):=by omega
    by_cases h6:6<m
    ·have hno:Hid (∀ rows,parse 3 zs=some rows→progOk rows=false):=fun rows hr=>by
      obtain ⟨r,hrm,hrl⟩:=hPS.out.long hlt rows hr
      cases hp:progOk rows with
      | false=>rfl
      | true=>have:=((progOk_parts hp).2 r hrm).1;omega
     have hb3:Below w.heap.size w (wr.setCell ⟨w.heap.size,0,none⟩ (.slice none 0 0)):=hbel.setCell (Nat.le_refl _) _
     have k3:=fail0 (.slice none 0 0)
     have h6':(6:Int)<(m:Int):=by omega
     clear fail0 hPS hR ho hcell hc0 hsm hl
     go_wp2
     clear kR fR hbel kP
     generalize wr.setCell ⟨w.heap.size,0,none⟩ (.slice none 0 0)=w9 at hb3 k3
     refine bodyPost_ret (by simp [results,Tryz.results102,go_sem,k3];try rfl) rfl ?_
     exact ⟨.inr ⟨hno.out,_,_,_,rfl⟩,hb3⟩
    ·by_cases hsh:ys.length<3*m
     ·have hno:Hid (parse 3 zs=none):=hPS.out.short hlt (by omega)
      have hb3:Below w.heap.size w (wr.setCell ⟨w.heap.size,0,none⟩ (.slice none 0 0)):=hbel.setCell (Nat.le_refl _) _
      have k3:=fail0 (.slice none 0 0)
      clear fail0 hPS hR ho hcell hc0 hsm hl
      go_wp2
      clear kR fR hbel kP
      generalize wr.setCell ⟨w.heap.size,0,none⟩ (.slice none 0 0)=w9 at hb3 k3
      refine bodyPost_ret (by simp [results,Tryz.results102,go_sem,k3];try rfl) rfl ?_
      exact ⟨.inr ⟨(fun rows hr=>by rw [hno.out] at hr;cases hr),_,_,_,rfl⟩,hb3⟩
     ·have hPS2:Hid (PState zs (k+1) (done++[triples (ys.take (3*m))]) (ys.drop (3*m))):=by
       have:=hPS.out.step hlt (by omega)
       rw [Int.toNat_natCast] at this
       exact this
      have hII:Ints .i64 w (some ⟨b,off,none⟩) lenL capL ((m:Int)::ys):=⟨hl,hlc,by unfold maxLen;omega,.inr ⟨b,off,rfl,hblt,hcell⟩⟩
      obtain ⟨aY,hslY,hIy⟩:=slice_lh (lo:=1) (hi:=1+3*m) hII (by omega) (by omega)
      obtain ⟨aR,hslR,hIr⟩:=slice_l (lo:=1+3*m) hII (by omega)
      have eY:(((m:Int)::ys).drop 1).take (1+3*m - 1)=ys.take (3*m):=by rw [show 1+3*m - 1=3*m by omega];rfl
      have eR:((m:Int)::ys).drop (1+3*m)=ys.drop (3*m):=by rw [show 1+3*m=3*m+1 by omega];rfl
      rw [eY,show 1+3*m - 1=3*m by omega] at hIy
      rw [show 1+3*m - 1=3*m by omega,show ((1:Nat):Int)=1 from rfl] at hslY
      rw [eR] at hIr
      clear eY eR hII
      have hAF2:Hid (allFit (done++[triples (ys.take (3*m))])):=allFit_snoc hAF.out (fun x hx=>hsm x (by simp [List.mem_of_mem_take hx]))
      have hsm2:small (ys.drop (3*m)):=fun x hx=>hsm x (by simp [List.mem_of_mem_drop hx])
      have htl:(triples (ys.take (3*m))).length=m:=triples_length m _ (by rw [List.length_take];omega)
      have h6':¬ (6:Int)<(m:Int):=by omega
      have hsnoc:=fun (w':World) (G:Nat) (hb:Below wr.heap.size wr w') (hG:wr.heap.size≤G) (hn:w'.ownsRow (w.heap.size+1) 109 3 (.slice (some ⟨G,0,none⟩) m m) (triples (ys.take (3*m))).length (flat (triples (ys.take (3*m)))))=>RowsOwn.snoc (P:=P) (len:=m) (r:=triples (ys.take (3*m))) hR hdl hb (by have:=ho.1;omega) hG hn ((ho.lt P rfl).2) (fun t ht=>by
       rcases owns_ne ho (hR.1 t ht) (by decide) with h | h
       ·simp [Value.ownBlock] at h
       ·exact fun e=>h (by rw [e];rfl))
      have KC:Calls Tryz.prog 138 #[.slice aY (3*m) (capL - 1)] wr.drew _:=codeOfList_ok _ m _ _ _ (hIy.below hbel.drew) (by omega)
      obtain ⟨E,hEd⟩:∃ E,E=1+3*m:=⟨_,rfl⟩
      rw [← hEd] at hIr hslY hslR
      generalize triples (ys.take (3*m))=r at hPS2 htl hsnoc KC hAF2
      obtain ⟨m3,hm3⟩:∃ m3,m3=3*m:=⟨_,rfl⟩
      rw [← hm3] at KC hslY
      have hEc:(1+3*(m:Int))=(E:Int):=by omega
      have hlE:¬ (lenL:Int)<(E:Int):=by omega
      clear hm3
      clear hcell hc0 hsm hl hPS fail0 hIy hEd hR
      generalize ys.drop (3*m)=rest2 at hPS2 hIr hsm2
      go_wp2_with fail
      refine wp_region_held_drew (S:=(fun w'=>w'.cell? ⟨X,0,none⟩=some (.slice (some ⟨P,0,none⟩) 3 3))) (by kernel_rfl) kP (fun hS0=>?_)
      refine tkm 0 34 (.pointer (some ⟨X,0,none⟩)) ?_
      refine tkm 1 35 (.slice (some ⟨P,0,none⟩) 3 3) ?_
      refine tkm 2 36 (.int .i64 (k:Int)) ?_
      refine tkm 3 37 (.slice (some ⟨b,off,none⟩) lenL capL) ?_
      refine tkm 4 38 (.int .i64 (E:Int)) ?_
      refine tkm 5 39 (.slice aY m3 (capL - 1)) ?_
      refine tkr 6 40 (fun K hK=>?_)
      go_simp
      refine KC.mono ?_
      rintro e w3 ⟨rfl,hown3,hb3⟩
      go_wp2_with fail
      refine hK.out _ _ ?_ (fun hS1=>?_)
      ·exact cells_kept hb3 _ _ hS0
      clear hK
      refine tkm 7 41 (.pointer (some ⟨P,k,none⟩)) ?_
      have ho3:=owns_below ho.drew hb3
      have f3:=ho3.frozenAt k
      obtain ⟨u0,hu0⟩:∃ u,w3.cell? ⟨P,k,none⟩=some u:=⟨_,by rw [ho3.cellAt _ (by omega)];exact List.getElem?_eq_getElem (by have:=ho3.1;omega)⟩
      have q2:(w3.setCell ⟨P,k,none⟩ (.slice (some ⟨wr.heap.size,0,none⟩) m m)).cell? ⟨X,0,none⟩=some (.slice (some ⟨P,0,none⟩) 3 3):=by rw [cell_setCell_off _ _ _ (Ne.symm hPX)];exact hS1
      refine tkz 8 (fun K hK=>?_)
      go_simp
      refine hK.out _ _ q2 (fun hS2=>?_)
      clear hK
      refine wpAnyH_done (by kernel_rfl) ?_ _
      have hR4:=hsnoc w3 wr.heap.size (bel_trans (by go_grown) hb3) (Nat.le_refl _) (by rw [htl];exact owns_lower hown3 hwr)
      have ho4:=(ho3.stored k (.slice (some ⟨wr.heap.size,0,none⟩) m m)).1
      have kR4:(w3.setCell ⟨P,k,none⟩ (.slice (some ⟨wr.heap.size,0,none⟩) m m)).cell? ⟨w.heap.size,0,none⟩=some (.slice none 0 0):=by rw [cell_setCell_off _ _ _ (show w.heap.size≠P by omega)];exact cells_kept hb3 _ _ kR
      have fR4:(w3.setCell ⟨P,k,none⟩ (.slice (some ⟨wr.heap.size,0,none⟩) m m)).frozen? ⟨w.heap.size,0,none⟩=false:=by
       rw [World.frozen?_of_block (Below.heap_setCell _ _ _ _ (show w.heap.size≠P by omega)),hb3.frozen (by exact hwr)]
       exact fR
      have hb4:Below w.heap.size w (w3.setCell ⟨P,k,none⟩ (.slice (some ⟨wr.heap.size,0,none⟩) m m)):=(hbel.drew.trans (hb3.mono hbel.size)).setCell (show w.heap.size≤P by omega) _
      clear hsnoc KC hown3 hb3 ho ho3 f3 hu0 kR fR kP hS0 hS1 q2 hbel hslY hc0'
      generalize w3.setCell ⟨P,k,none⟩ (.slice (some ⟨wr.heap.size,0,none⟩) m m)=w4 at hR4 ho4 kR4 fR4 hb4 hS2
      generalize vs.set k (.slice (some ⟨wr.heap.size,0,none⟩) m m)=vs' at hR4 ho4
      have hdl2:(done++[r]).length=k+1:=by simp [hdl]
      generalize done++[r]=done2 at hPS2 hAF2 hR4 hdl2
      go_wp2
      go_roundw
      case rel=>exact ⟨k+1,_,_,_,rest2,done2,vs',by omega,by go_num,rfl,hIr,hsm2,by omega,hPS2,hdl2,hAF2,hR4,ho4,hS2,kR4,fR4,hb4⟩
      case measure=>simp [intOf];omega
  ·obtain rfl:k=3:=by omega
   by_cases hl0:lenL=0
   ·subst hl0
    obtain rfl:rest=[]:=List.eq_nil_of_length_eq_zero hI.1
    have hyes:Hid (parse 3 zs=some done):=hPS.out.done
    have hOP:OwnProg wr (w.heap.size+1) (.slice (some ⟨P,0,none⟩) 3 3) done:=⟨vs,by rw [hdl];exact ho,by have:=ho.1;omega,fun t ht=>hR.1 t (by omega),fun t t' ht ht'=>hR.2 t t' (by omega) (by omega)⟩
    have KO:=implProgramOK_is (some ⟨P,0,none⟩) 3 3 done wr.drew ((hOP.below (by go_grown)).codes hAF.out)
    clear hPS hR ho
    go_wp2_with fail
    refine wp_region_held_drew (S:=(fun w'=>w'.cell? ⟨X,0,none⟩=some (.slice (some ⟨P,0,none⟩) 3 3))) (by kernel_rfl) kP (fun hS0=>?_)
    refine tkm 0 46 (.agg #[.slice (some ⟨P,0,none⟩) 3 3]) ?_
    refine tkm 1 47 (.slice aL 0 capL) ?_
    refine tkm 2 48 (.int .i64 0) ?_
    refine tkm 3 49 (.bool true) ?_
    refine tkm 4 50 (.bool true) ?_
    refine tkm 5 51 (.agg #[.slice (some ⟨P,0,none⟩) 3 3]) ?_
    refine tkr 6 52 (fun K hK=>?_)
    go_simp
    refine (KO).mono ?_
    rintro e w3 ⟨rfl,hb3⟩
    go_wp2_with fail
    refine hK.out _ _ ?_ (fun hS1=>?_)
    ·exact cells_kept hb3 _ _ hS0
    clear hK
    refine tkm 7 53 (.bool (progOk done)) ?_
    have q2:(w3.setCell ⟨w.heap.size,0,none⟩ (.slice (some ⟨P,0,none⟩) 3 3)).cell? ⟨X,0,none⟩=some (.slice (some ⟨P,0,none⟩) 3 3):=by rw [cell_setCell_off _ _ _ (show X≠w.heap.size by omega)];exact hS1
    have kR3:=cells_kept hb3 _ _ kR
    have fR3:w3.frozen? ⟨w.heap.size,0,none⟩=false:=by rw [hb3.frozen (by exact hwr)];exact fR
    refine tkz 8 (fun K hK=>?_)
    go_simp
    refine hK.out _ _ q2 (fun hS2=>?_)
    clear hK
    refine tkm 9 3 (.bool (progOk done)) ?_
    refine wpAnyH_done (by kernel_rfl) ?_ _
    have k9:(w3.setCell ⟨w.heap.size,0,none⟩ (.slice (some ⟨P,0,none⟩) 3 3)).cell? ⟨w.heap.size,0,none⟩=some (.slice (some ⟨P,0,none⟩) 3 3):=World.cell?_setCell_same' _ _ _ (by rw [kR3];rfl)
    have hb4:Below w.heap.size w (w3.setCell ⟨w.heap.size,0,none⟩ (.slice (some ⟨P,0,none⟩) 3 3)):=(hbel.drew.trans (hb3.mono hbel.size)).setCell (Nat.le_refl _) _
    have hOP4:OwnProg (w3.setCell ⟨w.heap.size,0,none⟩ (.slice (some ⟨P,0,none⟩) 3 3)) (w.heap.size+1) (.slice (some ⟨P,0,none⟩) 3 3) done:=((hOP.below (w':=wr.drew) (by go_grown)).below hb3).low (by simp) _
    replace hOP4:=hOP4.lower (B':=w.heap.size) (by omega)
    clear hS0 hS1 hS2 kR3 fR3 q2 hb3 KO hOP kP kR fR hbel
    generalize w3.setCell ⟨w.heap.size,0,none⟩ (.slice (some ⟨P,0,none⟩) 3 3)=w9 at k9 hb4 hOP4
    cases hpk:progOk done
    ·go_wp2_with fail
     refine bodyPost_ret (by simp [results,Tryz.results102,go_sem,k9];try rfl) rfl ?_
     refine ⟨.inr ⟨fun rows hr=>?_,_,_,_,rfl⟩,hb4⟩
     rw [hyes.out] at hr
     cases hr
     exact hpk
    ·go_wp2_with fail
     refine bodyPost_ret (by simp [results,Tryz.results102,go_sem,k9];try rfl) rfl ?_
     exact ⟨.inl ⟨done,_,hyes.out,hpk,rfl,hAF.out,hOP4⟩,hb4⟩
   ·have hno:Hid (parse 3 zs=none):=hPS.out.more (fun e=>hl0 (by rw [← hI.1,e];rfl))
    have hl0':((lenL:Int) == 0)=false:=by simp;omega
    clear hPS hR ho fail0
    go_wp2_with fail
    refine wp_region_held_drew (S:=(fun w'=>w'.cell? ⟨X,0,none⟩=some (.slice (some ⟨P,0,none⟩) 3 3))) (by kernel_rfl) kP (fun hS0=>?_)
    refine tkm 0 46 (.agg #[.slice (some ⟨P,0,none⟩) 3 3]) ?_
    refine tkm 1 47 (.slice aL lenL capL) ?_
    refine tkm 2 48 (.int .i64 (lenL:Int)) ?_
    refine tkm 3 49 (.bool false) ?_
    refine tkm 4 50 (.bool false) ?_
    refine tku 5 51 ?_
    refine tku 6 52 ?_
    refine tkm 7 53 (.bool false) ?_
    have q2:(wr.drew.setCell ⟨w.heap.size,0,none⟩ (.slice (some ⟨P,0,none⟩) 3 3)).cell? ⟨X,0,none⟩=some (.slice (some ⟨P,0,none⟩) 3 3):=by rw [cell_setCell_off _ _ _ (show X≠w.heap.size by omega)];exact hS0
    have kR3:wr.drew.cell? ⟨w.heap.size,0,none⟩=some (.slice none 0 0):=kR
    have fR3:wr.drew.frozen? ⟨w.heap.size,0,none⟩=false:=fR
    refine tkz 8 (fun K hK=>?_)
    go_simp
    refine hK.out _ _ q2 (fun hS2=>?_)
    clear hK
    refine tkm 9 3 (.bool false) ?_
    refine wpAnyH_done (by kernel_rfl) ?_ _
    have k9:(wr.setCell ⟨w.heap.size,0,none⟩ (.slice (some ⟨P,0,none⟩) 3 3)).drew.cell? ⟨w.heap.size,0,none⟩=some (.slice (some ⟨P,0,none⟩) 3 3):=World.cell?_setCell_same' wr _ _ (by rw [kR];rfl)
    have hb4:Below w.heap.size w (wr.setCell ⟨w.heap.size,0,none⟩ (.slice (some ⟨P,0,none⟩) 3 3)).drew:=(hbel.setCell (Nat.le_refl _) _).drew
    clear hS0 hS2 kR3 fR3 q2 kP kR fR hbel
    generalize (wr.setCell ⟨w.heap.size,0,none⟩ (.slice (some ⟨P,0,none⟩) 3 3)).drew=w9 at k9 hb4
    go_wp2_with fail
    refine bodyPost_ret (by simp [results,Tryz.results102,go_sem,k9];try rfl) rfl ?_
    exact ⟨.inr ⟨(fun rows hr=>by rw [hno.out] at hr;cases hr),_,_,_,rfl⟩,hb4⟩
end Go.Proofs.YtdopgkbegjfhjaaGreatDoor
