/-
  Joined: SchI, RqE.
-/
import Derived.Test.YtifoggpohlegmaaGreatDoorW31
import Derived.Test.YtifoggpohlegmaaGreatDoorW32
import Derived.Test.YtifoggpohlegmaaGreatDoorW33

namespace Go.Proofs.YtifoggpohlegmaaGreatDoor
set_option maxRecDepth 100000
set_option maxHeartbeats 16000000
open Go.RowKit
set_option linter.unusedVariables false
set_option linter.unusedSimpArgs false

theorem pathS_fuel {nx:V4→List (Int × V4)} {S:List (Rec6 V4)} (h:Came nx S) {f j:Nat} (hf:j≤f) (hj:j<S.length):pathS S f j=pathS S j j:=by
 rw [← pathL_eq h f j hf hj,← pathL_eq h j j (Nat.le_refl _) hj]
 exact pathL_fuel (back_of h) f j hf (by rw [fromL_len];exact hj)
theorem pathS_step {nx:V4→List (Int × V4)} {S:List (Rec6 V4)} (h:Came nx S) {j:Nat} {r:Rec6 V4} (h0:0<j) (hr:S[j]?=some r):r.2.1<j∧pathS S j j=pathS S r.2.1 r.2.1++[r.2.2]:=by
 have hl:j<S.length:=(List.getElem?_eq_some_iff.1 hr).1
 obtain ⟨hlt,_⟩:=h j r h0 hr
 refine ⟨hlt,?_⟩
 obtain ⟨i,rfl⟩:∃ i,j=i+1:=⟨j - 1,by omega⟩
 show (if i+1=0 then [] else match S[i+1]? with | none=>[] | some r=>pathS S i r.2.1++[r.2.2])=_
 rw [if_neg (by omega),hr]
 show pathS S i r.2.1++[r.2.2]=_
 rw [pathS_fuel h (by omega) (by omega)]
theorem pathS_zero (S:List (Rec6 V4)):pathS S 0 0=[]:=rfl
def PathGot (e:Ending) (w:World) (B:Nat) (ks:List Int):Prop:=∃ v,e=.returned v∧w.ownsRow B 3 1 v ks.length (ks.map (Value.int .i64))

theorem schTo_is {w:World} {B X nb vc at9:Nat} {va:Option Addr} {cs:Sl × Sl × Sl} {M:V4→List I4} {L:List (Rec6 V4 × Value)} {nx:V4→List (Int × V4)} (sp:SpcD w B nb (.slice va L.length vc) cs M L L.length) (bx:Blk w X 106 [.slice va L.length vc,.map (some nb)]) (hcm:Came nx (L.map (·.1))) (hat:at9<L.length) (hl:L.length≤2000) :
  Calls Tryz.prog 82 #[.pointer (some ⟨X,0,none⟩),.int .i64 at9] w fun e w'=>PathGot e w' w.heap.size (pathS (L.map (·.1)) at9 at9)∧Below w.heap.size w w':=by
 obtain ⟨i0,hi9,hz0,hz1,hz2⟩:=info_parts info_int
 obtain ⟨fin,hfin⟩:∃ fin,fin=pathS (L.map (·.1)) at9 at9:=⟨_,rfl⟩
 rw [← hfin]
 have HF:Hid (fin=pathS (L.map (·.1)) at9 at9++([]:List Int).reverse):=by rw [Hid];simpa using hfin
 have HCm:Hid (Came nx (L.map (·.1))):=hcm
 have cX0:w.cell? ⟨X,0,none⟩=some (.slice va L.length vc):=by simpa using bx.cell 0
 clear hfin hcm
 go_enter Tryz.func82,Tryz.ntmps82
 go_wp2_with fail
 go_loopw [1,5] (fun s1 s5 wr=>∃ (j:Nat) (ks:List Int),s1=.int .i64 j∧j+ks.length<L.length∧Hid (fin=pathS (L.map (·.1)) j j++ks.reverse)∧wr.ownsRow w.heap.size 3 1 s5 ks.length (ks.map (Value.int .i64))∧Below w.heap.size w wr) (fun s1 _ _=>(intOf s1).toNat)
 case atStart=>exact ⟨at9,[],rfl,by simpa using hat,HF,World.ownsRow_nil _ _ _ _,Below.refl _ _⟩
 case round =>
  clear HF cX0
  obtain ⟨j,ks,rfl,hj,HF,q,bw⟩:=hrel
  have cX0:wr.cell? ⟨X,0,none⟩=some (.slice va L.length vc):=by simpa using (bx.below bw).cell 0
  by_cases h0:0<j
  ·have hjl:j<L.length:=by omega
   obtain ⟨r,mv,hr⟩:∃ r mv,L[j]?=some (r,mv):=⟨L[j].1,L[j].2,by rw [List.getElem?_eq_getElem hjl]⟩
   have hr2:(L.map (·.1))[j]?=some r:=by rw [List.getElem?_map,hr];rfl
   obtain ⟨hlt,hst⟩:=pathS_step HCm.out h0 hr2
   have HE:Hid (fin=pathS (L.map (·.1)) r.2.1 r.2.1++(ks++[r.2.2]).reverse):=by rw [Hid,HF.out,hst];simp
   obtain ⟨g,c,e9,hg,hrg⟩:=(sp.below bw).at9 hr
   cases e9
   have hmv:=sp.mvone hr
   have h0':(0:Int)<(j:Int):=by omega
   have hjl':(j:Int)<(L.length:Int):=by omega
   have hj0:(0:Int)≤(j:Int):=by omega
   have pN:=Blk.new wr 111 [.string ⟨#[]⟩,.slice none 0 0,.int .i64 0,.int .i64 0,.int .i64 0,.slice none 0 0,.int .i64 0,.int .i64 0,.int .i64 0,.slice none 0 0,.int .i64 0,.int .i64 0,.int .i64 0,.int .i64 0,.int .i64 0,.int .i64 0,.int .i64 0,.int .i64 0,.int .i64 0,.int .i64 0,.int .i64 0,.slice none 0 0]
   have hbN:Below wr.heap.size wr (wr.alloc (.cells #[.string ⟨#[]⟩,.slice none 0 0,.int .i64 0,.int .i64 0,.int .i64 0,.slice none 0 0,.int .i64 0,.int .i64 0,.int .i64 0,.slice none 0 0,.int .i64 0,.int .i64 0,.int .i64 0,.int .i64 0,.int .i64 0,.int .i64 0,.int .i64 0,.int .i64 0,.int .i64 0,.int .i64 0,.int .i64 0,.slice none 0 0] 111)):=by go_grown
   clear hst hr hr2 HF
   go_wp2_with (first | refine wpList_load_mid rfl 111 _ rfl g (j*22) rfl (rcC cs r mv) _ hrg Tryz.underlying111 rfl (by kernel_rfl) ?_ | refine wpList_store_blk rfl 111 _ _ rfl wr.heap.size (rcC cs r mv) rfl rfl pN (by kernel_rfl) rfl (rcC_one cs r hmv) ?_)
   intro w3 p3 g3
   have pE:=p3.out
   have b3:Below wr.heap.size wr w3:=hbN.grown g3 hbN.size (fun k e=>by cases e;exact Nat.le_refl _)
   have c20:w3.cell? ⟨wr.heap.size,20,none⟩=some (.int .i64 r.2.2):=by rw [pE.cell];rfl
   have c19:w3.cell? ⟨wr.heap.size,19,none⟩=some (.int .i64 (r.2.1:Int)):=by rw [pE.cell];rfl
   have hEl:wr.heap.size<w3.heap.size:=pE.lt
   replace bw:=bel_trans bw b3
   replace q:=owns_below q b3
   clear p3 g3 hbN pN b3 hrg hmv cX0
   generalize wr.heap.size=E at *
   obtain ⟨by9,hby⟩:∃ by9,by9=r.2.2:=⟨_,rfl⟩
   obtain ⟨fr,hfr⟩:∃ fr,fr=r.2.1:=⟨_,rfl⟩
   rw [← hby] at c20 HE
   rw [← hfr] at c19 HE hlt
   clear hby hfr
   go_wp2_with (at_builtin;refine wpList_append_own_at _ rfl _ _ 27 rfl w.heap.size 3 i0 (.int .i64 0) 1 8 Tryz.underlying27 hi9 hz0 hz1 hz2 rfl (by decide) _ _ _ rfl (q.alloc _) ⟨w3.heap.size,0,none⟩ 1 1 [.int .i64 by9] rfl rfl (cell_one_new _ _ _) (one_int6 _) ?c3 ?c4 ?c5 ?_)
   case c3=>unfold maxLen;omega
   case c4=>omega
   case c5=>have:=bw.size;simp;omega
   intro v6 w4 q6 gr _ at6
   have ha:Below w3.heap.size w3 (w3.alloc (.cells #[.int .i64 by9] 3)):=by go_grown
   have hEn:=own_ne_blk9 (q.alloc (.cells #[.int .i64 by9] 3)) (pE.below ha) (by decide)
   have d19:=cell_grownB gr (cells_kept ha _ _ c19) (Ne.symm hEn)
   have bw4:=(bel_trans bw ha).grown gr (bel_trans bw ha).size (fun k e=>(own_lt3 (q.alloc (.cells #[.int .i64 by9] 3)) e).1)
   have q7:w4.ownsRow w.heap.size 3 1 v6 (ks++[by9]).length ((ks++[by9]).map (Value.int .i64)):=row_int6 q6
   have hkl:fr+(ks++[by9]).length<L.length:=by simp;omega
   generalize ks++[by9]=ks2 at *
   clear q6 gr at6 ha bw q c20 c19 hEn pE
   go_wp2
   go_roundw
   case rel=>exact ⟨fr,ks2,rfl,hkl,HE,q7,bw4⟩
   case measure=>simp [intOf];omega
  ·obtain rfl:j=0:=by omega
   have HE:Hid (fin=ks.reverse):=by rw [Hid,HF.out,pathS_zero];rfl
   clear HF h0
   rcases Nat.eq_zero_or_pos ks.length with hk0 | hkp
   ·have hks:ks=[]:=List.eq_nil_of_length_eq_zero hk0
    subst hks
    obtain ⟨ka,kn,kc,e9⟩:=own_slice6 q
    obtain rfl:kn=0:=by
     rcases q.2 with ⟨h1,h2⟩ | ⟨gq,cq,cur,h1,_⟩
     ·rw [e9] at h1;cases h1;rfl
     ·rw [e9] at h1;cases h1;rfl
    subst e9
    have HG:Hid (PathGot (.returned (.slice ka 0 kc)) wr w.heap.size fin):=by rw [HE.out];exact ⟨_,rfl,q⟩
    have kR:=rev_none ka kc wr
    clear q HE hk0
    go_wp2_with fail
    refine kR.mono ?_
    rintro e w5 ⟨rfl,rfl⟩
    clear kR
    go_wp2
    go_ret
    exact ⟨HG.out,bw⟩
   ·obtain ⟨g,c,rfl,_,_⟩:=own_some6 q hkp
    have kR:=rev_is (w:=wr) (B:=w.heap.size) (g:=g) (cap:=c) (zs:=ks) q (by omega)
    have hgB:=(own_lt3 q (g:=g) rfl).1
    clear q
    go_wp2_with fail
    refine kR.mono ?_
    rintro e w5 ⟨rfl,hO,gr⟩
    have bw5:=bw.grown gr bw.size (fun k e=>by cases e;exact hgB)
    have HG:Hid (PathGot (.returned (.slice (some ⟨g,0,none⟩) ks.length c)) w5 w.heap.size fin):=by
     rw [HE.out]
     refine ⟨_,rfl,?_⟩
     rw [List.length_reverse]
     exact hO
    clear hO gr kR HE bw
    go_wp2
    go_ret
    exact ⟨HG.out,bw5⟩

namespace Rq
open Go.RowKit
set_option linter.unusedVariables false
set_option linter.unusedSimpArgs false

def MachAt (w:World) (g:Nat) (cs:Sl × Sl × Sl) (rows:List (List I3)) (m:V4):Prop:=
 (∃ kv fv bv mv:Value,Blk w g 111 (kv::(machCells cs.1.val cs.2.1.val cs.2.2.val m++[fv,bv,mv])))∧∀ k,k<3→Instrs w (slK cs k).1 (slK cs k).2.1 (slK cs k).2.2 (codeM rows k)
theorem MachAt.below {w w':World} {g:Nat} {cs:Sl × Sl × Sl} {rows:List (List I3)} {m:V4} (h:MachAt w g cs rows m) (hb:Below w.heap.size w w'):MachAt w' g cs rows m:=by
 obtain ⟨⟨kv,fv,bv,mv,h1⟩,h2⟩:=h
 exact ⟨⟨kv,fv,bv,mv,h1.below hb⟩,fun k hk=>(h2 k hk).below hb⟩
theorem MachAt.at18 {w:World} {g:Nat} {cs:Sl × Sl × Sl} {rows:List (List I3)} {m:V4} (h:MachAt w g cs rows m) {i:Nat} (hi:i<18):w.cell? ⟨g,1+i,none⟩=(machCells cs.1.val cs.2.1.val cs.2.2.val m)[i]?:=by
 obtain ⟨⟨kv,fv,bv,mv,h1⟩,_⟩:=h
 rw [h1.cell,Nat.add_comm 1 i,List.getElem?_cons_succ,List.getElem?_append_left (show i<(machCells cs.1.val cs.2.1.val cs.2.2.val m).length from hi)]
theorem MachAt.code {w:World} {g:Nat} {cs:Sl × Sl × Sl} {rows:List (List I3)} {m:V4} (h:MachAt w g cs rows m) {k:Nat} (hk:k<3):w.cell? ⟨g,1+k*4,none⟩=some (.slice (slK cs k).1 (slK cs k).2.1 (slK cs k).2.2):=by
 rw [h.at18 (by omega),mc_code _ _ _ _ hk,codeV_sl cs hk];rfl
theorem MachAt.pc {w:World} {g:Nat} {cs:Sl × Sl × Sl} {rows:List (List I3)} {m:V4} (h:MachAt w g cs rows m) {k:Nat} (hk:k<3):w.cell? ⟨g,1+k*4+1,none⟩=some (.int .i64 (m.1.getD k 0)):=by
 rw [show 1+k*4+1=1+(k*4+1) by omega,h.at18 (by omega),mc_pc _ _ _ _ hk]
theorem MachAt.held {w:World} {g:Nat} {cs:Sl × Sl × Sl} {rows:List (List I3)} {m:V4} (h:MachAt w g cs rows m) {a:Nat} (ha:a<2):w.cell? ⟨g,17+a,none⟩=some (.int .i64 (m.2.2.1.getD a 0)):=by
 rw [show 17+a=1+(16+a) by omega,h.at18 (by omega),mc_held _ _ _ _ ha]
theorem waits_done (g k:Nat) (a:Option Addr) (n c:Nat) (pc:Int) (w:World) (hk:k<3) (h0:w.cell? ⟨g,1+k*4,none⟩=some (.slice a n c)) (h1:w.cell? ⟨g,1+k*4+1,none⟩=some (.int .i64 pc)) (hd:(n:Int)≤pc) :
  Calls Tryz.prog 75 #[.pointer (some ⟨g,1,none⟩),.int .i64 k] w fun e w'=>e=.returned (.bool false)∧Below w.heap.size w w':=by
 have kD:=done_is g (1+k*4) a n c pc w h0 h1
 rw [decide_eq_true hd] at kD
 have hk3:(k:Int)<3:=by omega
 go_enter Tryz.func75,Tryz.ntmps75
 go_wp2_with fail
 refine kD.mono ?_
 rintro e w1 ⟨rfl,d,rfl⟩
 go_wp2
 go_ret
 exact ⟨rfl,below_dN _⟩
theorem waits_free (g k p b off:Nat) (n c:Nat) (x0 x1 x2:Int) (w:World) (hk:k<3) (hd:p<n)
  (h0:w.cell? ⟨g,1+k*4,none⟩=some (.slice (some ⟨b,off,none⟩) n c)) (h1:w.cell? ⟨g,1+k*4+1,none⟩=some (.int .i64 p)) (c0:w.cell? ⟨b,off+p*3,none⟩=some (.int .i64 x0)) (c1:w.cell? ⟨b,off+p*3+1,none⟩=some (.int .i64 x1)) (c2:w.cell? ⟨b,off+p*3+2,none⟩=some (.int .i64 x2)) (hx:x0≠5) :
  Calls Tryz.prog 75 #[.pointer (some ⟨g,1,none⟩),.int .i64 k] w fun e w'=>e=.returned (.bool false)∧Below w.heap.size w w':=by
 have kD:=done_is g (1+k*4) (some ⟨b,off,none⟩) n c p w h0 h1
 rw [decide_eq_false (by omega)] at kD
 have hk3:(k:Int)<3:=by omega
 have hpn:(p:Int)<(n:Int):=by omega
 go_enter Tryz.func75,Tryz.ntmps75
 go_wp2_with fail
 refine kD.mono ?_
 rintro e w1 ⟨rfl,d,rfl⟩
 clear kD
 go_wp2_with fail
 replace h0:(w.drewN d).cell? ⟨g,1+k*4,none⟩=some (.slice (some ⟨b,off,none⟩) n c):=h0
 replace h1:(w.drewN d).cell? ⟨g,1+k*4+1,none⟩=some (.int .i64 p):=h1
 replace c0:(w.drewN d).cell? ⟨b,off+p*3,none⟩=some (.int .i64 x0):=c0
 replace c1:(w.drewN d).cell? ⟨b,off+p*3+1,none⟩=some (.int .i64 x1):=c1
 replace c2:(w.drewN d).cell? ⟨b,off+p*3+2,none⟩=some (.int .i64 x2):=c2
 have bw:Below w.heap.size w (w.drewN d):=below_dN _
 generalize w.drewN d=W at *
 refine wp_region_held_drew (S:=(fun w'=>w'.cell? ⟨g,1+k*4,none⟩=some (.slice (some ⟨b,off,none⟩) n c)∧w'.cell? ⟨g,1+k*4+1,none⟩=some (.int .i64 p)∧w'.cell? ⟨b,off+p*3,none⟩=some (.int .i64 x0)∧w'.cell? ⟨b,off+p*3+1,none⟩=some (.int .i64 x1)∧w'.cell? ⟨b,off+p*3+2,none⟩=some (.int .i64 x2))) (by kernel_rfl) ⟨h0,h1,c0,c1,c2⟩ (fun hS0=>?_)
 refine tkm 0 14 (.pointer (some ⟨g,1+k*4,none⟩)) ?_
 refine tkm 1 15 (.pointer (some ⟨g,1+k*4,none⟩)) ?_
 refine tkm 2 16 (.pointer (some ⟨g,1+k*4,none⟩)) ?_
 refine tkm 3 17 (.slice (some ⟨b,off,none⟩) n c) ?_
 refine tkm 4 18 (.pointer (some ⟨g,1+k*4,none⟩)) ?_
 refine tkm 5 19 (.pointer (some ⟨g,1+k*4,none⟩)) ?_
 refine tkm 6 20 (.pointer (some ⟨g,1+k*4+1,none⟩)) ?_
 refine tkm 7 21 (.int .i64 p) ?_
 refine tkm 8 22 (.pointer (some ⟨b,off+p*3,none⟩)) ?_
 refine tkm 9 23 (.agg #[.int .i64 x0,.int .i64 x1,.int .i64 x2]) ?_
 refine tkr 10 6 (fun K hK=>?_)
 have hal:Below W.drew.heap.size W.drew (W.drew.alloc (.cells #[.int .i64 0,.int .i64 0,.int .i64 0] 159)):=by go_grown
 go_simp
 refine hK.out _ _ ?_ (fun hS1=>?_)
 ·exact ⟨cells_kept hal _ _ hS0.1,cells_kept hal _ _ hS0.2.1,cells_kept hal _ _ hS0.2.2.1,cells_kept hal _ _ hS0.2.2.2.1,cells_kept hal _ _ hS0.2.2.2.2⟩
 clear hK
 try simp only [Act.put,tka,tkb,tkc]
 refine tkz 11 (fun K hK=>?_)
 have hal2:Below W.drew.heap.size W.drew (W.drew.alloc (.cells #[.int .i64 x0,.int .i64 x1,.int .i64 x2] 159)):=by go_grown
 go_simp
 refine hK.out _ _ ?_ (fun hS2=>?_)
 ·exact ⟨cells_kept hal2 _ _ hS0.1,cells_kept hal2 _ _ hS0.2.1,cells_kept hal2 _ _ hS0.2.2.1,cells_kept hal2 _ _ hS0.2.2.2.1,cells_kept hal2 _ _ hS0.2.2.2.2⟩
 clear hK
 try simp only [Act.put,tka,tkb,tkc]
 refine wpAnyH_done (by kernel_rfl) ?_ _
 replace bw:Below w.heap.size w (W.alloc (.cells #[.int .i64 x0,.int .i64 x1,.int .i64 x2] 159)).drew:=bel_trans bw (by go_grown)
 have pX:Blk (W.alloc (.cells #[.int .i64 x0,.int .i64 x1,.int .i64 x2] 159)).drew W.heap.size 159 [.int .i64 x0,.int .i64 x1,.int .i64 x2]:=Blk.new W 159 [.int .i64 x0,.int .i64 x1,.int .i64 x2]
 have q0:=pX.cell 0
 have q1:=pX.cell 1
 simp only [List.getElem?_cons_zero,List.getElem?_cons_succ] at q0 q1
 clear hal hal2 hS0 hS1 h0 h1 c0 c1 c2 pX
 clear hS2
 have hx5:(x0 == 5)=false:=by simp [hx]
 go_wp2_with fail
 generalize (W.alloc (.cells #[.int .i64 x0,.int .i64 x1,.int .i64 x2] 159)).drew=W2 at *
 generalize W.heap.size=gx at *
 go_quiet (fail)
 have bz:Below w.heap.size w (W2.drewN nq):=bel_trans bw (below_dN _)
 go_wp2
 go_ret
 exact ⟨rfl,bz⟩
theorem waits_lock (g k p b off:Nat) (n c:Nat) (x2:Int) (q:Nat) (hv:Int) (w:World) (hk:k<3) (hd:p<n)
  (h0:w.cell? ⟨g,1+k*4,none⟩=some (.slice (some ⟨b,off,none⟩) n c)) (h1:w.cell? ⟨g,1+k*4+1,none⟩=some (.int .i64 p)) (c0:w.cell? ⟨b,off+p*3,none⟩=some (.int .i64 5)) (c1:w.cell? ⟨b,off+p*3+1,none⟩=some (.int .i64 q)) (c2:w.cell? ⟨b,off+p*3+2,none⟩=some (.int .i64 x2)) (h6:w.cell? ⟨g,17+q,none⟩=some (.int .i64 hv)) (hq:q<2) (z:Bool) (hz:z=!decide (hv=0)) :
  Calls Tryz.prog 75 #[.pointer (some ⟨g,1,none⟩),.int .i64 k] w fun e w'=>e=.returned (.bool z)∧Below w.heap.size w w':=by
 have kD:=done_is g (1+k*4) (some ⟨b,off,none⟩) n c p w h0 h1
 rw [decide_eq_false (by omega)] at kD
 have hk3:(k:Int)<3:=by omega
 have hpn:(p:Int)<(n:Int):=by omega
 go_enter Tryz.func75,Tryz.ntmps75
 go_wp2_with fail
 refine kD.mono ?_
 rintro e w1 ⟨rfl,d,rfl⟩
 clear kD
 go_wp2_with fail
 replace h0:(w.drewN d).cell? ⟨g,1+k*4,none⟩=some (.slice (some ⟨b,off,none⟩) n c):=h0
 replace h1:(w.drewN d).cell? ⟨g,1+k*4+1,none⟩=some (.int .i64 p):=h1
 replace c0:(w.drewN d).cell? ⟨b,off+p*3,none⟩=some (.int .i64 5):=c0
 replace c1:(w.drewN d).cell? ⟨b,off+p*3+1,none⟩=some (.int .i64 q):=c1
 replace c2:(w.drewN d).cell? ⟨b,off+p*3+2,none⟩=some (.int .i64 x2):=c2
 replace h6:(w.drewN d).cell? ⟨g,17+q,none⟩=some (.int .i64 hv):=h6
 have bw:Below w.heap.size w (w.drewN d):=below_dN _
 generalize w.drewN d=W at *
 refine wp_region_held_drew (S:=(fun w'=>w'.cell? ⟨g,1+k*4,none⟩=some (.slice (some ⟨b,off,none⟩) n c)∧w'.cell? ⟨g,1+k*4+1,none⟩=some (.int .i64 p)∧w'.cell? ⟨b,off+p*3,none⟩=some (.int .i64 5)∧w'.cell? ⟨b,off+p*3+1,none⟩=some (.int .i64 q)∧w'.cell? ⟨b,off+p*3+2,none⟩=some (.int .i64 x2)∧w'.cell? ⟨g,17+q,none⟩=some (.int .i64 hv))) (by kernel_rfl) ⟨h0,h1,c0,c1,c2,h6⟩ (fun hS0=>?_)
 refine tkm 0 14 (.pointer (some ⟨g,1+k*4,none⟩)) ?_
 refine tkm 1 15 (.pointer (some ⟨g,1+k*4,none⟩)) ?_
 refine tkm 2 16 (.pointer (some ⟨g,1+k*4,none⟩)) ?_
 refine tkm 3 17 (.slice (some ⟨b,off,none⟩) n c) ?_
 refine tkm 4 18 (.pointer (some ⟨g,1+k*4,none⟩)) ?_
 refine tkm 5 19 (.pointer (some ⟨g,1+k*4,none⟩)) ?_
 refine tkm 6 20 (.pointer (some ⟨g,1+k*4+1,none⟩)) ?_
 refine tkm 7 21 (.int .i64 p) ?_
 refine tkm 8 22 (.pointer (some ⟨b,off+p*3,none⟩)) ?_
 refine tkm 9 23 (.agg #[.int .i64 5,.int .i64 q,.int .i64 x2]) ?_
 refine tkr 10 6 (fun K hK=>?_)
 have hal:Below W.drew.heap.size W.drew (W.drew.alloc (.cells #[.int .i64 0,.int .i64 0,.int .i64 0] 159)):=by go_grown
 go_simp
 refine hK.out _ _ ?_ (fun hS1=>?_)
 ·exact ⟨cells_kept hal _ _ hS0.1,cells_kept hal _ _ hS0.2.1,cells_kept hal _ _ hS0.2.2.1,cells_kept hal _ _ hS0.2.2.2.1,cells_kept hal _ _ hS0.2.2.2.2.1,cells_kept hal _ _ hS0.2.2.2.2.2⟩
 clear hK
 try simp only [Act.put,tka,tkb,tkc]
 refine tkz 11 (fun K hK=>?_)
 have hal2:Below W.drew.heap.size W.drew (W.drew.alloc (.cells #[.int .i64 5,.int .i64 q,.int .i64 x2] 159)):=by go_grown
 go_simp
 refine hK.out _ _ ?_ (fun hS2=>?_)
 ·exact ⟨cells_kept hal2 _ _ hS0.1,cells_kept hal2 _ _ hS0.2.1,cells_kept hal2 _ _ hS0.2.2.1,cells_kept hal2 _ _ hS0.2.2.2.1,cells_kept hal2 _ _ hS0.2.2.2.2.1,cells_kept hal2 _ _ hS0.2.2.2.2.2⟩
 clear hK
 try simp only [Act.put,tka,tkb,tkc]
 refine wpAnyH_done (by kernel_rfl) ?_ _
 replace bw:Below w.heap.size w (W.alloc (.cells #[.int .i64 5,.int .i64 q,.int .i64 x2] 159)).drew:=bel_trans bw (by go_grown)
 have pX:Blk (W.alloc (.cells #[.int .i64 5,.int .i64 q,.int .i64 x2] 159)).drew W.heap.size 159 [.int .i64 5,.int .i64 q,.int .i64 x2]:=Blk.new W 159 [.int .i64 5,.int .i64 q,.int .i64 x2]
 have q0:=pX.cell 0
 have q1:=pX.cell 1
 simp only [List.getElem?_cons_zero,List.getElem?_cons_succ] at q0 q1
 clear hal hal2 hS0 hS1 h0 h1 c0 c1 c2 h6 pX
 replace hS2:=hS2.2.2.2.2.2
 have hq2:(q:Int)<2:=by omega
 have hv0:(hv != 0)=z:=by rw [hz];by_cases h:hv=0<;>simp [h]
 clear hz
 go_wp2_with fail
 generalize (W.alloc (.cells #[.int .i64 5,.int .i64 q,.int .i64 x2] 159)).drew=W2 at *
 generalize W.heap.size=gx at *
 go_quiet (fail)
 have bz:Below w.heap.size w (W2.drewN nq):=bel_trans bw (below_dN _)
 go_wp2
 go_ret
 exact ⟨rfl,bz⟩
theorem doneT_is {w:World} {g:Nat} {cs:Sl × Sl × Sl} {rows:List (List I3)} {m:V4} (h:MachAt w g cs rows m) {k:Nat} (hk:k<3) :
  Calls Tryz.prog 74 #[.pointer (some ⟨g,1+k*4,none⟩)] w fun e w'=>e=.returned (.bool (doneM rows m k))∧∃ d,w'=w.drewN d:=by
 have hl:=(h.2 k hk).1
 have:=done_is g (1+k*4) _ _ _ _ w (h.code hk) (h.pc hk)
 unfold doneM
 rw [hl]
 exact this
theorem waits_is {w:World} {g:Nat} {cs:Sl × Sl × Sl} {rows:List (List I3)} {m:V4} (h:MachAt w g cs rows m) (hp:progOk rows=true) (hs:shapeOk m=true) {k:Nat} (hk:k<3) :
  Calls Tryz.prog 75 #[.pointer (some ⟨g,1,none⟩),.int .i64 k] w fun e w'=>e=.returned (.bool (waitM rows m k))∧Below w.heap.size w w':=by
 unfold waitM
 cases hd:doneM rows m k
 ·obtain ⟨p,ep,hlt,hi,hok⟩:=at_ins hp hs hk hd
  have h0:=h.code hk
  have h1:=h.pc hk
  rw [ep] at h1
  obtain ⟨b,off,ea,hpn,c0,c1,c2⟩:=ins_at (h.2 k hk) hlt
  rw [← hi] at c0 c1 c2
  rw [ea] at h0
  by_cases h5:(insM rows m k).1=5
  ·obtain ⟨q,hq,hq2⟩:=okI_lock hok h5
   rw [h5] at c0
   rw [hq] at c1
   have hh:=h.held hq2
   have e:atLock m (insM rows m k)=!decide (m.2.2.1.getD q 0=0):=by
    unfold atLock
    rw [h5,hq]
    simp
   rw [e]
   exact waits_lock g k p b off _ _ _ q _ w hk hpn h0 h1 c0 c1 c2 hh hq2 _ rfl
  ·have e:atLock m (insM rows m k)=false:=by unfold atLock;simp [h5]
   rw [e]
   exact waits_free g k p b off _ _ _ _ _ w hk hpn h0 h1 c0 c1 c2 h5
 ·have h0:=h.code hk
  have h1:=h.pc hk
  unfold doneM at hd
  simp only [decide_eq_true_eq] at hd
  rw [(h.2 k hk).1] at hd
  exact waits_done g k _ _ _ _ w hk h0 h1 hd
theorem enabled_is (g:Nat) (cs:Sl × Sl × Sl) (rows:List (List I3)) (m:V4) (w:World) (h:MachAt w g cs rows m) (hp:progOk rows=true) (hs:shapeOk m=true) :
  Calls Tryz.prog 72 #[.pointer (some ⟨g,1,none⟩)] w fun e w'=>(∃ s:Sl,e=.returned (.slice s.1 s.2.1 s.2.2)∧OwnI w' w.heap.size s (enabM rows m 3))∧Below w.heap.size w w':=by
 obtain ⟨i0,hi,hz0,hz1,hz2⟩:=info_parts info_int
 have kD:=fun (W:World) (hM:MachAt W g cs rows m) (k:Nat) (hk:k<3)=>doneT_is hM hk
 have kW:=fun (W:World) (hM:MachAt W g cs rows m) (k:Nat) (hk:k<3)=>waits_is hM hp hs hk
 go_enter Tryz.func72,Tryz.ntmps72
 go_wp2_with fail
 go_loopw [3,5] (fun so si wr=>∃ (k:Nat) (n:Nat) (v:Value),v=so∧k≤3∧si=.int .i64 k∧Hid (n=(enabM rows m k).length)∧wr.ownsRow w.heap.size 3 1 v n ((enabM rows m k).map (Value.int .i64))∧Below w.heap.size w wr) (fun _ si _=>3 - (intOf si).toNat)
 case atStart=>exact ⟨0,0,_,rfl,by omega,rfl,rfl,World.ownsRow_nil _ _ _ _,Below.refl _ _⟩
 case round =>
  obtain ⟨k,n,so,rfl,hk,rfl,HN,hr,hbw⟩:=hrel
  have hM:=h.below hbw
  by_cases hlt:k<3
  ·have hk3:(k:Int)<3:=by omega
   have kD1:=kD _ hM k hlt
   have hsz:=hbw.size
   cases hd:doneM rows m k
   ·rw [hd] at kD1
    go_wp2_with fail
    refine kD1.mono ?_
    rintro e w1 ⟨rfl,d,rfl⟩
    replace hM:MachAt (wr.drewN d) g cs rows m:=hM.below (below_dN _)
    replace hr:(wr.drewN d).ownsRow w.heap.size 3 1 so n ((enabM rows m k).map (Value.int .i64)):=hr
    replace hbw:Below w.heap.size w (wr.drewN d):=bel_trans hbw (below_dN _)
    replace hsz:w.heap.size≤(wr.drewN d).heap.size:=hsz
    generalize wr.drewN d=W1 at *
    have kW1:=kW _ hM k hlt
    clear kD1
    cases hw:waitM rows m k
    ·have hcan:canM rows m k=true:=by
      unfold waitM at hw
      unfold canM
      rw [hd] at hw ⊢
      simpa using hw
     rw [hw] at kW1
     go_wp2_with fail
     refine kW1.mono ?_
     rintro e w2 ⟨rfl,hb⟩
     replace hM:=hM.below hb
     replace hr:=owns_below hr hb
     replace hbw:=bel_trans hbw hb
     replace hsz:=hbw.size
     clear hb kW1
     have hn3:n≤3:=by have:=enabM_len rows m k;have:=HN.out;omega
     have HN2:Hid (n+1=(enabM rows m (k+1)).length):=by rw [Hid,enabM_yes hcan,List.length_append,← HN.out];rfl
     have HX:Hid (enabM rows m (k+1)=enabM rows m k++[(k:Int)]):=enabM_yes hcan
     go_wp2_with (at_builtin;refine wpList_append_own _ rfl _ _ 27 rfl w.heap.size 3 i0 (.int .i64 0) 1 8 Tryz.underlying27 hi hz0 hz1 hz2 rfl (by decide) _ _ _ rfl (hr.alloc _) ⟨w2.heap.size,0,none⟩ 1 1 [.int .i64 (k:Int)] rfl rfl (cell_one_new _ _ _) (by simp [Value.oneCell']) ?c3 ?c4 ?c5 ?_)
     case c3=>unfold maxLen;omega
     case c4=>omega
     case c5=>simp;omega
     intro v' wn hown' hgrow _
     have R:wn.ownsRow w.heap.size 3 1 v' (n+1) ((enabM rows m (k+1)).map (Value.int .i64)):=by
      rw [HX.out,List.map_append]
      exact hown'
     have bn:Below w.heap.size w wn:=(hbw.alloc hsz _).grown hgrow (by simp;omega) (fun k hk=>(hr.lt k hk).1)
     clear hown' hgrow hr hbw hM HX
     go_wp2
     go_roundw
     case rel=>exact ⟨k+1,n+1,_,rfl,by omega,by go_num,HN2,R,bn⟩
     case measure=>simp [intOf];omega
    ·have hcan:canM rows m k=false:=by
      unfold waitM at hw
      unfold canM
      rw [hd] at hw ⊢
      simpa using hw
     rw [hw] at kW1
     have HN2:Hid (n=(enabM rows m (k+1)).length):=by rw [Hid,enabM_no hcan];exact HN.out
     rw [← enabM_no hcan] at hr
     go_wp2_with fail
     refine kW1.mono ?_
     rintro e w2 ⟨rfl,hb⟩
     replace hM:=hM.below hb
     replace hr:=owns_below hr hb
     replace hbw:=bel_trans hbw hb
     clear hb kW1
     go_wp2
     go_roundw
     case rel=>exact ⟨k+1,n,_,rfl,by omega,by go_num,HN2,hr,hbw⟩
     case measure=>simp [intOf];omega
   ·have hcan:canM rows m k=false:=by unfold canM;rw [hd];rfl
    rw [hd] at kD1
    have HN2:Hid (n=(enabM rows m (k+1)).length):=by rw [Hid,enabM_no hcan];exact HN.out
    rw [← enabM_no hcan] at hr
    go_wp2_with fail
    refine kD1.mono ?_
    rintro e w1 ⟨rfl,d,rfl⟩
    replace hM:MachAt (wr.drewN d) g cs rows m:=hM.below (below_dN _)
    replace hr:(wr.drewN d).ownsRow w.heap.size 3 1 so n ((enabM rows m (k+1)).map (Value.int .i64)):=hr
    replace hbw:Below w.heap.size w (wr.drewN d):=bel_trans hbw (below_dN _)
    generalize wr.drewN d=W1 at *
    go_wp2
    go_roundw
    case rel=>exact ⟨k+1,n,_,rfl,by omega,by go_num,HN2,hr,hbw⟩
    case measure=>simp [intOf];omega
  ·obtain rfl:k=3:=by omega
   obtain ⟨a,c,rfl⟩:∃ a c,so=.slice a n c:=by
    rcases hr.2 with ⟨rfl,rfl⟩ | ⟨g',cap,cur,hv,_⟩
    ·exact ⟨none,0,rfl⟩
    ·exact ⟨_,cap,hv⟩
   clear kD kW hM
   go_wp2
   go_ret
   exact ⟨⟨(a,n,c),rfl,hr⟩,hbw⟩
theorem stuck_is (g:Nat) (cs:Sl × Sl × Sl) (rows:List (List I3)) (m:V4) (w:World) (h:MachAt w g cs rows m) (hp:progOk rows=true) (hs:shapeOk m=true) :
  Calls Tryz.prog 91 #[.pointer (some ⟨g,1,none⟩)] w fun e w'=>e=.returned (.bool (stuckM rows m))∧Below w.heap.size w w':=by
 have kE:=enabled_is g cs rows m w h hp hs
 have kD:=fun (W:World) (hM:MachAt W g cs rows m) (k:Nat) (hk:k<3)=>doneT_is hM hk
 obtain ⟨fin,hfin⟩:∃ fin,fin=stuckM rows m:=⟨_,rfl⟩
 rw [← hfin]
 have HF:Hid (fin=(decide (enabM rows m 3=[]) && leftM rows m 0)):=hfin
 clear hfin
 go_enter Tryz.func91,Tryz.ntmps91
 go_wp2_with fail
 refine kE.mono ?_
 rintro e w1 ⟨⟨⟨a,n,c⟩,rfl,ho⟩,hb⟩
 have hn:(enabM rows m 3).length=n:=by
  have:=ho.1
  simpa using this
 clear ho kE
 simp only
 by_cases h0:n=0
 ·subst h0
  have HL:Hid (fin=leftM rows m 0):=by rw [Hid,HF.out,List.eq_nil_of_length_eq_zero hn];rfl
  clear HF hn
  go_wp2_with fail
  go_loopw [8] (fun si wr=>∃ k:Nat,k≤3∧si=.int .i64 k∧Hid (fin=leftM rows m k)∧Below w.heap.size w wr) (fun si _=>3 - (intOf si).toNat)
  case atStart=>exact ⟨0,by omega,rfl,HL,hb⟩
  case round =>
   clear hb HL
   obtain ⟨k,hk,rfl,HL,hbw⟩:=hrel
   by_cases hlt:k<3
   ·have hk3:(k:Int)<3:=by omega
    have kD1:=kD _ (h.below hbw) k hlt
    have hst:=leftM_step rows m hlt
    have HS:Hid (leftM rows m k=(!doneM rows m k || leftM rows m (k+1))):=hst
    clear hst
    cases hd:doneM rows m k
    ·rw [hd] at kD1
     obtain rfl:fin=true:=by rw [HL.out,HS.out,hd];rfl
     clear HL HS
     go_wp2_with fail
     refine kD1.mono ?_
     rintro e w2 ⟨rfl,d,rfl⟩
     replace hbw:Below w.heap.size w (wr.drewN d):=bel_trans hbw (below_dN _)
     go_wp2
     go_ret
     exact ⟨rfl,hbw⟩
    ·rw [hd] at kD1
     have HL2:Hid (fin=leftM rows m (k+1)):=by rw [Hid,HL.out,HS.out,hd];rfl
     clear HL HS
     go_wp2_with fail
     refine kD1.mono ?_
     rintro e w2 ⟨rfl,d,rfl⟩
     replace hbw:Below w.heap.size w (wr.drewN d):=bel_trans hbw (below_dN _)
     generalize wr.drewN d=W1 at *
     go_wp2
     go_roundw
     case rel=>exact ⟨k+1,by omega,by go_num,HL2,hbw⟩
     case measure=>simp [intOf];omega
   ·obtain rfl:k=3:=by omega
    obtain rfl:fin=false:=HL.out.trans (leftM_end _ _)
    clear kD HL
    go_wp2
    go_ret
    exact ⟨rfl,hbw⟩
 ·obtain rfl:fin=false:=by
   rw [HF.out,decide_eq_false]
   ·rfl
   ·intro e
    rw [e] at hn
    exact h0 hn.symm
  have hpos:(0:Int)<(n:Int):=by omega
  clear HF hn kD
  go_wp2
  go_ret
  exact ⟨rfl,hb⟩

end Rq
end Go.Proofs.YtifoggpohlegmaaGreatDoor
