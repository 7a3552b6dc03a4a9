/-
  Joined: LptI.
-/
import Derived.Test.YtgmhhegckcionaaGreatDoorF36
import Derived.Test.YtgmhhegckcionaaGreatDoorF37

namespace Go.Proofs.YtgmhhegckcionaaGreatDoor
set_option maxRecDepth 100000
set_option maxHeartbeats 16000000
open Go.RowKit
set_option linter.unusedVariables false
set_option linter.unusedSimpArgs false

theorem Bh (g j:Nat):(⟨g,0,none⟩:Addr).add j=⟨g,j,none⟩:=by
 have e:(⟨g,0,none⟩:Addr).add j=⟨g,0+j,none⟩:=by unfold Addr.add;split<;>simp_all
 rw [e,Nat.zero_add]
theorem Ck {w:World} {B e s n:Nat} {v:Value} {cs:List Value} (h:w.ownsRow B e s v n cs):∃ a m c,v=.slice a m c:=by
 obtain ⟨a,c,h1⟩:=ZY h
 exact ⟨a,n,c,h1⟩
def UP (L:List EQ) (e:E3) (s:Sl2):List EQ:=(L.take (Yf (L.map (·.1)) e.1)++[(e,s)])++L.drop (if isE (L.map (·.1)) e.1 then Yf (L.map (·.1)) e.1+1 else Yf (L.map (·.1)) e.1)
theorem SU (L:List EQ) (e:E3) (s:Sl2):(UP L e s).map (·.1)=XE (L.map (·.1)) e:=by
 rw [UP,XE,List.map_append,List.map_append,List.map_take,List.map_drop]
 rfl
theorem QZ {L:List EQ} {e:E3} {s:Sl2} {x:EQ} (hx:x ∈ UP L e s):x ∈ L∨x=(e,s):=by
 unfold UP at hx
 simp only [List.mem_append,List.mem_singleton] at hx
 rcases hx with (hx | hx) | hx
 ·exact .inl (List.mem_of_mem_take hx)
 ·exact .inr hx
 exact .inl (List.mem_of_mem_drop hx)
def NP (x:Ending) (w':World) (B:Nat) (PL:List EQ):Prop:=∃ v,x=.returned (.agg #[v])∧w'.ownsRow B 45 3 v PL.length (Yq PL)
theorem NP.mk9 {w':World} {B:Nat} {v:Value} {PL:List EQ} (h:w'.ownsRow B 45 3 v PL.length (Yq PL)):NP (.returned (.agg #[v])) w' B PL:=⟨v,rfl,h⟩
theorem M5 (a:Option Addr) (n c:Nat) (L:List EQ) (e:E3) (s:Sl2) (w:World) (hQ:Wv w a n c L) (hnil:a=none→c=0) (hok:UpR (L.map (·.1))) (hE:e.1.size≤maxLen) :
  Calls Tryz.prog 123 #[.agg #[.slice a n c],ZW e.1 s] w fun x w'=>NP x w' w.heap.size (UP L e s)∧Below w.heap.size w w':=by
 have h:=hQ.ents
 have HPQ:Hid (UP L e s=UP L e s):=rfl
 obtain ⟨es,hes⟩:∃ es,es=L.map (·.1):=⟨_,rfl⟩
 have hLe:=hes.symm
 unfold UP at HPQ ⊢
 rw [hLe] at hok h ⊢
 obtain ⟨i0,hi0,hz0,hz1,hz2⟩:=info_parts T5
 have hl:=h.1
 have hn2:n≤2000:=by have:=hok.few;omega
 have kP:=fun W (hb:Below w.heap.size w W)=>Vg a n c es e.1 W (h.below hb) hok
 obtain ⟨p,hp⟩:∃ p,p=Yf es e.1:=⟨_,rfl⟩
 have hpn:p≤n:=by rw [hp,← hl];exact Mk _ _
 have hpi:isE es e.1=true→p<n:=fun h9=>by
  simp only [isE,Bool.and_eq_true,decide_eq_true_eq] at h9
  omega
 have hLl:=hQ.1
 have hnc:n≤c:=hQ.2.1
 have hpc:p≤c:=by omega
 obtain ⟨hsh,hQh⟩:=F4 (hi:=p) hQ hnil hpn
 obtain ⟨p2,hp2⟩:∃ p2,p2=if isE es e.1 then p+1 else p:=⟨_,rfl⟩
 have hp2n:p2≤n:=by
  rw [hp2]
  split
  ·rename_i h9;have:=hpi h9;omega
  exact hpn
 obtain ⟨ta,hst,hQt,hnt⟩:=Ly (lo:=p2) hQ hnil hp2n
 obtain ⟨tb,hsb,_,_⟩:=Ly (lo:=p) hQ hnil hpn
 obtain ⟨PL,hPL⟩:∃ PL:List EQ,PL=(L.take p++[(e,s)])++L.drop p2:=⟨_,rfl⟩
 have HPL:Hid (Yq PL=(Yq (L.take p)++YI e.1 s)++Yq (L.drop p2)∧PL.length=(p+1)+(n - p2)):=by
  refine ⟨?_,?_⟩
  ·rw [hPL,RB,JU]
  rw [hPL,List.length_append,List.length_append,List.length_take,List.length_drop,List.length_singleton]
  omega
 rw [← hp] at kP ⊢
 rw [← hp2,← hPL]
 clear HPQ
 obtain ⟨ek,eb,ez⟩:=e
 obtain ⟨⟨e1,m1,d1⟩,⟨e2,m2,d2⟩⟩:=s
 unfold ZW
 simp only at kP HPL hp hp2 ⊢
 have bw:Below w.heap.size w (((w.alloc (.cells #[.slice a n c] 33)).alloc (.cells #[.string ek,.slice e1 m1 d1,.slice e2 m2 d2] 45)).alloc (.cells #[.slice none 0 0] 33)):=by go_grown
 have pM:Blk (((w.alloc (.cells #[.slice a n c] 33)).alloc (.cells #[.string ek,.slice e1 m1 d1,.slice e2 m2 d2] 45)).alloc (.cells #[.slice none 0 0] 33)) w.heap.size 33 [.slice a n c]:=Zl _ (Zl _ (Zj _ _ _ rfl))
 have pE:Blk (((w.alloc (.cells #[.slice a n c] 33)).alloc (.cells #[.string ek,.slice e1 m1 d1,.slice e2 m2 d2] 45)).alloc (.cells #[.slice none 0 0] 33)) (w.heap.size+1) 45 [.string ek,.slice e1 m1 d1,.slice e2 m2 d2]:=Zl _ (Zj _ _ _ (by simp))
 have pR:Blk (((w.alloc (.cells #[.slice a n c] 33)).alloc (.cells #[.string ek,.slice e1 m1 d1,.slice e2 m2 d2] 45)).alloc (.cells #[.slice none 0 0] 33)) (w.heap.size+1+1) 33 [.slice none 0 0]:=Zj _ _ _ (by simp)
 have hsV:w.heap.size+3≤(((w.alloc (.cells #[.slice a n c] 33)).alloc (.cells #[.string ek,.slice e1 m1 d1,.slice e2 m2 d2] 45)).alloc (.cells #[.slice none 0 0] 33)).heap.size:=by simp
 have hw1:IntKind.i64.wrap ((p:Int)+1)=((p+1:Nat):Int):=by rw [IntKind.wrap_i64];omega
 cases hI:isE es ek
 focus
  rw [hI] at kP hp2
  simp only [Bool.false_eq_true,if_false] at hp2
  obtain rfl:p=p2:=hp2.symm
  clear hp hsb hLe hPL hE hQ hI hpi h hes
  go_enter Tryz.func123,Tryz.ntmps123
  go_wp2_with fail
  generalize (((w.alloc (.cells #[.slice a n c] 33)).alloc (.cells #[.string ek,.slice e1 m1 d1,.slice e2 m2 d2] 45)).alloc (.cells #[.slice none 0 0] 33))=U0 at *
  refine (kP _ bw).mono ?_
  rintro e W ⟨rfl,hb⟩
  replace bw:=Zo bw hb
  replace pM:=pM.below hb
  replace pE:=pE.below hb
  replace pR:=pR.below hb
  replace hsV:=Nat.le_trans hsV hb.size
  clear hb kP
  have g0:=pM.cell 0
  simp only [List.getElem?_cons_zero] at g0
  go_wp2_with fail
  refine wp_region_held_drew (S:=(fun w'=>w'.cell? ⟨w.heap.size,0,none⟩=some (.slice a n c)∧w'.cell? ⟨w.heap.size+1,0,none⟩=some (.string ek)∧w'.cell? ⟨w.heap.size+1,1,none⟩=some (.slice e1 m1 d1)∧w'.cell? ⟨w.heap.size+1,2,none⟩=some (.slice e2 m2 d2))) (by kernel_rfl) ⟨pM.cell 0,pE.cell 0,pE.cell 1,pE.cell 2⟩ (fun hS0=>?_)
  refine tkv 1 26 (.pointer (some ⟨w.heap.size,0,none⟩)) ?_
  refine tkv 2 27 (.slice a n c) ?_
  refine tkv 3 28 (.int .i64 (p:Int)) ?_
  refine tkv 4 29 (.slice a p c) ?_
  refine tkv 6 31 (.agg #[.string ek,.slice e1 m1 d1,.slice e2 m2 d2]) ?_
  refine tkv 9 34 (.slice ta (n - p) (c - p)) ?_
  have bd:Below W.heap.size W W.drew:=by go_grown
  replace bw:=Zo bw bd
  replace pM:=pM.below bd
  replace pE:=pE.below bd
  replace pR:=pR.below bd
  replace hsV:=Nat.le_trans hsV bd.size
  clear bd g0 hS0
  generalize W.drew=V at *
  refine wpAnyH_ready (rs:=[0,7]) (by kernel_rfl) (by simp) ?_
  refine AllReadyH.cons (o:=⟨some 25,_,_,_,_,_⟩) rfl (fun K hK=>?_) (AllReadyH.cons (o:=⟨some 32,_,_,_,_,_⟩) rfl (fun K hK=>?_) AllReadyH.nil)
  focus
   skip
   have hbb:Below V.heap.size V (V.alloc (.cells #[] 45)):=by go_grown
   have q:(V.alloc (.cells #[] 45)).ownsRow (w.heap.size+3) 45 3 (.slice (some ⟨V.heap.size,0,none⟩) 0 0) 0 (Yq []):=XZ V 45 3 (w.heap.size+3) hsV
   go_simp
   replace bw:=Zo bw hbb
   replace pM:=pM.below hbb
   replace pE:=pE.below hbb
   replace pR:=pR.below hbb
   replace hsV:=Nat.le_trans hsV hbb.size
   refine hK.out _ _ ⟨pM.cell 0,pE.cell 0,pE.cell 1,pE.cell 2⟩ (fun hS1=>?_)
   clear hK hbb hS1
   try simp only [Act.put,tka,tkb,tkc]
   obtain ⟨g0,hg0⟩:∃ g0,g0=V.heap.size:=⟨_,rfl⟩
   rw [← hg0]
   rw [← hg0] at q
   clear hg0
   generalize V.alloc (.cells #[] 45)=VA0 at *
   skip
   refine wpAnyH_ready (rs:=[5,7]) (by kernel_rfl) (by simp) ?_
   refine AllReadyH.cons (o:=⟨some 30,_,_,_,_,_⟩) rfl (fun K hK=>?_) (AllReadyH.cons (o:=⟨some 32,_,_,_,_,_⟩) rfl (fun K hK=>?_) AllReadyH.nil)
   focus
    skip
    refine YN rfl _ _ 31 rfl (w.heap.size+3) 45 i0 (.agg #[.string ⟨#[]⟩,.slice none 0 0,.slice none 0 0]) 3 64 Tryz.underlying31 hi0 hz0 hz1 hz2 rfl (by decide) (.slice (some ⟨g0,0,none⟩) 0 0) _ _ rfl q a p c rfl (XX (m:=0) (P:=True) hnil hpc) (Yq (L.take p)) (by rw [Yy,List.length_take];omega) (fun ad ha=>by subst ha;exact Wv.news (hQh.below bw)) (WP _) (by unfold maxLen;omega) (by omega) hsV ?_
    intro v5 VC1 hown hgrow hblk
    have hgB:∀ g,(Value.ownBlock (.slice (some ⟨g0,0,none⟩) 0 0))=some g→w.heap.size+3≤g:=fun g hg=>(q.lt g hg).1
    replace bw:=bw.grown hgrow (by omega) (fun g hg=>by have:=hgB g hg;omega)
    replace pM:=pM.kept hgrow (fun e9=>by have:=hgB _ e9;omega)
    replace pE:=pE.kept hgrow (fun e9=>by have:=hgB _ e9;omega)
    replace pR:=pR.kept hgrow (fun e9=>by have:=hgB _ e9;omega)
    replace hsV:=Nat.le_trans hsV hgrow.size
    have q5:VC1.ownsRow (w.heap.size+3) 45 3 v5 p (Yq (L.take p)):=by simpa [Yq] using hown
    clear q
    obtain ⟨va,vc,rfl⟩:=ZY q5
    have q:=q5
    clear q5 hown hgrow hgB hblk
    go_simp
    refine hK.out _ _ ⟨pM.cell 0,pE.cell 0,pE.cell 1,pE.cell 2⟩ (fun hS1=>?_)
    clear hK hS1
    try simp only [Act.put,tka,tkb,tkc]
    refine tkr 7 32 (fun K hK=>?_)
    have hbb:Below VC1.heap.size VC1 (VC1.alloc (.cells #[.string ek,.slice e1 m1 d1,.slice e2 m2 d2] 45)):=by go_grown
    have p7:Blk (VC1.alloc (.cells #[.string ek,.slice e1 m1 d1,.slice e2 m2 d2] 45)) VC1.heap.size 45 [.string ek,.slice e1 m1 d1,.slice e2 m2 d2]:=Zj _ _ _ rfl
    have hne5:(Value.slice va p vc).ownBlock≠some VC1.heap.size:=fun e9=>by have:=(q.lt _ e9).2;omega
    go_simp
    replace bw:=Zo bw hbb
    replace pM:=pM.below hbb
    replace pE:=pE.below hbb
    replace pR:=pR.below hbb
    replace hsV:=Nat.le_trans hsV hbb.size
    replace q:=Z1 q hbb
    refine hK.out _ _ ⟨pM.cell 0,pE.cell 0,pE.cell 1,pE.cell 2⟩ (fun hS1=>?_)
    clear hK hbb hS1
    try simp only [Act.put,tka,tkb,tkc]
    obtain ⟨g7,hg7⟩:∃ g7,g7=VC1.heap.size:=⟨_,rfl⟩
    rw [← hg7]
    rw [← hg7] at p7
    rw [← hg7] at hne5
    clear hg7
    generalize VC1.alloc (.cells #[.string ek,.slice e1 m1 d1,.slice e2 m2 d2] 45)=VB2 at *
   rotate_left
   focus
    skip
    have hbb:Below VA0.heap.size VA0 (VA0.alloc (.cells #[.string ek,.slice e1 m1 d1,.slice e2 m2 d2] 45)):=by go_grown
    have p7:Blk (VA0.alloc (.cells #[.string ek,.slice e1 m1 d1,.slice e2 m2 d2] 45)) VA0.heap.size 45 [.string ek,.slice e1 m1 d1,.slice e2 m2 d2]:=Zj _ _ _ rfl
    have hne:g0≠VA0.heap.size:=by have:=(q.lt g0 rfl).2;omega
    go_simp
    replace bw:=Zo bw hbb
    replace pM:=pM.below hbb
    replace pE:=pE.below hbb
    replace pR:=pR.below hbb
    replace hsV:=Nat.le_trans hsV hbb.size
    replace q:=Z1 q hbb
    refine hK.out _ _ ⟨pM.cell 0,pE.cell 0,pE.cell 1,pE.cell 2⟩ (fun hS1=>?_)
    clear hK hbb hS1
    try simp only [Act.put,tka,tkb,tkc]
    obtain ⟨g7,hg7⟩:∃ g7,g7=VA0.heap.size:=⟨_,rfl⟩
    rw [← hg7]
    rw [← hg7] at p7
    rw [← hg7] at hne
    clear hg7
    generalize VA0.alloc (.cells #[.string ek,.slice e1 m1 d1,.slice e2 m2 d2] 45)=VB1 at *
    refine tkr 5 30 (fun K hK=>?_)
    refine YN rfl _ _ 31 rfl (w.heap.size+3) 45 i0 (.agg #[.string ⟨#[]⟩,.slice none 0 0,.slice none 0 0]) 3 64 Tryz.underlying31 hi0 hz0 hz1 hz2 rfl (by decide) (.slice (some ⟨g0,0,none⟩) 0 0) _ _ rfl q a p c rfl (XX (m:=0) (P:=True) hnil hpc) (Yq (L.take p)) (by rw [Yy,List.length_take];omega) (fun ad ha=>by subst ha;exact Wv.news (hQh.below bw)) (WP _) (by unfold maxLen;omega) (by omega) hsV ?_
    intro v5 VC2 hown hgrow hblk
    have hgB:∀ g,(Value.ownBlock (.slice (some ⟨g0,0,none⟩) 0 0))=some g→w.heap.size+3≤g:=fun g hg=>(q.lt g hg).1
    have hne5:v5.ownBlock≠some g7:=fun e9=>by
     rcases hblk with h9 | h9
     ·rw [h9] at e9;simp [Value.ownBlock] at e9;exact hne e9
     rw [h9] at e9;have:=p7.lt;simp at e9;omega
    replace p7:=p7.kept hgrow (fun e9=>by simp [Value.ownBlock] at e9;exact hne e9)
    replace bw:=bw.grown hgrow (by omega) (fun g hg=>by have:=hgB g hg;omega)
    replace pM:=pM.kept hgrow (fun e9=>by have:=hgB _ e9;omega)
    replace pE:=pE.kept hgrow (fun e9=>by have:=hgB _ e9;omega)
    replace pR:=pR.kept hgrow (fun e9=>by have:=hgB _ e9;omega)
    replace hsV:=Nat.le_trans hsV hgrow.size
    have q5:VC2.ownsRow (w.heap.size+3) 45 3 v5 p (Yq (L.take p)):=by simpa [Yq] using hown
    clear q
    obtain ⟨va,vc,rfl⟩:=ZY q5
    have q:=q5
    clear q5 hown hgrow hgB hblk
    go_simp
    refine hK.out _ _ ⟨pM.cell 0,pE.cell 0,pE.cell 1,pE.cell 2⟩ (fun hS1=>?_)
    clear hK hS1
    try simp only [Act.put,tka,tkb,tkc]
  rotate_left 2
  focus
   skip
   have hbb:Below V.heap.size V (V.alloc (.cells #[.string ek,.slice e1 m1 d1,.slice e2 m2 d2] 45)):=by go_grown
   have p7:Blk (V.alloc (.cells #[.string ek,.slice e1 m1 d1,.slice e2 m2 d2] 45)) V.heap.size 45 [.string ek,.slice e1 m1 d1,.slice e2 m2 d2]:=Zj _ _ _ rfl
   go_simp
   replace bw:=Zo bw hbb
   replace pM:=pM.below hbb
   replace pE:=pE.below hbb
   replace pR:=pR.below hbb
   replace hsV:=Nat.le_trans hsV hbb.size
   refine hK.out _ _ ⟨pM.cell 0,pE.cell 0,pE.cell 1,pE.cell 2⟩ (fun hS1=>?_)
   clear hK hbb hS1
   try simp only [Act.put,tka,tkb,tkc]
   obtain ⟨g7,hg7⟩:∃ g7,g7=V.heap.size:=⟨_,rfl⟩
   rw [← hg7]
   rw [← hg7] at p7
   clear hg7
   generalize V.alloc (.cells #[.string ek,.slice e1 m1 d1,.slice e2 m2 d2] 45)=VB0 at *
   refine tkr 0 25 (fun K hK=>?_)
   have hbb:Below VB0.heap.size VB0 (VB0.alloc (.cells #[] 45)):=by go_grown
   have q:(VB0.alloc (.cells #[] 45)).ownsRow (w.heap.size+3) 45 3 (.slice (some ⟨VB0.heap.size,0,none⟩) 0 0) 0 (Yq []):=XZ VB0 45 3 (w.heap.size+3) hsV
   have hne:VB0.heap.size≠g7:=by have:=p7.lt;omega
   go_simp
   replace bw:=Zo bw hbb
   replace pM:=pM.below hbb
   replace pE:=pE.below hbb
   replace pR:=pR.below hbb
   replace hsV:=Nat.le_trans hsV hbb.size
   replace p7:=p7.below hbb
   refine hK.out _ _ ⟨pM.cell 0,pE.cell 0,pE.cell 1,pE.cell 2⟩ (fun hS1=>?_)
   clear hK hbb hS1
   try simp only [Act.put,tka,tkb,tkc]
   obtain ⟨g0,hg0⟩:∃ g0,g0=VB0.heap.size:=⟨_,rfl⟩
   rw [← hg0]
   rw [← hg0] at q
   rw [← hg0] at hne
   clear hg0
   generalize VB0.alloc (.cells #[] 45)=VA1 at *
   skip
   refine tkr 5 30 (fun K hK=>?_)
   refine YN rfl _ _ 31 rfl (w.heap.size+3) 45 i0 (.agg #[.string ⟨#[]⟩,.slice none 0 0,.slice none 0 0]) 3 64 Tryz.underlying31 hi0 hz0 hz1 hz2 rfl (by decide) (.slice (some ⟨g0,0,none⟩) 0 0) _ _ rfl q a p c rfl (XX (m:=0) (P:=True) hnil hpc) (Yq (L.take p)) (by rw [Yy,List.length_take];omega) (fun ad ha=>by subst ha;exact Wv.news (hQh.below bw)) (WP _) (by unfold maxLen;omega) (by omega) hsV ?_
   intro v5 VC2 hown hgrow hblk
   have hgB:∀ g,(Value.ownBlock (.slice (some ⟨g0,0,none⟩) 0 0))=some g→w.heap.size+3≤g:=fun g hg=>(q.lt g hg).1
   have hne5:v5.ownBlock≠some g7:=fun e9=>by
    rcases hblk with h9 | h9
    ·rw [h9] at e9;simp [Value.ownBlock] at e9;exact hne e9
    rw [h9] at e9;have:=p7.lt;simp at e9;omega
   replace p7:=p7.kept hgrow (fun e9=>by simp [Value.ownBlock] at e9;exact hne e9)
   replace bw:=bw.grown hgrow (by omega) (fun g hg=>by have:=hgB g hg;omega)
   replace pM:=pM.kept hgrow (fun e9=>by have:=hgB _ e9;omega)
   replace pE:=pE.kept hgrow (fun e9=>by have:=hgB _ e9;omega)
   replace pR:=pR.kept hgrow (fun e9=>by have:=hgB _ e9;omega)
   replace hsV:=Nat.le_trans hsV hgrow.size
   have q5:VC2.ownsRow (w.heap.size+3) 45 3 v5 p (Yq (L.take p)):=by simpa [Yq] using hown
   clear q
   obtain ⟨va,vc,rfl⟩:=ZY q5
   have q:=q5
   clear q5 hown hgrow hgB hblk
   go_simp
   refine hK.out _ _ ⟨pM.cell 0,pE.cell 0,pE.cell 1,pE.cell 2⟩ (fun hS1=>?_)
   clear hK hS1
   try simp only [Act.put,tka,tkb,tkc]
  all_goals
   refine tkr 8 33 (fun K hK=>?_)
   refine YN rfl _ _ 31 rfl (w.heap.size+3) 45 i0 (.agg #[.string ⟨#[]⟩,.slice none 0 0,.slice none 0 0]) 3 64 Tryz.underlying31 hi0 hz0 hz1 hz2 rfl (by decide) (.slice va p vc) _ _ rfl q (some ⟨g7,0,none⟩) 1 1 rfl (fun h9=>by cases h9) (YI ek ((e1,m1,d1),(e2,m2,d2))) (by simp [YI]) (fun ad ha j u hj=>by cases ha;rw [Bh,p7.cell j];exact hj) (Sp _ _) (by unfold maxLen;omega) (by omega) hsV ?_
   intro v8 V8 hown hgrow _
   have hgB:∀ g,(Value.ownBlock (.slice va p vc))=some g→w.heap.size+3≤g:=fun g hg=>(q.lt g hg).1
   replace bw:=bw.grown hgrow (by omega) (fun g hg=>by have:=hgB g hg;omega)
   replace pM:=pM.kept hgrow (fun e9=>by have:=hgB _ e9;omega)
   replace pE:=pE.kept hgrow (fun e9=>by have:=hgB _ e9;omega)
   replace pR:=pR.kept hgrow (fun e9=>by have:=hgB _ e9;omega)
   replace hsV:=Nat.le_trans hsV hgrow.size
   have q8:V8.ownsRow (w.heap.size+3) 45 3 v8 (p+1) (Yq (L.take p)++YI ek ((e1,m1,d1),(e2,m2,d2))):=hown
   obtain ⟨va8,vc8,rfl⟩:=ZY q8
   clear hown hgrow hgB q p7
   go_simp
   refine hK.out _ _ ⟨pM.cell 0,pE.cell 0,pE.cell 1,pE.cell 2⟩ (fun hS1=>?_)
   clear hK hS1
   try simp only [Act.put,tka,tkb,tkc]
   refine tkr 10 35 (fun K hK=>?_)
   refine YN rfl _ _ 31 rfl (w.heap.size+3) 45 i0 (.agg #[.string ⟨#[]⟩,.slice none 0 0,.slice none 0 0]) 3 64 Tryz.underlying31 hi0 hz0 hz1 hz2 rfl (by decide) (.slice va8 (p+1) vc8) _ _ rfl q8 ta (n - p) (c - p) rfl (XX (m:=0) (P:=True) hnt (by omega)) (Yq (L.drop p)) (by rw [Yy,List.length_drop];omega) (fun ad ha=>by subst ha;exact Wv.news (hQt.below bw)) (WP _) (by unfold maxLen;omega) (by omega) hsV ?_
 rotate_left 3
 focus
  rw [hI] at kP hp2
  simp only [if_true] at hp2
  subst hp2
  rw [show ((p+1:Nat):Int)=(p:Int)+1 by omega] at hst
  clear hp hLe hPL hE hQ hI hpi h hes
  go_enter Tryz.func123,Tryz.ntmps123
  go_wp2_with fail
  generalize (((w.alloc (.cells #[.slice a n c] 33)).alloc (.cells #[.string ek,.slice e1 m1 d1,.slice e2 m2 d2] 45)).alloc (.cells #[.slice none 0 0] 33))=U0 at *
  refine (kP _ bw).mono ?_
  rintro e W ⟨rfl,hb⟩
  replace bw:=Zo bw hb
  replace pM:=pM.below hb
  replace pE:=pE.below hb
  replace pR:=pR.below hb
  replace hsV:=Nat.le_trans hsV hb.size
  clear hb kP
  have g0:=pM.cell 0
  simp only [List.getElem?_cons_zero] at g0
  go_wp2_with fail
  refine wp_region_held_drew (S:=(fun w'=>w'.cell? ⟨w.heap.size,0,none⟩=some (.slice a n c)∧w'.cell? ⟨w.heap.size+1,0,none⟩=some (.string ek)∧w'.cell? ⟨w.heap.size+1,1,none⟩=some (.slice e1 m1 d1)∧w'.cell? ⟨w.heap.size+1,2,none⟩=some (.slice e2 m2 d2))) (by kernel_rfl) ⟨pM.cell 0,pE.cell 0,pE.cell 1,pE.cell 2⟩ (fun hS0=>?_)
  refine tkv 1 26 (.pointer (some ⟨w.heap.size,0,none⟩)) ?_
  refine tkv 2 27 (.slice a n c) ?_
  refine tkv 3 28 (.int .i64 (p:Int)) ?_
  refine tkv 4 29 (.slice a p c) ?_
  refine tkv 6 31 (.agg #[.string ek,.slice e1 m1 d1,.slice e2 m2 d2]) ?_
  refine tkv 9 34 (.slice ta (n - (p+1)) (c - (p+1))) ?_
  have bd:Below W.heap.size W W.drew:=by go_grown
  replace bw:=Zo bw bd
  replace pM:=pM.below bd
  replace pE:=pE.below bd
  replace pR:=pR.below bd
  replace hsV:=Nat.le_trans hsV bd.size
  clear bd g0 hS0
  generalize W.drew=V at *
  refine wpAnyH_ready (rs:=[0,7]) (by kernel_rfl) (by simp) ?_
  refine AllReadyH.cons (o:=⟨some 25,_,_,_,_,_⟩) rfl (fun K hK=>?_) (AllReadyH.cons (o:=⟨some 32,_,_,_,_,_⟩) rfl (fun K hK=>?_) AllReadyH.nil)
  focus
   skip
   have hbb:Below V.heap.size V (V.alloc (.cells #[] 45)):=by go_grown
   have q:(V.alloc (.cells #[] 45)).ownsRow (w.heap.size+3) 45 3 (.slice (some ⟨V.heap.size,0,none⟩) 0 0) 0 (Yq []):=XZ V 45 3 (w.heap.size+3) hsV
   go_simp
   replace bw:=Zo bw hbb
   replace pM:=pM.below hbb
   replace pE:=pE.below hbb
   replace pR:=pR.below hbb
   replace hsV:=Nat.le_trans hsV hbb.size
   refine hK.out _ _ ⟨pM.cell 0,pE.cell 0,pE.cell 1,pE.cell 2⟩ (fun hS1=>?_)
   clear hK hbb hS1
   try simp only [Act.put,tka,tkb,tkc]
   obtain ⟨g0,hg0⟩:∃ g0,g0=V.heap.size:=⟨_,rfl⟩
   rw [← hg0]
   rw [← hg0] at q
   clear hg0
   generalize V.alloc (.cells #[] 45)=VA0 at *
   skip
   refine wpAnyH_ready (rs:=[5,7]) (by kernel_rfl) (by simp) ?_
   refine AllReadyH.cons (o:=⟨some 30,_,_,_,_,_⟩) rfl (fun K hK=>?_) (AllReadyH.cons (o:=⟨some 32,_,_,_,_,_⟩) rfl (fun K hK=>?_) AllReadyH.nil)
   focus
    skip
    refine YN rfl _ _ 31 rfl (w.heap.size+3) 45 i0 (.agg #[.string ⟨#[]⟩,.slice none 0 0,.slice none 0 0]) 3 64 Tryz.underlying31 hi0 hz0 hz1 hz2 rfl (by decide) (.slice (some ⟨g0,0,none⟩) 0 0) _ _ rfl q a p c rfl (XX (m:=0) (P:=True) hnil hpc) (Yq (L.take p)) (by rw [Yy,List.length_take];omega) (fun ad ha=>by subst ha;exact Wv.news (hQh.below bw)) (WP _) (by unfold maxLen;omega) (by omega) hsV ?_
    intro v5 VC1 hown hgrow hblk
    have hgB:∀ g,(Value.ownBlock (.slice (some ⟨g0,0,none⟩) 0 0))=some g→w.heap.size+3≤g:=fun g hg=>(q.lt g hg).1
    replace bw:=bw.grown hgrow (by omega) (fun g hg=>by have:=hgB g hg;omega)
    replace pM:=pM.kept hgrow (fun e9=>by have:=hgB _ e9;omega)
    replace pE:=pE.kept hgrow (fun e9=>by have:=hgB _ e9;omega)
    replace pR:=pR.kept hgrow (fun e9=>by have:=hgB _ e9;omega)
    replace hsV:=Nat.le_trans hsV hgrow.size
    have q5:VC1.ownsRow (w.heap.size+3) 45 3 v5 p (Yq (L.take p)):=by simpa [Yq] using hown
    clear q
    obtain ⟨va,vc,rfl⟩:=ZY q5
    have q:=q5
    clear q5 hown hgrow hgB hblk
    go_simp
    refine hK.out _ _ ⟨pM.cell 0,pE.cell 0,pE.cell 1,pE.cell 2⟩ (fun hS1=>?_)
    clear hK hS1
    try simp only [Act.put,tka,tkb,tkc]
    refine tkr 7 32 (fun K hK=>?_)
    have hbb:Below VC1.heap.size VC1 (VC1.alloc (.cells #[.string ek,.slice e1 m1 d1,.slice e2 m2 d2] 45)):=by go_grown
    have p7:Blk (VC1.alloc (.cells #[.string ek,.slice e1 m1 d1,.slice e2 m2 d2] 45)) VC1.heap.size 45 [.string ek,.slice e1 m1 d1,.slice e2 m2 d2]:=Zj _ _ _ rfl
    have hne5:(Value.slice va p vc).ownBlock≠some VC1.heap.size:=fun e9=>by have:=(q.lt _ e9).2;omega
    go_simp
    replace bw:=Zo bw hbb
    replace pM:=pM.below hbb
    replace pE:=pE.below hbb
    replace pR:=pR.below hbb
    replace hsV:=Nat.le_trans hsV hbb.size
    replace q:=Z1 q hbb
    refine hK.out _ _ ⟨pM.cell 0,pE.cell 0,pE.cell 1,pE.cell 2⟩ (fun hS1=>?_)
    clear hK hbb hS1
    try simp only [Act.put,tka,tkb,tkc]
    obtain ⟨g7,hg7⟩:∃ g7,g7=VC1.heap.size:=⟨_,rfl⟩
    rw [← hg7]
    rw [← hg7] at p7
    rw [← hg7] at hne5
    clear hg7
    generalize VC1.alloc (.cells #[.string ek,.slice e1 m1 d1,.slice e2 m2 d2] 45)=VB2 at *
   rotate_left
   focus
    skip
    have hbb:Below VA0.heap.size VA0 (VA0.alloc (.cells #[.string ek,.slice e1 m1 d1,.slice e2 m2 d2] 45)):=by go_grown
    have p7:Blk (VA0.alloc (.cells #[.string ek,.slice e1 m1 d1,.slice e2 m2 d2] 45)) VA0.heap.size 45 [.string ek,.slice e1 m1 d1,.slice e2 m2 d2]:=Zj _ _ _ rfl
    have hne:g0≠VA0.heap.size:=by have:=(q.lt g0 rfl).2;omega
    go_simp
    replace bw:=Zo bw hbb
    replace pM:=pM.below hbb
    replace pE:=pE.below hbb
    replace pR:=pR.below hbb
    replace hsV:=Nat.le_trans hsV hbb.size
    replace q:=Z1 q hbb
    refine hK.out _ _ ⟨pM.cell 0,pE.cell 0,pE.cell 1,pE.cell 2⟩ (fun hS1=>?_)
    clear hK hbb hS1
    try simp only [Act.put,tka,tkb,tkc]
    obtain ⟨g7,hg7⟩:∃ g7,g7=VA0.heap.size:=⟨_,rfl⟩
    rw [← hg7]
    rw [← hg7] at p7
    rw [← hg7] at hne
    clear hg7
    generalize VA0.alloc (.cells #[.string ek,.slice e1 m1 d1,.slice e2 m2 d2] 45)=VB1 at *
    refine tkr 5 30 (fun K hK=>?_)
    refine YN rfl _ _ 31 rfl (w.heap.size+3) 45 i0 (.agg #[.string ⟨#[]⟩,.slice none 0 0,.slice none 0 0]) 3 64 Tryz.underlying31 hi0 hz0 hz1 hz2 rfl (by decide) (.slice (some ⟨g0,0,none⟩) 0 0) _ _ rfl q a p c rfl (XX (m:=0) (P:=True) hnil hpc) (Yq (L.take p)) (by rw [Yy,List.length_take];omega) (fun ad ha=>by subst ha;exact Wv.news (hQh.below bw)) (WP _) (by unfold maxLen;omega) (by omega) hsV ?_
    intro v5 VC2 hown hgrow hblk
    have hgB:∀ g,(Value.ownBlock (.slice (some ⟨g0,0,none⟩) 0 0))=some g→w.heap.size+3≤g:=fun g hg=>(q.lt g hg).1
    have hne5:v5.ownBlock≠some g7:=fun e9=>by
     rcases hblk with h9 | h9
     ·rw [h9] at e9;simp [Value.ownBlock] at e9;exact hne e9
     rw [h9] at e9;have:=p7.lt;simp at e9;omega
    replace p7:=p7.kept hgrow (fun e9=>by simp [Value.ownBlock] at e9;exact hne e9)
    replace bw:=bw.grown hgrow (by omega) (fun g hg=>by have:=hgB g hg;omega)
    replace pM:=pM.kept hgrow (fun e9=>by have:=hgB _ e9;omega)
    replace pE:=pE.kept hgrow (fun e9=>by have:=hgB _ e9;omega)
    replace pR:=pR.kept hgrow (fun e9=>by have:=hgB _ e9;omega)
    replace hsV:=Nat.le_trans hsV hgrow.size
    have q5:VC2.ownsRow (w.heap.size+3) 45 3 v5 p (Yq (L.take p)):=by simpa [Yq] using hown
    clear q
    obtain ⟨va,vc,rfl⟩:=ZY q5
    have q:=q5
    clear q5 hown hgrow hgB hblk
    go_simp
    refine hK.out _ _ ⟨pM.cell 0,pE.cell 0,pE.cell 1,pE.cell 2⟩ (fun hS1=>?_)
    clear hK hS1
    try simp only [Act.put,tka,tkb,tkc]
  rotate_left 2
  focus
   skip
   have hbb:Below V.heap.size V (V.alloc (.cells #[.string ek,.slice e1 m1 d1,.slice e2 m2 d2] 45)):=by go_grown
   have p7:Blk (V.alloc (.cells #[.string ek,.slice e1 m1 d1,.slice e2 m2 d2] 45)) V.heap.size 45 [.string ek,.slice e1 m1 d1,.slice e2 m2 d2]:=Zj _ _ _ rfl
   go_simp
   replace bw:=Zo bw hbb
   replace pM:=pM.below hbb
   replace pE:=pE.below hbb
   replace pR:=pR.below hbb
   replace hsV:=Nat.le_trans hsV hbb.size
   refine hK.out _ _ ⟨pM.cell 0,pE.cell 0,pE.cell 1,pE.cell 2⟩ (fun hS1=>?_)
   clear hK hbb hS1
   try simp only [Act.put,tka,tkb,tkc]
   obtain ⟨g7,hg7⟩:∃ g7,g7=V.heap.size:=⟨_,rfl⟩
   rw [← hg7]
   rw [← hg7] at p7
   clear hg7
   generalize V.alloc (.cells #[.string ek,.slice e1 m1 d1,.slice e2 m2 d2] 45)=VB0 at *
   refine tkr 0 25 (fun K hK=>?_)
   have hbb:Below VB0.heap.size VB0 (VB0.alloc (.cells #[] 45)):=by go_grown
   have q:(VB0.alloc (.cells #[] 45)).ownsRow (w.heap.size+3) 45 3 (.slice (some ⟨VB0.heap.size,0,none⟩) 0 0) 0 (Yq []):=XZ VB0 45 3 (w.heap.size+3) hsV
   have hne:VB0.heap.size≠g7:=by have:=p7.lt;omega
   go_simp
   replace bw:=Zo bw hbb
   replace pM:=pM.below hbb
   replace pE:=pE.below hbb
   replace pR:=pR.below hbb
   replace hsV:=Nat.le_trans hsV hbb.size
   replace p7:=p7.below hbb
   refine hK.out _ _ ⟨pM.cell 0,pE.cell 0,pE.cell 1,pE.cell 2⟩ (fun hS1=>?_)
   clear hK hbb hS1
   try simp only [Act.put,tka,tkb,tkc]
   obtain ⟨g0,hg0⟩:∃ g0,g0=VB0.heap.size:=⟨_,rfl⟩
   rw [← hg0]
   rw [← hg0] at q
   rw [← hg0] at hne
   clear hg0
   generalize VB0.alloc (.cells #[] 45)=VA1 at *
   skip
   refine tkr 5 30 (fun K hK=>?_)
   refine YN rfl _ _ 31 rfl (w.heap.size+3) 45 i0 (.agg #[.string ⟨#[]⟩,.slice none 0 0,.slice none 0 0]) 3 64 Tryz.underlying31 hi0 hz0 hz1 hz2 rfl (by decide) (.slice (some ⟨g0,0,none⟩) 0 0) _ _ rfl q a p c rfl (XX (m:=0) (P:=True) hnil hpc) (Yq (L.take p)) (by rw [Yy,List.length_take];omega) (fun ad ha=>by subst ha;exact Wv.news (hQh.below bw)) (WP _) (by unfold maxLen;omega) (by omega) hsV ?_
   intro v5 VC2 hown hgrow hblk
   have hgB:∀ g,(Value.ownBlock (.slice (some ⟨g0,0,none⟩) 0 0))=some g→w.heap.size+3≤g:=fun g hg=>(q.lt g hg).1
   have hne5:v5.ownBlock≠some g7:=fun e9=>by
    rcases hblk with h9 | h9
    ·rw [h9] at e9;simp [Value.ownBlock] at e9;exact hne e9
    rw [h9] at e9;have:=p7.lt;simp at e9;omega
   replace p7:=p7.kept hgrow (fun e9=>by simp [Value.ownBlock] at e9;exact hne e9)
   replace bw:=bw.grown hgrow (by omega) (fun g hg=>by have:=hgB g hg;omega)
   replace pM:=pM.kept hgrow (fun e9=>by have:=hgB _ e9;omega)
   replace pE:=pE.kept hgrow (fun e9=>by have:=hgB _ e9;omega)
   replace pR:=pR.kept hgrow (fun e9=>by have:=hgB _ e9;omega)
   replace hsV:=Nat.le_trans hsV hgrow.size
   have q5:VC2.ownsRow (w.heap.size+3) 45 3 v5 p (Yq (L.take p)):=by simpa [Yq] using hown
   clear q
   obtain ⟨va,vc,rfl⟩:=ZY q5
   have q:=q5
   clear q5 hown hgrow hgB hblk
   go_simp
   refine hK.out _ _ ⟨pM.cell 0,pE.cell 0,pE.cell 1,pE.cell 2⟩ (fun hS1=>?_)
   clear hK hS1
   try simp only [Act.put,tka,tkb,tkc]
  all_goals
   refine tkr 8 33 (fun K hK=>?_)
   refine YN rfl _ _ 31 rfl (w.heap.size+3) 45 i0 (.agg #[.string ⟨#[]⟩,.slice none 0 0,.slice none 0 0]) 3 64 Tryz.underlying31 hi0 hz0 hz1 hz2 rfl (by decide) (.slice va p vc) _ _ rfl q (some ⟨g7,0,none⟩) 1 1 rfl (fun h9=>by cases h9) (YI ek ((e1,m1,d1),(e2,m2,d2))) (by simp [YI]) (fun ad ha j u hj=>by cases ha;rw [Bh,p7.cell j];exact hj) (Sp _ _) (by unfold maxLen;omega) (by omega) hsV ?_
   intro v8 V8 hown hgrow _
   have hgB:∀ g,(Value.ownBlock (.slice va p vc))=some g→w.heap.size+3≤g:=fun g hg=>(q.lt g hg).1
   replace bw:=bw.grown hgrow (by omega) (fun g hg=>by have:=hgB g hg;omega)
   replace pM:=pM.kept hgrow (fun e9=>by have:=hgB _ e9;omega)
   replace pE:=pE.kept hgrow (fun e9=>by have:=hgB _ e9;omega)
   replace pR:=pR.kept hgrow (fun e9=>by have:=hgB _ e9;omega)
   replace hsV:=Nat.le_trans hsV hgrow.size
   have q8:V8.ownsRow (w.heap.size+3) 45 3 v8 (p+1) (Yq (L.take p)++YI ek ((e1,m1,d1),(e2,m2,d2))):=hown
   obtain ⟨va8,vc8,rfl⟩:=ZY q8
   clear hown hgrow hgB q p7
   go_simp
   refine hK.out _ _ ⟨pM.cell 0,pE.cell 0,pE.cell 1,pE.cell 2⟩ (fun hS1=>?_)
   clear hK hS1
   try simp only [Act.put,tka,tkb,tkc]
   refine tkr 10 35 (fun K hK=>?_)
   refine YN rfl _ _ 31 rfl (w.heap.size+3) 45 i0 (.agg #[.string ⟨#[]⟩,.slice none 0 0,.slice none 0 0]) 3 64 Tryz.underlying31 hi0 hz0 hz1 hz2 rfl (by decide) (.slice va8 (p+1) vc8) _ _ rfl q8 ta (n - (p+1)) (c - (p+1)) rfl (XX (m:=0) (P:=True) hnt (by omega)) (Yq (L.drop (p+1))) (by rw [Yy,List.length_drop];omega) (fun ad ha=>by subst ha;exact Wv.news (hQt.below bw)) (WP _) (by unfold maxLen;omega) (by omega) hsV ?_
 all_goals
  intro v9 V9 hown hgrow _
  have hgB:∀ g,(Value.ownBlock (.slice va8 (p+1) vc8))=some g→w.heap.size+3≤g:=fun g hg=>(q8.lt g hg).1
  replace bw:=bw.grown hgrow (by omega) (fun g hg=>by have:=hgB g hg;omega)
  replace pM:=pM.kept hgrow (fun e9=>by have:=hgB _ e9;omega)
  replace pE:=pE.kept hgrow (fun e9=>by have:=hgB _ e9;omega)
  replace pR:=pR.kept hgrow (fun e9=>by have:=hgB _ e9;omega)
  replace hsV:=Nat.le_trans hsV hgrow.size
  have q9:V9.ownsRow (w.heap.size+3) 45 3 v9 PL.length (Yq PL):=by rw [HPL.out.1,HPL.out.2];exact hown
  obtain ⟨va9,vn9,vc9,rfl⟩:=Ck hown
  clear hown hgrow hgB q8
  go_simp
  refine hK.out _ _ ⟨pM.cell 0,pE.cell 0,pE.cell 1,pE.cell 2⟩ (fun hS10=>?_)
  clear hK
  try simp only [Act.put,tka,tkb,tkc]
  refine tkv 11 36 (.agg #[.slice va9 vn9 vc9]) ?_
  have r0:=pR.cell 0
  have fr0:=pR.frozen 0
  have pZ:=pR.set 0 (.slice va9 vn9 vc9)
  have pM2:=pM.off ⟨w.heap.size+1+1,0,none⟩ (.slice va9 vn9 vc9) (by simp;omega)
  have pE2:=pE.off ⟨w.heap.size+1+1,0,none⟩ (.slice va9 vn9 vc9) (by simp)
  simp only [List.set_cons_zero] at pZ
  have z0:=pZ.cell 0
  simp only [List.getElem?_cons_zero] at z0 r0
  have bz:=bw.setCell (p:=⟨w.heap.size+1+1,0,none⟩) (show w.heap.size≤w.heap.size+1+1 by omega) (.slice va9 vn9 vc9)
  have hM9:=Yz (ownsRow_setCell_below q9 (a:=⟨w.heap.size+1+1,0,none⟩) (show w.heap.size+1+1<w.heap.size+3 by omega) (.slice va9 vn9 vc9)) (show w.heap.size≤w.heap.size+3 by omega)
  clear q9 pZ hS10
  refine tkz 12 (fun K hK=>?_)
  go_simp
  refine hK.out _ _ ⟨pM2.cell 0,pE2.cell 0,pE2.cell 1,pE2.cell 2⟩ (fun hS1=>?_)
  clear hK hS1
  try simp only [Act.put,tka,tkb,tkc]
  refine wpAnyH_done (by kernel_rfl) ?_ _
  clear pM pE pR pM2 pE2 bw
  go_wp2
  refine bodyPost_ret (by simp [results,Tryz.results123,go_sem,z0];try rfl) rfl ?_
  exact ⟨NP.mk9 hM9,bz⟩
end Go.Proofs.YtgmhhegckcionaaGreatDoor
