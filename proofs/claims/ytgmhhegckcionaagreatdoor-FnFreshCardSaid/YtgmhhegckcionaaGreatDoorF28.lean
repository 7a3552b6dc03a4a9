/-
  Joined: PutI.
-/
import Derived.Test.YtgmhhegckcionaaGreatDoorF26

namespace Go.Proofs.YtgmhhegckcionaaGreatDoor
set_option maxRecDepth 100000
set_option maxHeartbeats 16000000
open Go.RowKit
set_option linter.unusedVariables false
set_option linter.unusedSimpArgs false

theorem CB {w:World} {G:Nat} {a:Value} (h0:w.cell? ⟨G,0,none⟩=some a):∀ j u,[a][j]?=some u→w.cell? ((⟨G,0,none⟩:Addr).add j)=some u:=by
 intro j u hj
 match j,hj with
 | 0,hj=>simp at hj;subst hj;simpa [Addr.add] using h0
 | (j+1),hj=>simp at hj
theorem P5 (b off n cap:Nat) (xs:List Int) (y:Int) (w:World) (h:Yn .i64 w (some ⟨b,off,none⟩) n cap xs) (hn:n≤1000000) :
  Calls Tryz.prog 155 #[.slice (some ⟨b,off,none⟩) n cap,.int .i64 y] w fun e w'=>S9 e w' w.heap.size (Yt xs y)∧Below w.heap.size w w':=by
 obtain ⟨i0,hi,hz0,hz1,hz2⟩:=info_parts XQ
 have hl:=h.1
 have bw:Below w.heap.size w w:=Below.refl _ _
 have hsz:w.heap.size≤w.heap.size:=Nat.le_refl _
 go_enter Tryz.func155,Tryz.ntmps155
 go_wp2_with fail
 go_loopw [5] (fun si wr=>∃ k:Nat,k≤n∧si=.int .i64 k∧Hid (∀ i,i<k→xs.getD i 0<y)∧w=wr) (fun si _=>n - (Go.RowKit.intOf si).toNat)
 case atStart=>exact ⟨0,by omega,rfl,fun i hi=>by omega,rfl⟩
 case round =>
  obtain ⟨k,hkn,rfl,HY,rfl⟩:=hrel
  have hPut:=Js xs y k (by omega) HY.out
  obtain ⟨o2,rD,hD⟩:=F6 h hkn
  have rT:=(VG h hkn).1
  by_cases hlt:k<n
  ·have hki:(k:Int)<(n:Int):=by omega
   have hk0:(0:Int)≤(k:Int):=by omega
   have hX':=h
   obtain ⟨_,_,_,hcase⟩:=hX'
   rcases hcase with h0 | ⟨b',off',he,hb,hc⟩
   ·omega
   cases he
   have d0:=hc k hlt
   clear hc hb
   obtain ⟨x,hx⟩:∃ x,x=xs.getD k 0:=⟨_,rfl⟩
   rw [← hx] at d0 hPut
   by_cases hxy:x<y
   ·have HN:Hid (∀ i,i<k+1→xs.getD i 0<y):=fun i hi=>by
     by_cases e:i=k
     ·subst e;rw [← hx];exact hxy
     exact HY.out i (by omega)
    clear hPut HY rD rT hD hx
    go_wp2
    go_roundw
    case rel=>exact ⟨k+1,by omega,by go_num,HN,by first | rfl | trivial⟩
    case measure=>simp [Go.RowKit.intOf];omega
   have hP2:=hPut (.inr hxy)
   clear hPut HY hx
   have hxy':decide (x<y)=false:=by simp;omega
   by_cases hE:x=y
   ·subst hE
    have HQ:Hid (Yt xs x=xs):=by
     rw [Hid,hP2,if_pos ⟨by omega,rfl⟩]
    have hxx0:(x == x)=true:=by simp
    clear hP2 rD rT hD hxy
    go_wp2_with (at_builtin;refine wpList_append_own _ rfl _ _ 36 rfl w.heap.size 3 i0 (.int .i64 0) 1 8 Tryz.underlying36 hi hz0 hz1 hz2 rfl (by decide) _ _ _ rfl (XZ w 3 1 w.heap.size hsz) ⟨b,off,none⟩ n cap (xs.map (Value.int .i64)) rfl (by rw [List.length_map];omega) (TT (h.below (by go_grown))) (Ro _) ?c3 ?c4 ?c5 ?_)
    case c3=>unfold maxLen;omega
    case c4=>omega
    case c5=>simp
    intro v7 w7 hown7 hgrow7 _
    replace hown7:w7.ownsRow w.heap.size 3 1 v7 n (xs.map (Value.int .i64)):=by simpa using hown7
    have bw7:Below w.heap.size w w7:=(show Below w.heap.size w (w.alloc (.cells #[] 3)) by go_grown).grown hgrow7 (by simp) (fun g hg=>by simp [Value.ownBlock] at hg;omega)
    obtain ⟨g,c,rfl⟩:=RR hown7 (by omega)
    have hQ:w7.ownsRow w.heap.size 3 1 (.slice (some ⟨g,0,none⟩) n c) (Yt xs x).length ((Yt xs x).map (Value.int .i64)):=by
     rw [HQ.out,hl]
     exact hown7
    clear hown7 hgrow7
    go_wp2
    go_ret
    exact ⟨⟨_,rfl,hQ⟩,bw7⟩
   have HP:Hid (∀ (v:Value) (W:World),W.ownsRow w.heap.size 3 1 v (0+k+1+(n - k)) (([]++(xs.take k).map (Value.int .i64)++[.int .i64 y])++(xs.drop k).map (Value.int .i64))→W.ownsRow w.heap.size 3 1 v (Yt xs y).length ((Yt xs y).map (Value.int .i64))):=by
    intro v W q
    rw [if_neg (fun e=>hE e.2)] at hP2
    have hlen:(Yt xs y).length=0+k+1+(n - k):=by rw [hP2];simp;omega
    rw [hlen,hP2]
    simpa using q
   have hE':(x == y)=false:=by simp [hE]
   clear hP2 hE hxy
   go_wp2_with fail
   refine wp_region_held_drew (S:=(fun w'=>w.heap.size≤w'.heap.size)) (by kernel_rfl) hsz (fun hS0=>?_)
   refine tkm 1 36 (.slice (some ⟨b,off,none⟩) n cap) ?_
   refine tkm 2 37 (.int .i64 (k:Int)) ?_
   refine tkm 3 38 (.slice (some ⟨b,off,none⟩) k cap) ?_
   refine tkm 5 40 (.int .i64 y) ?_
   refine tkm 8 43 (.slice (some ⟨b,off,none⟩) n cap) ?_
   refine tkm 9 44 (.int .i64 (k:Int)) ?_
   refine tkm 10 45 (.slice (some ⟨b,o2,none⟩) (n - k) (cap - k)) ?_
   refine wpAnyH_ready (rs:=[0,6]) (by kernel_rfl) (by simp) ?_
   refine AllReadyH.cons (o:=⟨some 35,_,_,_,_,_⟩) rfl (fun K hK=>?_) (AllReadyH.cons (o:=⟨some 41,_,_,_,_,_⟩) rfl (fun K hK=>?_) AllReadyH.nil)
   focus
    have q:=(XZ w 3 1 w.heap.size hsz).drew
    obtain ⟨V1,hV⟩:∃ V,V=w.heap.size:=⟨_,rfl⟩
    have hal:Below w.heap.size w (w.alloc (.cells #[] 3)).drew:=by go_grown
    replace bw:=Zo bw hal
    replace hsz:w.heap.size≤(w.alloc (.cells #[] 3)).drew.heap.size:=Nat.le_trans hsz hal.size
    go_simp
    rw [← hV]
    refine hK.out _ _ hsz (fun hS1=>?_)
    clear hK hal
    replace q:(w.alloc (.cells #[] 3)).drew.ownsRow w.heap.size 3 1 (.slice (some ⟨V1,0,none⟩) 0 0) 0 []:=by rw [hV];exact q
    clear hV
    generalize (w.alloc (.cells #[] 3)).drew=U1 at *
    try simp only [Act.put,tka,tkb,tkc]
    refine wpAnyH_ready (rs:=[4,6]) (by kernel_rfl) (by simp) ?_
    refine AllReadyH.cons (o:=⟨some 39,_,_,_,_,_⟩) rfl (fun K hK=>?_) (AllReadyH.cons (o:=⟨some 41,_,_,_,_,_⟩) rfl (fun K hK=>?_) AllReadyH.nil)
    focus
     refine Xw rfl _ _ 36 rfl w.heap.size 3 i0 (.int .i64 0) 1 8 Tryz.underlying36 hi hz0 hz1 hz2 rfl (by decide) (.slice (some ⟨V1,0,none⟩) 0 0) 0 [] rfl q ⟨b,off,none⟩ k cap ((xs.take k).map (Value.int .i64)) rfl (by rw [List.length_map,List.length_take];omega) (TT ((VG h hkn).2.below bw)) (Ro _) (by unfold maxLen;omega) (by omega) hsz ?_
     intro v2 U2 q2 gr hob
     replace bw:=bw.grown gr bw.size (fun g hg=>(q.lt g hg).1)
     replace hsz:w.heap.size≤U2.heap.size:=Nat.le_trans hsz gr.size
     refine hK.out _ _ hsz (fun hS2=>?_)
     clear hK q gr hob
     have q:=q2
     clear q2
     try simp only [Act.put,tka,tkb,tkc]
     refine tkr 6 41 (fun K hK=>?_)
     obtain ⟨G,hG⟩:∃ G,G=U2.heap.size:=⟨_,rfl⟩
     have e0:(U2.alloc (.cells #[.int .i64 y] 3)).cell? ⟨G,0,none⟩=some (.int .i64 y):=by subst hG;simp [go_sem]
     have hal:Below U2.heap.size U2 (U2.alloc (.cells #[.int .i64 y] 3)):=by go_grown
     have hap:∀ g,Value.ownBlock v2=some g→g≠G:=fun g hg e=>by have:=(q.lt g hg).2;omega
     replace q:=Z1 q hal
     replace bw:=Zo bw hal
     replace hsz:w.heap.size≤(U2.alloc (.cells #[.int .i64 y] 3)).heap.size:=Nat.le_trans hsz hal.size
     go_simp
     rw [← hG]
     refine hK.out _ _ hsz (fun hS3=>?_)
     clear hK hal
     clear hG
     generalize (U2.alloc (.cells #[.int .i64 y] 3))=U3 at *
    rotate_left
    focus
     obtain ⟨G,hG⟩:∃ G,G=U1.heap.size:=⟨_,rfl⟩
     have e0:(U1.alloc (.cells #[.int .i64 y] 3)).cell? ⟨G,0,none⟩=some (.int .i64 y):=by subst hG;simp [go_sem]
     have hal:Below U1.heap.size U1 (U1.alloc (.cells #[.int .i64 y] 3)):=by go_grown
     have hap:∀ g,Value.ownBlock (.slice (some ⟨V1,0,none⟩) 0 0)=some g→g≠G:=fun g hg e=>by have:=(q.lt g hg).2;omega
     replace q:=Z1 q hal
     replace bw:=Zo bw hal
     replace hsz:w.heap.size≤(U1.alloc (.cells #[.int .i64 y] 3)).heap.size:=Nat.le_trans hsz hal.size
     go_simp
     rw [← hG]
     refine hK.out _ _ hsz (fun hS6=>?_)
     clear hK hal
     clear hG
     generalize (U1.alloc (.cells #[.int .i64 y] 3))=U6 at *
     try simp only [Act.put,tka,tkb,tkc]
     refine tkr 4 39 (fun K hK=>?_)
     have hGl:=World.block_lt_of_cell? _ _ e0
     refine Xw rfl _ _ 36 rfl w.heap.size 3 i0 (.int .i64 0) 1 8 Tryz.underlying36 hi hz0 hz1 hz2 rfl (by decide) (.slice (some ⟨V1,0,none⟩) 0 0) 0 [] rfl q ⟨b,off,none⟩ k cap ((xs.take k).map (Value.int .i64)) rfl (by rw [List.length_map,List.length_take];omega) (TT ((VG h hkn).2.below bw)) (Ro _) (by unfold maxLen;omega) (by omega) hsz ?_
     intro v2 U7 q2 gr hob
     replace e0:=Zp gr e0 (fun e=>hap _ e.symm rfl)
     have hap2:∀ g,Value.ownBlock v2=some g→g≠G:=fun g hg e=>by
      rcases hob with hu | hu
      ·exact hap g (hu▸hg) e
      rw [hu] at hg
      simp at hg hGl
      omega
     clear hap hGl
     have hap:=hap2
     clear hap2
     replace bw:=bw.grown gr bw.size (fun g hg=>(q.lt g hg).1)
     replace hsz:w.heap.size≤U7.heap.size:=Nat.le_trans hsz gr.size
     refine hK.out _ _ hsz (fun hS7=>?_)
     clear hK q gr hob
     have q:=q2
     clear q2
   rotate_left 2
   focus
    obtain ⟨G,hG⟩:∃ G,G=w.heap.size:=⟨_,rfl⟩
    have e0:(w.alloc (.cells #[.int .i64 y] 3)).drew.cell? ⟨G,0,none⟩=some (.int .i64 y):=by subst hG;simp [go_sem]
    have hal:Below w.heap.size w (w.alloc (.cells #[.int .i64 y] 3)).drew:=by go_grown
    replace bw:=Zo bw hal
    replace hsz:w.heap.size≤(w.alloc (.cells #[.int .i64 y] 3)).drew.heap.size:=Nat.le_trans hsz hal.size
    go_simp
    rw [← hG]
    refine hK.out _ _ hsz (fun hS10=>?_)
    clear hK hal
    clear hG
    generalize (w.alloc (.cells #[.int .i64 y] 3)).drew=U10 at *
    try simp only [Act.put,tka,tkb,tkc]
    refine tkr 0 35 (fun K hK=>?_)
    have q:=(XZ U10 3 1 w.heap.size hsz)
    obtain ⟨V11,hV⟩:∃ V,V=U10.heap.size:=⟨_,rfl⟩
    have hap:∀ g,(Value.slice (some ⟨U10.heap.size,0,none⟩) 0 0).ownBlock=some g→g≠G:=fun g hg e=>by have hGl:=World.block_lt_of_cell? _ _ e0;simp [Value.ownBlock] at hg;simp at hGl;omega
    have hal:Below U10.heap.size U10 (U10.alloc (.cells #[] 3)):=by go_grown
    replace e0:=ZM hal e0
    replace bw:=Zo bw hal
    replace hsz:w.heap.size≤(U10.alloc (.cells #[] 3)).heap.size:=Nat.le_trans hsz hal.size
    go_simp
    rw [← hV]
    refine hK.out _ _ hsz (fun hS11=>?_)
    clear hK hal
    replace q:(U10.alloc (.cells #[] 3)).ownsRow w.heap.size 3 1 (.slice (some ⟨V11,0,none⟩) 0 0) 0 []:=by rw [hV];exact q
    replace hap:∀ g,(Value.slice (some ⟨V11,0,none⟩) 0 0).ownBlock=some g→g≠G:=by rw [hV];exact hap
    clear hV
    generalize (U10.alloc (.cells #[] 3))=U11 at *
    try simp only [Act.put,tka,tkb,tkc]
    refine tkr 4 39 (fun K hK=>?_)
    have hGl:=World.block_lt_of_cell? _ _ e0
    refine Xw rfl _ _ 36 rfl w.heap.size 3 i0 (.int .i64 0) 1 8 Tryz.underlying36 hi hz0 hz1 hz2 rfl (by decide) (.slice (some ⟨V11,0,none⟩) 0 0) 0 [] rfl q ⟨b,off,none⟩ k cap ((xs.take k).map (Value.int .i64)) rfl (by rw [List.length_map,List.length_take];omega) (TT ((VG h hkn).2.below bw)) (Ro _) (by unfold maxLen;omega) (by omega) hsz ?_
    intro v2 U12 q2 gr hob
    replace e0:=Zp gr e0 (fun e=>hap _ e.symm rfl)
    have hap2:∀ g,Value.ownBlock v2=some g→g≠G:=fun g hg e=>by
     rcases hob with hu | hu
     ·exact hap g (hu▸hg) e
     rw [hu] at hg
     simp at hg hGl
     omega
    clear hap hGl
    have hap:=hap2
    clear hap2
    replace bw:=bw.grown gr bw.size (fun g hg=>(q.lt g hg).1)
    replace hsz:w.heap.size≤U12.heap.size:=Nat.le_trans hsz gr.size
    refine hK.out _ _ hsz (fun hS12=>?_)
    clear hK q gr hob
    have q:=q2
    clear q2
   all_goals
    try simp only [Act.put,tka,tkb,tkc]
    refine tkr 7 42 (fun K hK=>?_)
    refine Xw rfl _ _ 36 rfl w.heap.size 3 i0 (.int .i64 0) 1 8 Tryz.underlying36 hi hz0 hz1 hz2 rfl (by decide) v2 (0+k) ([]++(xs.take k).map (Value.int .i64)) rfl q ⟨G,0,none⟩ 1 1 [.int .i64 y] rfl rfl (CB e0) (Ro [y]) (by unfold maxLen;omega) (by omega) hsz ?_
    intro v4 U4 q2 gr hob
    replace bw:=bw.grown gr bw.size (fun g hg=>(q.lt g hg).1)
    replace hsz:w.heap.size≤U4.heap.size:=Nat.le_trans hsz gr.size
    refine hK.out _ _ hsz (fun hS4=>?_)
    clear hK q gr hob
    have q:=q2
    clear q2
    clear e0 hap
    try simp only [Act.put,tka,tkb,tkc]
    refine tkr 11 46 (fun K hK=>?_)
    refine Xw rfl _ _ 36 rfl w.heap.size 3 i0 (.int .i64 0) 1 8 Tryz.underlying36 hi hz0 hz1 hz2 rfl (by decide) v4 (0+k+1) (([]++(xs.take k).map (Value.int .i64))++[.int .i64 y]) rfl q ⟨b,o2,none⟩ (n - k) (cap - k) ((xs.drop k).map (Value.int .i64)) rfl (by rw [List.length_map,List.length_drop];omega) (TT (hD.below bw)) (Ro _) (by unfold maxLen;omega) (by omega) hsz ?_
    intro v5 U5 q2 gr hob
    replace bw:=bw.grown gr bw.size (fun g hg=>(q.lt g hg).1)
    replace hsz:w.heap.size≤U5.heap.size:=Nat.le_trans hsz gr.size
    refine hK.out _ _ hsz (fun hS5=>?_)
    clear hK q gr hob
    have q:=q2
    clear q2
    try simp only [Act.put,tka,tkb,tkc]
    refine tkm 12 4 v5 ?_
    refine wpAnyH_done (by kernel_rfl) ?_ _
    have hQ:=HP.out _ _ q
    obtain ⟨g,c,rfl⟩:=RR q (by omega)
    clear q rT rD
    go_wp2
    go_ret
    exact ⟨⟨_,rfl,hQ⟩,bw⟩
  obtain rfl:k=n:=by omega
  have hkk:¬ ((k:Int)<(k:Int)):=by omega
  have hkb:decide ((k:Int)<(k:Int))=false:=by simp
  have hP2:=hPut (.inl (by omega))
  have HP:Hid (∀ (v:Value) (W:World),W.ownsRow w.heap.size 3 1 v (0+k+1+0) (([]++(xs.take k).map (Value.int .i64)++[.int .i64 y])++(xs.drop k).map (Value.int .i64))→W.ownsRow w.heap.size 3 1 v (Yt xs y).length ((Yt xs y).map (Value.int .i64))):=by
   intro v W q
   rw [if_neg (by omega)] at hP2
   have hlen:(Yt xs y).length=0+k+1+0:=by rw [hP2];simp;omega
   rw [hlen,hP2]
   simpa using q
  clear hPut HY hP2
  go_wp2_with fail
  refine wp_region_held_drew (S:=(fun w'=>w.heap.size≤w'.heap.size)) (by kernel_rfl) hsz (fun hS0=>?_)
  refine tkm 1 36 (.slice (some ⟨b,off,none⟩) k cap) ?_
  refine tkm 2 37 (.int .i64 (k:Int)) ?_
  refine tkm 3 38 (.slice (some ⟨b,off,none⟩) k cap) ?_
  refine tkm 5 40 (.int .i64 y) ?_
  refine tkm 8 43 (.slice (some ⟨b,off,none⟩) k cap) ?_
  refine tkm 9 44 (.int .i64 (k:Int)) ?_
  refine tkm 10 45 (.slice (some ⟨b,o2,none⟩) 0 (cap - k)) ?_
  refine wpAnyH_ready (rs:=[0,6]) (by kernel_rfl) (by simp) ?_
  refine AllReadyH.cons (o:=⟨some 35,_,_,_,_,_⟩) rfl (fun K hK=>?_) (AllReadyH.cons (o:=⟨some 41,_,_,_,_,_⟩) rfl (fun K hK=>?_) AllReadyH.nil)
  focus
   have q:=(XZ w 3 1 w.heap.size hsz).drew
   obtain ⟨V15,hV⟩:∃ V,V=w.heap.size:=⟨_,rfl⟩
   have hal:Below w.heap.size w (w.alloc (.cells #[] 3)).drew:=by go_grown
   replace bw:=Zo bw hal
   replace hsz:w.heap.size≤(w.alloc (.cells #[] 3)).drew.heap.size:=Nat.le_trans hsz hal.size
   go_simp
   rw [← hV]
   refine hK.out _ _ hsz (fun hS15=>?_)
   clear hK hal
   replace q:(w.alloc (.cells #[] 3)).drew.ownsRow w.heap.size 3 1 (.slice (some ⟨V15,0,none⟩) 0 0) 0 []:=by rw [hV];exact q
   clear hV
   generalize (w.alloc (.cells #[] 3)).drew=U15 at *
   try simp only [Act.put,tka,tkb,tkc]
   refine wpAnyH_ready (rs:=[4,6]) (by kernel_rfl) (by simp) ?_
   refine AllReadyH.cons (o:=⟨some 39,_,_,_,_,_⟩) rfl (fun K hK=>?_) (AllReadyH.cons (o:=⟨some 41,_,_,_,_,_⟩) rfl (fun K hK=>?_) AllReadyH.nil)
   focus
    refine Xw rfl _ _ 36 rfl w.heap.size 3 i0 (.int .i64 0) 1 8 Tryz.underlying36 hi hz0 hz1 hz2 rfl (by decide) (.slice (some ⟨V15,0,none⟩) 0 0) 0 [] rfl q ⟨b,off,none⟩ k cap ((xs.take k).map (Value.int .i64)) rfl (by rw [List.length_map,List.length_take];omega) (TT ((VG h hkn).2.below bw)) (Ro _) (by unfold maxLen;omega) (by omega) hsz ?_
    intro v16 U16 q2 gr hob
    replace bw:=bw.grown gr bw.size (fun g hg=>(q.lt g hg).1)
    replace hsz:w.heap.size≤U16.heap.size:=Nat.le_trans hsz gr.size
    refine hK.out _ _ hsz (fun hS16=>?_)
    clear hK q gr hob
    have q:=q2
    clear q2
    try simp only [Act.put,tka,tkb,tkc]
    refine tkr 6 41 (fun K hK=>?_)
    obtain ⟨G,hG⟩:∃ G,G=U16.heap.size:=⟨_,rfl⟩
    have e0:(U16.alloc (.cells #[.int .i64 y] 3)).cell? ⟨G,0,none⟩=some (.int .i64 y):=by subst hG;simp [go_sem]
    have hal:Below U16.heap.size U16 (U16.alloc (.cells #[.int .i64 y] 3)):=by go_grown
    have hap:∀ g,Value.ownBlock v16=some g→g≠G:=fun g hg e=>by have:=(q.lt g hg).2;omega
    replace q:=Z1 q hal
    replace bw:=Zo bw hal
    replace hsz:w.heap.size≤(U16.alloc (.cells #[.int .i64 y] 3)).heap.size:=Nat.le_trans hsz hal.size
    go_simp
    rw [← hG]
    refine hK.out _ _ hsz (fun hS17=>?_)
    clear hK hal
    clear hG
    generalize (U16.alloc (.cells #[.int .i64 y] 3))=U17 at *
   rotate_left
   focus
    obtain ⟨G,hG⟩:∃ G,G=U15.heap.size:=⟨_,rfl⟩
    have e0:(U15.alloc (.cells #[.int .i64 y] 3)).cell? ⟨G,0,none⟩=some (.int .i64 y):=by subst hG;simp [go_sem]
    have hal:Below U15.heap.size U15 (U15.alloc (.cells #[.int .i64 y] 3)):=by go_grown
    have hap:∀ g,Value.ownBlock (.slice (some ⟨V15,0,none⟩) 0 0)=some g→g≠G:=fun g hg e=>by have:=(q.lt g hg).2;omega
    replace q:=Z1 q hal
    replace bw:=Zo bw hal
    replace hsz:w.heap.size≤(U15.alloc (.cells #[.int .i64 y] 3)).heap.size:=Nat.le_trans hsz hal.size
    go_simp
    rw [← hG]
    refine hK.out _ _ hsz (fun hS20=>?_)
    clear hK hal
    clear hG
    generalize (U15.alloc (.cells #[.int .i64 y] 3))=U20 at *
    try simp only [Act.put,tka,tkb,tkc]
    refine tkr 4 39 (fun K hK=>?_)
    have hGl:=World.block_lt_of_cell? _ _ e0
    refine Xw rfl _ _ 36 rfl w.heap.size 3 i0 (.int .i64 0) 1 8 Tryz.underlying36 hi hz0 hz1 hz2 rfl (by decide) (.slice (some ⟨V15,0,none⟩) 0 0) 0 [] rfl q ⟨b,off,none⟩ k cap ((xs.take k).map (Value.int .i64)) rfl (by rw [List.length_map,List.length_take];omega) (TT ((VG h hkn).2.below bw)) (Ro _) (by unfold maxLen;omega) (by omega) hsz ?_
    intro v16 U21 q2 gr hob
    replace e0:=Zp gr e0 (fun e=>hap _ e.symm rfl)
    have hap2:∀ g,Value.ownBlock v16=some g→g≠G:=fun g hg e=>by
     rcases hob with hu | hu
     ·exact hap g (hu▸hg) e
     rw [hu] at hg
     simp at hg hGl
     omega
    clear hap hGl
    have hap:=hap2
    clear hap2
    replace bw:=bw.grown gr bw.size (fun g hg=>(q.lt g hg).1)
    replace hsz:w.heap.size≤U21.heap.size:=Nat.le_trans hsz gr.size
    refine hK.out _ _ hsz (fun hS21=>?_)
    clear hK q gr hob
    have q:=q2
    clear q2
  rotate_left 2
  focus
   obtain ⟨G,hG⟩:∃ G,G=w.heap.size:=⟨_,rfl⟩
   have e0:(w.alloc (.cells #[.int .i64 y] 3)).drew.cell? ⟨G,0,none⟩=some (.int .i64 y):=by subst hG;simp [go_sem]
   have hal:Below w.heap.size w (w.alloc (.cells #[.int .i64 y] 3)).drew:=by go_grown
   replace bw:=Zo bw hal
   replace hsz:w.heap.size≤(w.alloc (.cells #[.int .i64 y] 3)).drew.heap.size:=Nat.le_trans hsz hal.size
   go_simp
   rw [← hG]
   refine hK.out _ _ hsz (fun hS24=>?_)
   clear hK hal
   clear hG
   generalize (w.alloc (.cells #[.int .i64 y] 3)).drew=U24 at *
   try simp only [Act.put,tka,tkb,tkc]
   refine tkr 0 35 (fun K hK=>?_)
   have q:=(XZ U24 3 1 w.heap.size hsz)
   obtain ⟨V25,hV⟩:∃ V,V=U24.heap.size:=⟨_,rfl⟩
   have hap:∀ g,(Value.slice (some ⟨U24.heap.size,0,none⟩) 0 0).ownBlock=some g→g≠G:=fun g hg e=>by have hGl:=World.block_lt_of_cell? _ _ e0;simp [Value.ownBlock] at hg;simp at hGl;omega
   have hal:Below U24.heap.size U24 (U24.alloc (.cells #[] 3)):=by go_grown
   replace e0:=ZM hal e0
   replace bw:=Zo bw hal
   replace hsz:w.heap.size≤(U24.alloc (.cells #[] 3)).heap.size:=Nat.le_trans hsz hal.size
   go_simp
   rw [← hV]
   refine hK.out _ _ hsz (fun hS25=>?_)
   clear hK hal
   replace q:(U24.alloc (.cells #[] 3)).ownsRow w.heap.size 3 1 (.slice (some ⟨V25,0,none⟩) 0 0) 0 []:=by rw [hV];exact q
   replace hap:∀ g,(Value.slice (some ⟨V25,0,none⟩) 0 0).ownBlock=some g→g≠G:=by rw [hV];exact hap
   clear hV
   generalize (U24.alloc (.cells #[] 3))=U25 at *
   try simp only [Act.put,tka,tkb,tkc]
   refine tkr 4 39 (fun K hK=>?_)
   have hGl:=World.block_lt_of_cell? _ _ e0
   refine Xw rfl _ _ 36 rfl w.heap.size 3 i0 (.int .i64 0) 1 8 Tryz.underlying36 hi hz0 hz1 hz2 rfl (by decide) (.slice (some ⟨V25,0,none⟩) 0 0) 0 [] rfl q ⟨b,off,none⟩ k cap ((xs.take k).map (Value.int .i64)) rfl (by rw [List.length_map,List.length_take];omega) (TT ((VG h hkn).2.below bw)) (Ro _) (by unfold maxLen;omega) (by omega) hsz ?_
   intro v16 U26 q2 gr hob
   replace e0:=Zp gr e0 (fun e=>hap _ e.symm rfl)
   have hap2:∀ g,Value.ownBlock v16=some g→g≠G:=fun g hg e=>by
    rcases hob with hu | hu
    ·exact hap g (hu▸hg) e
    rw [hu] at hg
    simp at hg hGl
    omega
   clear hap hGl
   have hap:=hap2
   clear hap2
   replace bw:=bw.grown gr bw.size (fun g hg=>(q.lt g hg).1)
   replace hsz:w.heap.size≤U26.heap.size:=Nat.le_trans hsz gr.size
   refine hK.out _ _ hsz (fun hS26=>?_)
   clear hK q gr hob
   have q:=q2
   clear q2
  all_goals
   try simp only [Act.put,tka,tkb,tkc]
   refine tkr 7 42 (fun K hK=>?_)
   refine Xw rfl _ _ 36 rfl w.heap.size 3 i0 (.int .i64 0) 1 8 Tryz.underlying36 hi hz0 hz1 hz2 rfl (by decide) v16 (0+k) ([]++(xs.take k).map (Value.int .i64)) rfl q ⟨G,0,none⟩ 1 1 [.int .i64 y] rfl rfl (CB e0) (Ro [y]) (by unfold maxLen;omega) (by omega) hsz ?_
   intro v18 U18 q2 gr hob
   replace bw:=bw.grown gr bw.size (fun g hg=>(q.lt g hg).1)
   replace hsz:w.heap.size≤U18.heap.size:=Nat.le_trans hsz gr.size
   refine hK.out _ _ hsz (fun hS18=>?_)
   clear hK q gr hob
   have q:=q2
   clear q2
   clear e0 hap
   try simp only [Act.put,tka,tkb,tkc]
   refine tkr 11 46 (fun K hK=>?_)
   refine Xw rfl _ _ 36 rfl w.heap.size 3 i0 (.int .i64 0) 1 8 Tryz.underlying36 hi hz0 hz1 hz2 rfl (by decide) v18 (0+k+1) (([]++(xs.take k).map (Value.int .i64))++[.int .i64 y]) rfl q ⟨b,o2,none⟩ 0 (cap - k) ((xs.drop k).map (Value.int .i64)) rfl (by rw [List.length_map,List.length_drop];omega) (TT (hD.below bw)) (Ro _) (by unfold maxLen;omega) (by omega) hsz ?_
   intro v19 U19 q2 gr hob
   replace bw:=bw.grown gr bw.size (fun g hg=>(q.lt g hg).1)
   replace hsz:w.heap.size≤U19.heap.size:=Nat.le_trans hsz gr.size
   refine hK.out _ _ hsz (fun hS19=>?_)
   clear hK q gr hob
   have q:=q2
   clear q2
   try simp only [Act.put,tka,tkb,tkc]
   refine tkm 12 4 v19 ?_
   refine wpAnyH_done (by kernel_rfl) ?_ _
   have hQ:=HP.out _ _ q
   obtain ⟨g,c,rfl⟩:=RR q (by omega)
   clear q rT rD
   go_wp2
   go_ret
   exact ⟨⟨_,rfl,hQ⟩,bw⟩
end Go.Proofs.YtgmhhegckcionaaGreatDoor
