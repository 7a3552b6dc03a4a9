/-
  Joined: CntJ, ClsI, RwI, ClsL.
-/
import Derived.Test.YtmhlokahmblboaaGreatDoorK37
import Derived.Test.YtmhlokahmblboaaGreatDoorK43
import Derived.Test.YtmhlokahmblboaaGreatDoorK44

namespace Go.Proofs.YtmhlokahmblboaaGreatDoor
set_option maxRecDepth 100000
set_option maxHeartbeats 16000000
open Go.RowKit
set_option linter.unusedVariables false
set_option linter.unusedSimpArgs false

theorem N9 (rows:List (List I3)) (L:List (Zp V4 × Value)) (X nb vc B Bc g c:Nat) (va:Option Addr) (cs:Sl × Sl × Sl) (hp:Zn rows=true) (hsh:YJ (L.map (·.1))) (hcl:∀ r ∈ L.map (·.1),∀ t ∈ nxM rows r.1,t.2 ∈ (L.map (·.1)).map (·.1)) (hl:L.length≤2000) :
  ∀ (n at9:Nat) (r:Zp V4) (mv:Value),L[at9]?=some (r,mv)→YC rows r.1<n→JI rows L X nb vc B Bc g c va cs at9 r.1
 | 0,_,_,_,_,h=>by omega
 | n+1,at9,r,mv,hr,h=>Jb rows L X nb vc B Bc g c va cs hp hsh hcl hl hr (fun at' r' mv' hr' h'=>N9 rows L X nb vc B Bc g c va cs hp hsh hcl hl n at' r' mv' hr' (by omega))
def Pv (rows:List (List I3)):Int:=if Xi rows=0 then (Z7 rows Zl:Int) else 0
theorem Ke (rows:List (List I3)) (L:List (Zp V4 × Value)):Pj rows L (List.replicate L.length 0):=⟨by simp,fun i r mv h=>by
 left
 have hl:i<L.length:=(List.getElem?_eq_some_iff.1 h).1
 simp [List.getD,hl]⟩

theorem T6 (a:Option Addr) (len cap:Nat) (rows:List (List I3)) (w:World) (hC:XL w a len cap rows) (hV:Ys w) (hc:Xi rows=0) :
  Calls Tryz.prog 25 #[.agg #[.slice a len cap]] w fun e w'=>e=.returned (.tuple #[.int .i64 (Z7 rows Zl:Int),.int .i64 0])∧Below w.heap.size w w':=by
 obtain ⟨hp,hf⟩:=UN hc
 obtain ⟨i0,hi9,hz0,hz1,hz2⟩:=info_parts Xc
 obtain ⟨cs,hR⟩:=Ue hC hp
 have kS:=fun (W:World) (b:Below w.heap.size w W) (t:S4) (h:Yk W t Zl)=>Mh a len cap rows t W (hC.below b) h (hV.below b) hp hf
 clear hc
 have fz:=(ZO ZH).1
 have kN:=Wr
 have bw:Below w.heap.size w (w.alloc (.cells #[.slice a len cap] 25)):=by go_grown
 have pP:Blk (w.alloc (.cells #[.slice a len cap] 25)) w.heap.size 25 [.slice a len cap]:=Zo _ _ _ rfl
 go_enter Tryz.func25,Tryz.ntmps25
 go_wp2_with fail
 generalize (w.alloc (.cells #[.slice a len cap] 25))=U at *
 go_cut [4,5] from 6 (fun s4 s5 W=>L2 w W cs rows (Yd rows) s4 s5)
 case first =>
  have hdr:Below U.heap.size U U.drew:=by go_grown
  refine wp_region_held_drew (S:=(fun w'=>w'.cell? ⟨w.heap.size,0,none⟩=some (.slice a len cap))) (by kernel_rfl) (by simpa using pP.cell 0) (fun hS0=>?_)
  refine tkm 0 7 (.agg #[.slice a len cap]) ?_
  have pP9:=pP.below hdr
  replace bw:=Zb bw hdr
  clear hdr
  generalize U.drew=V at *
  have bt:Below V.heap.size V V:=Below.refl _ _
  refine wpAnyH_ready (rs:=[1,6]) (by kernel_rfl) (by simp) ?_
  refine AllReadyH.cons (o:=⟨some 8,_,_,_,_,_⟩) rfl (fun K hK=>?_) (AllReadyH.cons (o:=⟨some 4,_,_,_,_,_⟩) rfl (fun K hK=>?_) AllReadyH.nil)
  ·go_simp
   refine (kN V).mono ?_
   rintro e V1 ⟨⟨⟨⟨t0a,t0n,t0c⟩,⟨t1a,t1n,t1c⟩,⟨t2a,t2n,t2c⟩,⟨t3a,t3n,t3c⟩⟩,rfl,hO⟩,hb1⟩
   have ut:S4.val ((t0a,t0n,t0c),(t1a,t1n,t1c),(t2a,t2n,t2c),(t3a,t3n,t3c))=.agg #[.slice t0a t0n t0c,.slice t1a t1n t1c,.slice t2a t2n t2c,.slice t3a t3n t3c]:=rfl
   rw [ut]
   have bt:=Zb bt hb1
   go_wp2_with fail
   refine hK.out _ _ (Za bt _ _ hS0) (fun hS1=>?_)
   clear hK
   try simp only [Act.put,tka,tkb,tkc]
   refine wpAnyH_ready (rs:=[2,6]) (by kernel_rfl) (by simp) ?_
   refine AllReadyH.cons (o:=⟨some 9,_,_,_,_,_⟩) rfl (fun K hK=>?_) (AllReadyH.cons (o:=⟨some 4,_,_,_,_,_⟩) rfl (fun K hK=>?_) AllReadyH.nil)
   ·have kx:=kS V1 (Zb bw bt) ((t0a,t0n,t0c),(t1a,t1n,t1c),(t2a,t2n,t2c),(t3a,t3n,t3c)) (hO.mem fz)
    rw [ut] at kx
    go_simp
    refine kx.mono ?_
    rintro e V2 ⟨va9,nb,cs',L,rfl,sp,hLF,hR',hb2⟩
    obtain rfl:=(hR.below (Zb bw bt)).uniq hR'
    have hBv:w.heap.size≤V1.heap.size:=Nat.le_trans bw.size bt.size
    obtain ⟨va8,vn8,vc8,hva⟩:=ZZ sp.row
    have bt:=Zb bt hb2
    go_wp2_with fail
    refine hK.out _ _ (Za bt _ _ hS0) (fun hS2=>?_)
    clear hK kx
    try simp only [Act.put,tka,tkb,tkc]
    refine tkm 3 6 (.tuple #[.agg #[va9,.map (some nb)],.int .i64 0]) ?_
    refine tkm 4 10 (.agg #[va9,.map (some nb)]) ?_
    refine tkm 5 11 (.int .i64 0) ?_
    refine tkr 6 4 (fun K hK=>?_)
    have hb3:Below V2.heap.size V2 (V2.alloc (.cells #[.slice none 0 0,.map none] 125)):=by go_grown
    have pX:Blk (V2.alloc (.cells #[.slice none 0 0,.map none] 125)) V2.heap.size 125 [.slice none 0 0,.map none]:=Zo _ _ _ rfl
    have hXB:w.heap.size≤V2.heap.size:=Nat.le_trans bw.size bt.size
    replace sp:=sp.below hb3
    have bt:=Zb bt hb3
    go_simp
    refine hK.out _ _ (Za bt _ _ hS0) (fun hS3=>?_)
    clear hK
    generalize (V2.alloc (.cells #[.slice none 0 0,.map none] 125))=V3 at *
    obtain ⟨X,hX⟩:∃ X,X=V2.heap.size:=⟨_,rfl⟩
    rw [← hX] at pX hXB ⊢
    clear hX
    try simp only [Act.put,tka,tkb,tkc]
    subst hva
    refine tkz 7 (fun K hK=>?_)
    refine Zt rfl 125 _ _ rfl X [.slice va8 vn8 vc8,.map (some nb)] rfl rfl pX (by kernel_rfl) rfl rfl ?_
    intro V9 pX9 g9
    have bz:=(Zb bw bt).grown g9 (Zb bw bt).size (fun q e=>by cases e;exact hXB)
    replace sp:=sp.grown g9 pX (by decide) (by decide)
    have hXP:X≠w.heap.size:=ZJ pX (pP9.below bt) (by decide)
    have c9:=Za bt _ _ hS0
    refine hK.out _ _ (Zh g9 c9 (by simp;omega)) (fun hS4=>?_)
    clear hK
    try simp only [Act.put,tka,tkb,tkc]
    refine tkm 8 5 (.int .i64 0) ?_
    refine wpAnyH_done (by kernel_rfl) ?_ _
    go_wp2_with fail
    go_meet
    case rel=>exact L2.mk9 (va:=.slice none 0 0) rfl rfl pX9.out sp hLF hXB hBv bz
   have hb3:Below V1.heap.size V1 (V1.alloc (.cells #[.slice none 0 0,.map none] 125)):=by go_grown
   have pX:Blk (V1.alloc (.cells #[.slice none 0 0,.map none] 125)) V1.heap.size 125 [.slice none 0 0,.map none]:=Zo _ _ _ rfl
   have hXB:w.heap.size≤V1.heap.size:=Nat.le_trans bw.size bt.size
   replace hO:=hO.below hb3
   have bt:=Zb bt hb3
   go_simp
   refine hK.out _ _ (Za bt _ _ hS0) (fun hS3=>?_)
   clear hK
   generalize (V1.alloc (.cells #[.slice none 0 0,.map none] 125))=V2 at *
   obtain ⟨X,hX⟩:∃ X,X=V1.heap.size:=⟨_,rfl⟩
   rw [← hX] at pX hXB ⊢
   clear hX
   try simp only [Act.put,tka,tkb,tkc]
   refine tkr 2 9 (fun K hK=>?_)
   have kx:=kS V2 (Zb bw bt) ((t0a,t0n,t0c),(t1a,t1n,t1c),(t2a,t2n,t2c),(t3a,t3n,t3c)) (hO.mem fz)
   rw [ut] at kx
   go_simp
   refine kx.mono ?_
   rintro e V3 ⟨va9,nb,cs',L,rfl,sp,hLF,hR',hb2⟩
   obtain rfl:=(hR.below (Zb bw bt)).uniq hR'
   have hBv:w.heap.size≤V2.heap.size:=Nat.le_trans bw.size bt.size
   obtain ⟨va8,vn8,vc8,hva⟩:=ZZ sp.row
   replace pX:=pX.below hb2
   have bt:=Zb bt hb2
   go_wp2_with fail
   refine hK.out _ _ (Za bt _ _ hS0) (fun hS2=>?_)
   clear hK kx
   try simp only [Act.put,tka,tkb,tkc]
   refine tkm 3 6 (.tuple #[.agg #[va9,.map (some nb)],.int .i64 0]) ?_
   refine tkm 4 10 (.agg #[va9,.map (some nb)]) ?_
   refine tkm 5 11 (.int .i64 0) ?_
   subst hva
   refine tkz 7 (fun K hK=>?_)
   refine Zt rfl 125 _ _ rfl X [.slice va8 vn8 vc8,.map (some nb)] rfl rfl pX (by kernel_rfl) rfl rfl ?_
   intro V9 pX9 g9
   have bz:=(Zb bw bt).grown g9 (Zb bw bt).size (fun q e=>by cases e;exact hXB)
   replace sp:=sp.grown g9 pX (by decide) (by decide)
   have hXP:X≠w.heap.size:=ZJ pX (pP9.below bt) (by decide)
   have c9:=Za bt _ _ hS0
   refine hK.out _ _ (Zh g9 c9 (by simp;omega)) (fun hS4=>?_)
   clear hK
   try simp only [Act.put,tka,tkb,tkc]
   refine tkm 8 5 (.int .i64 0) ?_
   refine wpAnyH_done (by kernel_rfl) ?_ _
   go_wp2_with fail
   go_meet
   case rel=>exact L2.mk9 (va:=.slice none 0 0) rfl rfl pX9.out sp hLF hXB hBv bz
  have hb3:Below V.heap.size V (V.alloc (.cells #[.slice none 0 0,.map none] 125)):=by go_grown
  have pX:Blk (V.alloc (.cells #[.slice none 0 0,.map none] 125)) V.heap.size 125 [.slice none 0 0,.map none]:=Zo _ _ _ rfl
  have hXB:w.heap.size≤V.heap.size:=Nat.le_trans bw.size bt.size
  have bt:=Zb bt hb3
  go_simp
  refine hK.out _ _ (Za bt _ _ hS0) (fun hS3=>?_)
  clear hK
  generalize (V.alloc (.cells #[.slice none 0 0,.map none] 125))=V1 at *
  obtain ⟨X,hX⟩:∃ X,X=V.heap.size:=⟨_,rfl⟩
  rw [← hX] at pX hXB ⊢
  clear hX
  try simp only [Act.put,tka,tkb,tkc]
  refine tkr 1 8 (fun K hK=>?_)
  go_simp
  refine (kN V1).mono ?_
  rintro e V2 ⟨⟨⟨⟨t0a,t0n,t0c⟩,⟨t1a,t1n,t1c⟩,⟨t2a,t2n,t2c⟩,⟨t3a,t3n,t3c⟩⟩,rfl,hO⟩,hb1⟩
  have ut:S4.val ((t0a,t0n,t0c),(t1a,t1n,t1c),(t2a,t2n,t2c),(t3a,t3n,t3c))=.agg #[.slice t0a t0n t0c,.slice t1a t1n t1c,.slice t2a t2n t2c,.slice t3a t3n t3c]:=rfl
  rw [ut]
  have bt:=Zb bt hb1
  go_wp2_with fail
  refine hK.out _ _ (Za bt _ _ hS0) (fun hS1=>?_)
  clear hK
  try simp only [Act.put,tka,tkb,tkc]
  replace pX:=pX.below hb1
  refine tkr 2 9 (fun K hK=>?_)
  have kx:=kS V2 (Zb bw bt) ((t0a,t0n,t0c),(t1a,t1n,t1c),(t2a,t2n,t2c),(t3a,t3n,t3c)) (hO.mem fz)
  rw [ut] at kx
  go_simp
  refine kx.mono ?_
  rintro e V3 ⟨va9,nb,cs',L,rfl,sp,hLF,hR',hb2⟩
  obtain rfl:=(hR.below (Zb bw bt)).uniq hR'
  have hBv:w.heap.size≤V2.heap.size:=Nat.le_trans bw.size bt.size
  obtain ⟨va8,vn8,vc8,hva⟩:=ZZ sp.row
  replace pX:=pX.below hb2
  have bt:=Zb bt hb2
  go_wp2_with fail
  refine hK.out _ _ (Za bt _ _ hS0) (fun hS2=>?_)
  clear hK kx
  try simp only [Act.put,tka,tkb,tkc]
  refine tkm 3 6 (.tuple #[.agg #[va9,.map (some nb)],.int .i64 0]) ?_
  refine tkm 4 10 (.agg #[va9,.map (some nb)]) ?_
  refine tkm 5 11 (.int .i64 0) ?_
  subst hva
  refine tkz 7 (fun K hK=>?_)
  refine Zt rfl 125 _ _ rfl X [.slice va8 vn8 vc8,.map (some nb)] rfl rfl pX (by kernel_rfl) rfl rfl ?_
  intro V9 pX9 g9
  have bz:=(Zb bw bt).grown g9 (Zb bw bt).size (fun q e=>by cases e;exact hXB)
  replace sp:=sp.grown g9 pX (by decide) (by decide)
  have hXP:X≠w.heap.size:=ZJ pX (pP9.below bt) (by decide)
  have c9:=Za bt _ _ hS0
  refine hK.out _ _ (Zh g9 c9 (by simp;omega)) (fun hS4=>?_)
  clear hK
  try simp only [Act.put,tka,tkb,tkc]
  refine tkm 8 5 (.int .i64 0) ?_
  refine wpAnyH_done (by kernel_rfl) ?_ _
  go_wp2_with fail
  go_meet
  case rel=>exact L2.mk9 (va:=.slice none 0 0) rfl rfl pX9.out sp hLF hXB hBv bz
 obtain ⟨X,va,vc,nb,L,rfl,rfl,pX,sp,hLF,hXB,bz⟩:=hcut
 clear kS kN bw pP fz
 have cX0:wc.cell? ⟨X,0,none⟩=some (.slice va L.length vc):=by simpa using pX.cell 0
 have hl2:L.length≤2000:=by
  have e:(L.map (·.1)).length=L.length:=by simp
  rw [hLF] at e
  omega
 obtain ⟨mv,hr⟩:∃ mv,L[0]?=some ((Zl,0,0),mv):=by
  have e:=VB rows
  rw [← hLF,List.getElem?_map] at e
  obtain ⟨y,hy,e2⟩:=Option.map_eq_some_iff.1 e
  exact ⟨y.2,by rw [hy,← e2]⟩
 have hbz:=bz.size
 have kR:=N9 rows L X nb vc w.heap.size w.heap.size wc.heap.size L.length va cs hp (by rw [hLF];exact Ts hp) (by rw [hLF];exact Tr hf) hl2 (YC rows Zl+1) 0 (Zl,0,0) mv hr (Nat.lt_succ_self _)
 rw [← hLF] at sp
 have hc0:=Ke rows L
 clear hLF hr hXB
 go_wp2_with (at_make;refine wpList_make_full _ rfl _ _ 72 rfl w.heap.size 3 i0 (.int .i64 0) 1 Tryz.underlying72 hi9 hz0 hz1 _ _ _ _ L.length rfl rfl (by omega) (by omega) ?b2 ?b3 (by first | exact hbz | exact Nat.le_refl _) ?_)
 case b2=>first | omega | (rw [hz2];omega)
 case b3=>unfold maxLen;omega
 intro w5 hown hgrow
 rw [QQ] at hown
 have b5:Below wc.heap.size wc w5:=⟨hgrow.os,hgrow.tape,hgrow.output,hgrow.size,fun k hk=>hgrow.block k hk (by simp)⟩
 have hO:ZG w5 w.heap.size (some ⟨wc.heap.size,0,none⟩,L.length,L.length) (List.replicate L.length 0):=hown
 have kRx:=kR w5 _ (sp.below b5) (pX.below b5) hO hc0
 have b6:=Zb bz b5
 have hgB:w.heap.size≤wc.heap.size:=hbz
 clear kR hown hgrow hO hc0 sp pX cX0 bz b5
 generalize wc.heap.size=g at *
 go_wp2_with fail
 refine kRx.mono ?_
 rintro e w7 ⟨cts,rfl,ho7,hct7,g7⟩
 have b7:=b6.grown g7 b6.size (fun k e=>by cases e;exact hgB)
 clear kRx ho7 hct7 g7 b6
 have HCN:Hid (0=0):=rfl
 go_wp2
 refine bodyPost_ret (by simp [results,Tryz.results25,go_sem];try rfl) rfl ?_
 exact ⟨rfl,b7⟩


def FW (u W:World) (cs:Sl × Sl × Sl) (s4 s5:Value):Prop:=∃ X,s4=.pointer (some ⟨X,0,none⟩)∧s5=.int .i64 0∧Blk W X 69 (Zf cs.1.val cs.2.1.val cs.2.2.val Zl)∧u.heap.size≤X∧Below u.heap.size u W
theorem LU {B:Nat}:∀ (xs:List Nat),(∀ x ∈ xs,x≤B)→xs.sum≤xs.length*B
 | [],_=>by simp
 | x::xs,h=>by
  have h1:=h x (List.mem_cons_self ..)
  have h2:=LU xs (fun y hy=>h y (List.mem_cons_of_mem _ hy))
  rw [List.sum_cons,List.length_cons,Nat.succ_mul]
  omega
theorem H7 {rows:List (List I3)}:∀ (f:Nat) (m:V4),(rnF rows (f+1) m).length≤3 ^ f
 | 0,m=>by
  rw [rnF]
  split
  ·simp
  have e:((Zj rows m 3).map fun k=>(rnF rows 0 (goM rows m k).1).map (k::·)).flatten=[]:=by
   rw [List.flatten_eq_nil_iff]
   intro l hl
   obtain ⟨k,_,rfl⟩:=List.mem_map.1 hl
   rfl
  rw [e]
  simp
 | f+1,m=>by
  rw [rnF]
  split
  ·exact Nat.one_le_pow _ _ (by decide)
  rw [List.length_flatten,List.map_map]
  have h:=LU (B:=3 ^ f) ((Zj rows m 3).map (List.length ∘ fun k=>(rnF rows (f+1) (goM rows m k).1).map (k::·))) (fun x hx=>by
   obtain ⟨k,_,rfl⟩:=List.mem_map.1 hx
   simp only [Function.comp_def,List.length_map]
   exact H7 f _)
  rw [List.length_map] at h
  have h2:=Nat.mul_le_mul_right (3 ^ f) (YD rows m 3)
  rw [Nat.pow_succ]
  omega
theorem Qe {P:Program} {ops:Array Oper} {o:Oper} {a:Act} {w:World} {K:Act→World→Prop} {Q:Exit→Act→World→Prop} {E:Prop} (hgd:o.guard=none) (ty:TypeId) (x:Operand) (ho:o.op=.load ty x) (g:Nat) (hx:a.eval x=.pointer (some ⟨g,0,none⟩)) {t:Nat} {cs:List Value} (hB:Blk w g t cs) (d:TypeDesc)
  (hu:P.underlying ty=some d) (hd:(match d with | .struct _ | .array _ _=>true | _=>false)=true) (hi:(P.info? ty).map (·.size)=some cs.length)
  (h:K (a.put o.dst (.agg cs.toArray)) w):if Region.wanted o (yielded ops a.tmps)=true then Oper.wp P o a w K Q else E:=by
 have hw:Region.wanted o (yielded ops a.tmps)=true:=by simp [Region.wanted,hgd]
 rw [if_pos hw]
 exact wp_load_row ty x ho g hx t cs.toArray (0,0) d hB hu hd (by simpa using hi) h

theorem Mv {rows:List (List I3)} {wb w:World} {S0 Fb nb:Nat} {cs:Sl × Sl × Sl} (hp:Zn rows=true) (hI:∀ k,k<3→ZK wb (slK cs k).1 (slK cs k).2.1 (slK cs k).2.2 (Yn rows k)) (b:Below wb.heap.size wb w) (hBn:wb.heap.size≤nb) (pS:Blk w S0 69 (Zf cs.1.val cs.2.1.val cs.2.2.val Zl)) (fb:Blk w Fb 76 [.map (some nb)]) (mp:Vj w nb []) :
  Calls Tryz.prog 28 #[.pointer (some ⟨S0,0,none⟩),.func (.func 29) #[] #[.pointer (some ⟨Fb,0,none⟩)]] w fun e w'=>e=.returned (.tuple #[])∧Blk w' Fb 76 [.map (some nb)]∧Vj w' nb ((rnF rows 19 Zl).map (nfG rows))∧Below wb.heap.size wb w':=by
 have hbs:=b.size
 have hBE:wb.heap.size≤w.heap.size+1:=by omega
 have hlen:(rnF rows 19 Zl).length≤1200000000:=by
  have h1:(rnF rows 19 Zl).length≤3 ^ 18:=H7 (rows:=rows) 18 Zl
  have h2:3 ^ 18=387420489:=by decide
  omega
 have kV:=Nh (Tb:=w.heap.size) (Eb:=w.heap.size+1) (Vb:=w.heap.size+2) (Fb:=Fb) hp hI hBE hBn 19 Zl [] [] ZH (by have:=S8 hp Zl;omega) ⟨rfl,rfl⟩ (by simp) (by simpa using hlen)
 clear hlen hI hp
 rw [show YK rows Zl []=[] from rfl] at kV
 have HE:Hid ([]++(rnF rows 19 Zl).map (fun ks=>nfG rows ([]++ks))=(rnF rows 19 Zl).map (nfG rows)):=by simp [Hid]
 rw [HE.out] at kV
 generalize (rnF rows 19 Zl).map (nfG rows)=fs at *
 clear HE
 have gA:Below w.heap.size w (((w.alloc (.cells #[.func (.func 29) #[] #[.pointer (some ⟨Fb,0,none⟩)]] 82)).alloc (.cells #[.slice none 0 0] 78)).alloc (.cells #[.func (.func 68) #[] #[.pointer (some ⟨w.heap.size,0,none⟩),.pointer (some ⟨w.heap.size+1,0,none⟩),.pointer (some ⟨w.heap.size+2,0,none⟩)]] 132)):=by go_grown
 have hrn:Qo (((w.alloc (.cells #[.func (.func 29) #[] #[.pointer (some ⟨Fb,0,none⟩)]] 82)).alloc (.cells #[.slice none 0 0] 78)).alloc (.cells #[.func (.func 68) #[] #[.pointer (some ⟨w.heap.size,0,none⟩),.pointer (some ⟨w.heap.size+1,0,none⟩),.pointer (some ⟨w.heap.size+2,0,none⟩)]] 132)) wb.heap.size w.heap.size (w.heap.size+1) (w.heap.size+2) Fb nb [] (.slice none 0 0) []:=⟨Zq _ (Zq _ (Zo _ _ _ rfl)),Zq _ (Zo _ _ _ (by simp)),Zo _ _ _ (by simp),fb.below gA,World.ownsRow_nil _ _ _ _,mp.below gA⟩
 have pS3:=pS.below gA
 have b3:=Zb b gA
 have hsf:∀ W:World,(store ⟨w.heap.size+2,0,none⟩ (.func (.func 68) #[] #[.pointer (some ⟨w.heap.size,0,none⟩),.pointer (some ⟨w.heap.size+1,0,none⟩),.pointer (some ⟨w.heap.size+2,0,none⟩)])).run Tryz.prog W=stored Tryz.prog W ⟨w.heap.size+2,0,none⟩ (.func (.func 68) #[] #[.pointer (some ⟨w.heap.size,0,none⟩),.pointer (some ⟨w.heap.size+1,0,none⟩),.pointer (some ⟨w.heap.size+2,0,none⟩)]) .plain:=fun W=>run_store _ _ _ _ _ rfl
 clear pS fb mp b gA
 go_enter Tryz.func28,Tryz.ntmps28
 go_wp2_with fail
 generalize (((w.alloc (.cells #[.func (.func 29) #[] #[.pointer (some ⟨Fb,0,none⟩)]] 82)).alloc (.cells #[.slice none 0 0] 78)).alloc (.cells #[.func (.func 68) #[] #[.pointer (some ⟨w.heap.size,0,none⟩),.pointer (some ⟨w.heap.size+1,0,none⟩),.pointer (some ⟨w.heap.size+2,0,none⟩)]] 132))=u2 at *
 clear hsf
 have hdr:Below u2.heap.size u2 u2.drew:=by go_grown
 refine wp_region_held_drew (S:=(fun w'=>w'.cell? ⟨w.heap.size+2,0,none⟩=some (.func (.func 68) #[] #[.pointer (some ⟨w.heap.size,0,none⟩),.pointer (some ⟨w.heap.size+1,0,none⟩),.pointer (some ⟨w.heap.size+2,0,none⟩)]))) (by kernel_rfl) (by simpa using hrn.vb.cell 0) (fun hS0=>?_)
 refine tkm 0 7 (.func (.func 68) #[] #[.pointer (some ⟨w.heap.size,0,none⟩),.pointer (some ⟨w.heap.size+1,0,none⟩),.pointer (some ⟨w.heap.size+2,0,none⟩)]) ?_
 refine tkm 1 8 (.pointer (some ⟨S0,0,none⟩)) ?_
 refine tkm 2 9 (.pointer (some ⟨S0,0,none⟩)) ?_
 replace hrn:=hrn.below hdr
 replace pS3:=pS3.below hdr
 replace b3:=Zb b3 hdr
 clear hdr
 generalize u2.drew=D0 at *
 refine tkr 3 10 (fun K hK=>?_)
 refine Qe rfl 69 _ rfl S0 rfl pS3 _ Tryz.underlying69 rfl (by kernel_rfl) ?_
 refine hK.out _ _ hS0 (fun hS1=>?_)
 clear hK hS1
 try simp only [Act.put,tka,tkb,tkc]
 refine tkr 4 11 (fun K hK=>?_)
 have kVx:=kV D0 _ b3 hrn
 clear kV
 go_simp
 refine kVx.mono ?_
 rintro e D1 ⟨rfl,ev,hr2,mv,kp⟩
 have b4:Below wb.heap.size wb D1:=b3.trans (kp.below hBE hBn (fun q hq=>by simp [Value.ownBlock] at hq) b3.size)
 have hS2:D1.cell? ⟨w.heap.size+2,0,none⟩=some (.func (.func 68) #[] #[.pointer (some ⟨w.heap.size,0,none⟩),.pointer (some ⟨w.heap.size+1,0,none⟩),.pointer (some ⟨w.heap.size+2,0,none⟩)]):=by simpa using hr2.vb.cell 0
 go_wp2_with fail
 refine hK.out _ _ hS2 (fun hS3=>?_)
 clear hK hS3
 try simp only [Act.put,tka,tkb,tkc]
 refine wpAnyH_done (by kernel_rfl) ?_ _
 have HG:=hr2.fb
 have HM:=hr2.mp
 clear hr2 mv kp kVx hrn pS3 b3 hS0 hS2
 go_wp2
 go_end0
 exact ⟨rfl,HG,HM,b4⟩
noncomputable def T2 (rows:List (List I3)):Int:=if Xi rows=0 then (if Z7 rows Zl≤5000 then (if (W8 rows).length≤300 then 0 else 15) else 15) else Xi rows
noncomputable def SO (rows:List (List I3)):Int:=if T2 rows=0 then ((W8 rows).length:Int) else 0
theorem Vj.len9 {w:World} {nb:Nat} {fs:List (List Int)} (h:Vj w nb fs) (ty:TypeId):(Builtin.len_ #[76] ty #[.map (some nb)]).run Tryz.prog w=.ok (.int .i64 ((fs.foldl ddG []).length:Int)) w:=by
 obtain ⟨D,hm,hf⟩:=h
 rw [← hf.siz]
 exact hm.len Tryz.underlying76 ty

theorem T5 (a:Option Addr) (len cap:Nat) (rows:List (List I3)) (w:World) (hC:XL w a len cap rows) (hV:Ys w) (hc:Xi rows=0) :
  Calls Tryz.prog 6 #[.agg #[.slice a len cap]] w fun e w'=>e=.returned (.tuple #[.int .i64 (SO rows),.int .i64 (T2 rows)])∧Below w.heap.size w w':=by
 have kN:=Wr
 have fz:=(ZO ZH).1
 have bw:Below w.heap.size w (w.alloc (.cells #[.slice a len cap] 25)):=by go_grown
 have pP:Blk (w.alloc (.cells #[.slice a len cap] 25)) w.heap.size 25 [.slice a len cap]:=Zo _ _ _ rfl
 have hmm:=@run_makeMap Tryz.prog
 have kC:=T6 a len cap rows _ (hC.below bw) (hV.below bw) hc
 have HC9:Hid (T2 rows=(if Z7 rows Zl≤5000 then (if (W8 rows).length≤300 then 0 else 15) else 15)):=by rw [Hid,T2,if_pos hc]
 have HV9:Hid (SO rows=if T2 rows=0 then ((W8 rows).length:Int) else 0):=rfl
 have hp:Zn rows=true:=(UN hc).1
 have HG9:Hid (((rnF rows 19 Zl).map (nfG rows)).foldl ddG []=W8 rows):=rfl
 clear hc
 generalize T2 rows=rc at *
 generalize SO rows=rv at *
 go_enter Tryz.func6,Tryz.ntmps6
 go_wp2_with fail
 generalize (w.alloc (.cells #[.slice a len cap] 25))=U0 at *
 go_wp2_with (refine Zc rfl 25 _ rfl w.heap.size rfl pP _ Tryz.underlying25 rfl (by kernel_rfl) ?_)
 refine kC.mono ?_
 rintro e U ⟨rfl,hb⟩
 replace bw:=Zb bw hb
 replace pP:=pP.below hb
 clear hb kC
 by_cases h5:Z7 rows Zl≤5000
 ·replace HC9:Hid (rc=(if (W8 rows).length≤300 then 0 else 15)):=by rw [Hid,HC9.out,if_pos h5]
  have h5':¬ (5000<(Z7 rows Zl:Int)):=by omega
  generalize Z7 rows Zl=cn at *
  obtain ⟨hlen,cs,hR⟩:=hC.rowsAt hp
  clear hlen
  have kS:=fun (W:World) (b:Below U.heap.size U W) (t:S4) (h:Yk W t Zl)=>VF a len cap rows t Zl W (hC.below (Zb bw b)) h (hV.below (Zb bw b)) hp ZH
  replace hR:=hR.below bw
  clear hC hV
  go_wp2_with fail
  go_cut [6,7] from 9 (fun s6 s7 W=>FW U W cs s6 s7)
  case first =>
   have hdr:Below U.heap.size U U.drew:=by go_grown
   refine wp_region_held_drew (S:=(fun w'=>w'.cell? ⟨w.heap.size,0,none⟩=some (.slice a len cap))) (by kernel_rfl) (by simpa using pP.cell 0) (fun hS0=>?_)
   refine tkm 0 20 (.agg #[.slice a len cap]) ?_
   have pP9:=pP.below hdr
   have bw:=hdr
   clear hdr
   generalize U.drew=V at *
   have bt:Below V.heap.size V V:=Below.refl _ _
   refine wpAnyH_ready (rs:=[1,6]) (by kernel_rfl) (by simp) ?_
   refine AllReadyH.cons (o:=⟨some 21,_,_,_,_,_⟩) rfl (fun K hK=>?_) (AllReadyH.cons (o:=⟨some 6,_,_,_,_,_⟩) rfl (fun K hK=>?_) AllReadyH.nil)
   ·go_simp
    refine (kN V).mono ?_
    rintro e V1 ⟨⟨⟨⟨t0a,t0n,t0c⟩,⟨t1a,t1n,t1c⟩,⟨t2a,t2n,t2c⟩,⟨t3a,t3n,t3c⟩⟩,rfl,hO⟩,hb1⟩
    have ut:S4.val ((t0a,t0n,t0c),(t1a,t1n,t1c),(t2a,t2n,t2c),(t3a,t3n,t3c))=.agg #[.slice t0a t0n t0c,.slice t1a t1n t1c,.slice t2a t2n t2c,.slice t3a t3n t3c]:=rfl
    rw [ut]
    have bt:=Zb bt hb1
    go_wp2_with fail
    refine hK.out _ _ (Za bt _ _ hS0) (fun hS1=>?_)
    clear hK
    try simp only [Act.put,tka,tkb,tkc]
    refine wpAnyH_ready (rs:=[2,6]) (by kernel_rfl) (by simp) ?_
    refine AllReadyH.cons (o:=⟨some 22,_,_,_,_,_⟩) rfl (fun K hK=>?_) (AllReadyH.cons (o:=⟨some 6,_,_,_,_,_⟩) rfl (fun K hK=>?_) AllReadyH.nil)
    ·have kx:=kS V1 (Zb bw bt) ((t0a,t0n,t0c),(t1a,t1n,t1c),(t2a,t2n,t2c),(t3a,t3n,t3c)) (hO.mem fz)
     rw [ut] at kx
     go_simp
     refine kx.mono ?_
     rintro e V2 ⟨⟨cs',rfl,hR'⟩,hb2⟩
     obtain rfl:=(hR.below (Zb bw bt)).uniq hR'
     have bt:=Zb bt hb2
     go_wp2_with fail
     refine hK.out _ _ (Za bt _ _ hS0) (fun hS2=>?_)
     clear hK kx
     try simp only [Act.put,tka,tkb,tkc]
     refine tkm 3 19 (.tuple #[.agg (Zf cs.1.val cs.2.1.val cs.2.2.val Zl).toArray,.int .i64 0]) ?_
     refine tkm 4 23 (.agg (Zf cs.1.val cs.2.1.val cs.2.2.val Zl).toArray) ?_
     refine tkm 5 24 (.int .i64 0) ?_
     refine tkr 6 6 (fun K hK=>?_)
     have hb3:Below V2.heap.size V2 (V2.alloc (.cells #[.slice none 0 0,.int .i64 0,.int .i64 0,.int .i64 0,.slice none 0 0,.int .i64 0,.int .i64 0,.int .i64 0,.slice none 0 0,.int .i64 0,.int .i64 0,.int .i64 0,.int .i64 0,.int .i64 0,.int .i64 0,.int .i64 0,.int .i64 0,.int .i64 0] 69)):=by go_grown
     have pX:Blk (V2.alloc (.cells #[.slice none 0 0,.int .i64 0,.int .i64 0,.int .i64 0,.slice none 0 0,.int .i64 0,.int .i64 0,.int .i64 0,.slice none 0 0,.int .i64 0,.int .i64 0,.int .i64 0,.int .i64 0,.int .i64 0,.int .i64 0,.int .i64 0,.int .i64 0,.int .i64 0] 69)) V2.heap.size 69 [.slice none 0 0,.int .i64 0,.int .i64 0,.int .i64 0,.slice none 0 0,.int .i64 0,.int .i64 0,.int .i64 0,.slice none 0 0,.int .i64 0,.int .i64 0,.int .i64 0,.int .i64 0,.int .i64 0,.int .i64 0,.int .i64 0,.int .i64 0,.int .i64 0]:=Zo _ _ _ rfl
     have hXB:U.heap.size≤V2.heap.size:=Nat.le_trans bw.size bt.size
     have bt:=Zb bt hb3
     go_simp
     refine hK.out _ _ (Za bt _ _ hS0) (fun hS3=>?_)
     clear hK
     generalize (V2.alloc (.cells #[.slice none 0 0,.int .i64 0,.int .i64 0,.int .i64 0,.slice none 0 0,.int .i64 0,.int .i64 0,.int .i64 0,.slice none 0 0,.int .i64 0,.int .i64 0,.int .i64 0,.int .i64 0,.int .i64 0,.int .i64 0,.int .i64 0,.int .i64 0,.int .i64 0] 69))=V3 at *
     obtain ⟨X,hX⟩:∃ X,X=V2.heap.size:=⟨_,rfl⟩
     rw [← hX] at pX hXB ⊢
     clear hX
     try simp only [Act.put,tka,tkb,tkc]
     refine tkz 7 (fun K hK=>?_)
     refine Zt rfl 69 _ _ rfl X (Zf cs.1.val cs.2.1.val cs.2.2.val Zl) rfl rfl pX (by kernel_rfl) rfl rfl ?_
     intro V9 pX9 g9
     have bz:=(Zb bw bt).grown g9 (Zb bw bt).size (fun q e=>by cases e;exact hXB)
     have hXP:X≠w.heap.size:=ZJ pX (pP9.below bt) (by decide)
     have c9:=Za bt _ _ hS0
     refine hK.out _ _ (Zh g9 c9 (by simp;omega)) (fun hS4=>?_)
     clear hK
     try simp only [Act.put,tka,tkb,tkc]
     refine tkm 8 7 (.int .i64 0) ?_
     refine wpAnyH_done (by kernel_rfl) ?_ _
     go_wp2_with fail
     go_meet
     case rel=>exact ⟨X,rfl,rfl,pX9.out,hXB,bz⟩
    have hb3:Below V1.heap.size V1 (V1.alloc (.cells #[.slice none 0 0,.int .i64 0,.int .i64 0,.int .i64 0,.slice none 0 0,.int .i64 0,.int .i64 0,.int .i64 0,.slice none 0 0,.int .i64 0,.int .i64 0,.int .i64 0,.int .i64 0,.int .i64 0,.int .i64 0,.int .i64 0,.int .i64 0,.int .i64 0] 69)):=by go_grown
    have pX:Blk (V1.alloc (.cells #[.slice none 0 0,.int .i64 0,.int .i64 0,.int .i64 0,.slice none 0 0,.int .i64 0,.int .i64 0,.int .i64 0,.slice none 0 0,.int .i64 0,.int .i64 0,.int .i64 0,.int .i64 0,.int .i64 0,.int .i64 0,.int .i64 0,.int .i64 0,.int .i64 0] 69)) V1.heap.size 69 [.slice none 0 0,.int .i64 0,.int .i64 0,.int .i64 0,.slice none 0 0,.int .i64 0,.int .i64 0,.int .i64 0,.slice none 0 0,.int .i64 0,.int .i64 0,.int .i64 0,.int .i64 0,.int .i64 0,.int .i64 0,.int .i64 0,.int .i64 0,.int .i64 0]:=Zo _ _ _ rfl
    have hXB:U.heap.size≤V1.heap.size:=Nat.le_trans bw.size bt.size
    replace hO:=hO.below hb3
    have bt:=Zb bt hb3
    go_simp
    refine hK.out _ _ (Za bt _ _ hS0) (fun hS3=>?_)
    clear hK
    generalize (V1.alloc (.cells #[.slice none 0 0,.int .i64 0,.int .i64 0,.int .i64 0,.slice none 0 0,.int .i64 0,.int .i64 0,.int .i64 0,.slice none 0 0,.int .i64 0,.int .i64 0,.int .i64 0,.int .i64 0,.int .i64 0,.int .i64 0,.int .i64 0,.int .i64 0,.int .i64 0] 69))=V2 at *
    obtain ⟨X,hX⟩:∃ X,X=V1.heap.size:=⟨_,rfl⟩
    rw [← hX] at pX hXB ⊢
    clear hX
    try simp only [Act.put,tka,tkb,tkc]
    refine tkr 2 22 (fun K hK=>?_)
    have kx:=kS V2 (Zb bw bt) ((t0a,t0n,t0c),(t1a,t1n,t1c),(t2a,t2n,t2c),(t3a,t3n,t3c)) (hO.mem fz)
    rw [ut] at kx
    go_simp
    refine kx.mono ?_
    rintro e V3 ⟨⟨cs',rfl,hR'⟩,hb2⟩
    obtain rfl:=(hR.below (Zb bw bt)).uniq hR'
    replace pX:=pX.below hb2
    have bt:=Zb bt hb2
    go_wp2_with fail
    refine hK.out _ _ (Za bt _ _ hS0) (fun hS2=>?_)
    clear hK kx
    try simp only [Act.put,tka,tkb,tkc]
    refine tkm 3 19 (.tuple #[.agg (Zf cs.1.val cs.2.1.val cs.2.2.val Zl).toArray,.int .i64 0]) ?_
    refine tkm 4 23 (.agg (Zf cs.1.val cs.2.1.val cs.2.2.val Zl).toArray) ?_
    refine tkm 5 24 (.int .i64 0) ?_
    refine tkz 7 (fun K hK=>?_)
    refine Zt rfl 69 _ _ rfl X (Zf cs.1.val cs.2.1.val cs.2.2.val Zl) rfl rfl pX (by kernel_rfl) rfl rfl ?_
    intro V9 pX9 g9
    have bz:=(Zb bw bt).grown g9 (Zb bw bt).size (fun q e=>by cases e;exact hXB)
    have hXP:X≠w.heap.size:=ZJ pX (pP9.below bt) (by decide)
    have c9:=Za bt _ _ hS0
    refine hK.out _ _ (Zh g9 c9 (by simp;omega)) (fun hS4=>?_)
    clear hK
    try simp only [Act.put,tka,tkb,tkc]
    refine tkm 8 7 (.int .i64 0) ?_
    refine wpAnyH_done (by kernel_rfl) ?_ _
    go_wp2_with fail
    go_meet
    case rel=>exact ⟨X,rfl,rfl,pX9.out,hXB,bz⟩
   have hb3:Below V.heap.size V (V.alloc (.cells #[.slice none 0 0,.int .i64 0,.int .i64 0,.int .i64 0,.slice none 0 0,.int .i64 0,.int .i64 0,.int .i64 0,.slice none 0 0,.int .i64 0,.int .i64 0,.int .i64 0,.int .i64 0,.int .i64 0,.int .i64 0,.int .i64 0,.int .i64 0,.int .i64 0] 69)):=by go_grown
   have pX:Blk (V.alloc (.cells #[.slice none 0 0,.int .i64 0,.int .i64 0,.int .i64 0,.slice none 0 0,.int .i64 0,.int .i64 0,.int .i64 0,.slice none 0 0,.int .i64 0,.int .i64 0,.int .i64 0,.int .i64 0,.int .i64 0,.int .i64 0,.int .i64 0,.int .i64 0,.int .i64 0] 69)) V.heap.size 69 [.slice none 0 0,.int .i64 0,.int .i64 0,.int .i64 0,.slice none 0 0,.int .i64 0,.int .i64 0,.int .i64 0,.slice none 0 0,.int .i64 0,.int .i64 0,.int .i64 0,.int .i64 0,.int .i64 0,.int .i64 0,.int .i64 0,.int .i64 0,.int .i64 0]:=Zo _ _ _ rfl
   have hXB:U.heap.size≤V.heap.size:=Nat.le_trans bw.size bt.size
   have bt:=Zb bt hb3
   go_simp
   refine hK.out _ _ (Za bt _ _ hS0) (fun hS3=>?_)
   clear hK
   generalize (V.alloc (.cells #[.slice none 0 0,.int .i64 0,.int .i64 0,.int .i64 0,.slice none 0 0,.int .i64 0,.int .i64 0,.int .i64 0,.slice none 0 0,.int .i64 0,.int .i64 0,.int .i64 0,.int .i64 0,.int .i64 0,.int .i64 0,.int .i64 0,.int .i64 0,.int .i64 0] 69))=V1 at *
   obtain ⟨X,hX⟩:∃ X,X=V.heap.size:=⟨_,rfl⟩
   rw [← hX] at pX hXB ⊢
   clear hX
   try simp only [Act.put,tka,tkb,tkc]
   refine tkr 1 21 (fun K hK=>?_)
   go_simp
   refine (kN V1).mono ?_
   rintro e V2 ⟨⟨⟨⟨t0a,t0n,t0c⟩,⟨t1a,t1n,t1c⟩,⟨t2a,t2n,t2c⟩,⟨t3a,t3n,t3c⟩⟩,rfl,hO⟩,hb1⟩
   have ut:S4.val ((t0a,t0n,t0c),(t1a,t1n,t1c),(t2a,t2n,t2c),(t3a,t3n,t3c))=.agg #[.slice t0a t0n t0c,.slice t1a t1n t1c,.slice t2a t2n t2c,.slice t3a t3n t3c]:=rfl
   rw [ut]
   have bt:=Zb bt hb1
   go_wp2_with fail
   refine hK.out _ _ (Za bt _ _ hS0) (fun hS1=>?_)
   clear hK
   try simp only [Act.put,tka,tkb,tkc]
   replace pX:=pX.below hb1
   refine tkr 2 22 (fun K hK=>?_)
   have kx:=kS V2 (Zb bw bt) ((t0a,t0n,t0c),(t1a,t1n,t1c),(t2a,t2n,t2c),(t3a,t3n,t3c)) (hO.mem fz)
   rw [ut] at kx
   go_simp
   refine kx.mono ?_
   rintro e V3 ⟨⟨cs',rfl,hR'⟩,hb2⟩
   obtain rfl:=(hR.below (Zb bw bt)).uniq hR'
   replace pX:=pX.below hb2
   have bt:=Zb bt hb2
   go_wp2_with fail
   refine hK.out _ _ (Za bt _ _ hS0) (fun hS2=>?_)
   clear hK kx
   try simp only [Act.put,tka,tkb,tkc]
   refine tkm 3 19 (.tuple #[.agg (Zf cs.1.val cs.2.1.val cs.2.2.val Zl).toArray,.int .i64 0]) ?_
   refine tkm 4 23 (.agg (Zf cs.1.val cs.2.1.val cs.2.2.val Zl).toArray) ?_
   refine tkm 5 24 (.int .i64 0) ?_
   refine tkz 7 (fun K hK=>?_)
   refine Zt rfl 69 _ _ rfl X (Zf cs.1.val cs.2.1.val cs.2.2.val Zl) rfl rfl pX (by kernel_rfl) rfl rfl ?_
   intro V9 pX9 g9
   have bz:=(Zb bw bt).grown g9 (Zb bw bt).size (fun q e=>by cases e;exact hXB)
   have hXP:X≠w.heap.size:=ZJ pX (pP9.below bt) (by decide)
   have c9:=Za bt _ _ hS0
   refine hK.out _ _ (Zh g9 c9 (by simp;omega)) (fun hS4=>?_)
   clear hK
   try simp only [Act.put,tka,tkb,tkc]
   refine tkm 8 7 (.int .i64 0) ?_
   refine wpAnyH_done (by kernel_rfl) ?_ _
   go_wp2_with fail
   go_meet
   case rel=>exact ⟨X,rfl,rfl,pX9.out,hXB,bz⟩
  obtain ⟨S0,rfl,rfl,pS,hUS,bz⟩:=hcut
  have hI:∀ k,k<3→ZK wc (slK cs k).1 (slK cs k).2.1 (slK cs k).2.2 (Yn rows k):=fun k hk=>by obtain ⟨_,_,_,_,h9⟩:=hR.below bz;exact (h9 k hk).2
  replace bw:=Zb bw bz
  clear kS kN pP bz fz hR
  have bM:Below wc.heap.size wc (wc.alloc (.map #[] 0)):=⟨rfl,rfl,rfl,by simp,fun k hk=>Below.heap_alloc wc _ k hk⟩
  have bX:Below wc.heap.size wc ((wc.alloc (.map #[] 0)).alloc (.cells #[.map (some wc.heap.size)] 76)):=Zb bM ⟨rfl,rfl,rfl,by simp,fun k hk=>Below.heap_alloc _ _ k hk⟩
  have hm0:Vj ((wc.alloc (.map #[] 0)).alloc (.cells #[.map (some wc.heap.size)] 76)) wc.heap.size []:=⟨.map [],(World.ownsMap_made (H:=Unit) wc Tryz.prog 9 (plainElem Tryz.prog 3)).alloc _,FmD.start⟩
  have fb:Blk ((wc.alloc (.map #[] 0)).alloc (.cells #[.map (some wc.heap.size)] 76)) (wc.heap.size+1) 76 [.map (some wc.heap.size)]:=Zo _ _ _ (by simp)
  have kE:=Mv hp hI bX (Nat.le_refl _) (pS.below bX) fb hm0
  clear hI hp bM hm0 fb pS
  go_wp2_with fail
  refine kE.mono ?_
  rintro e w3 ⟨rfl,fb3,mp3,b3⟩
  have bw3:Below w.heap.size w w3:=Zb bw b3
  have hln:=mp3.len9 3
  rw [HG9.out] at hln
  have cF:w3.cell? ⟨wc.heap.size+1,0,none⟩=some (.map (some wc.heap.size)):=by simpa using fb3.cell 0
  clear kE bX mp3 fb3 b3 bw HG9 hmm
  generalize (W8 rows).length=n9 at *
  by_cases h3:n9≤300
  ·have h3':¬ (300<(n9:Int)):=by omega
   have HF:Hid (rc=0∧rv=(n9:Int)):=by
    have e1:rc=0:=by rw [HC9.out,if_pos h3]
    exact ⟨e1,by rw [HV9.out,if_pos e1]⟩
   clear HC9 HV9
   go_wp2
   refine bodyPost_ret (by simp [results,Tryz.results6,go_sem];try rfl) rfl ?_
   exact ⟨by rw [HF.out.1,HF.out.2],bw3⟩
  have h3':300<(n9:Int):=by omega
  have HF:Hid (rc=15∧rv=0):=by
   have e1:rc=15:=by rw [HC9.out,if_neg h3]
   exact ⟨e1,by rw [HV9.out,e1];rfl⟩
  clear HC9 HV9
  go_wp2
  refine bodyPost_ret (by simp [results,Tryz.results6,go_sem];try rfl) rfl ?_
  exact ⟨by rw [HF.out.1,HF.out.2],bw3⟩
 have h5':5000<(Z7 rows Zl:Int):=by omega
 have HF:Hid (rc=15∧rv=0):=by
  have e1:rc=15:=by rw [HC9.out,if_neg h5]
  exact ⟨e1,by rw [HV9.out,e1];rfl⟩
 clear HC9 HV9
 go_wp2
 refine bodyPost_ret (by simp [results,Tryz.results6,go_sem];try rfl) rfl ?_
 exact ⟨by rw [HF.out.1,HF.out.2],bw⟩


def IsL (w:World) (v:Value) (xs:List Int):Prop:=∃ la ln lc,v=.slice la ln lc∧YS .i64 w la ln lc xs
theorem IsL.below {w w':World} {v:Value} {xs:List Int} (h:IsL w v xs) (hb:Below w.heap.size w w'):IsL w' v xs:=by
 obtain ⟨la,ln,lc,rfl,hi⟩:=h
 exact ⟨la,ln,lc,rfl,hi.below hb⟩
def Pi (w:World) (vs:List Value) (xss:List (List Int)):Prop:=vs.length=xss.length∧∀ t,t<xss.length→IsL w (vs.getD t undef) (xss.getD t [])
theorem Pi.below {w w':World} {vs:List Value} {xss:List (List Int)} (h:Pi w vs xss) (hb:Below w.heap.size w w'):Pi w' vs xss:=⟨h.1,fun t ht=>(h.2 t ht).below hb⟩
theorem Pi.snoc {w:World} {vs:List Value} {xss:List (List Int)} {v:Value} {xs:List Int} (h:Pi w vs xss) (hv:IsL w v xs):Pi w (vs++[v]) (xss++[xs]):=by
 refine ⟨by simp [h.1],fun t ht=>?_⟩
 by_cases h9:t<xss.length
 ·have e1:(vs++[v]).getD t undef=vs.getD t undef:=by simp [List.getD,List.getElem?_append_left (show t<vs.length by have:=h.1;omega)]
  have e2:(xss++[xs]).getD t []=xss.getD t []:=by simp [List.getD,List.getElem?_append_left h9]
  rw [e1,e2]
  exact h.2 t h9
 have e9:t=xss.length:=by simp at ht;omega
 subst e9
 have e1:(vs++[v]).getD xss.length undef=v:=by rw [← h.1];simp [List.getD]
 have e2:(xss++[xs]).getD xss.length []=xs:=by simp [List.getD]
 rw [e1,e2]
 exact hv
def Wl (w:World) (a:Option Addr) (n c:Nat) (xss:List (List Int)):Prop:=
 xss.length=n∧n≤c∧c≤maxLen∧∃ vs,Pi w vs xss∧(n=0∨∃ b off,a=some ⟨b,off,none⟩∧b<w.heap.size∧∀ t,t<n→w.cell? ⟨b,off+t,none⟩=some (vs.getD t undef))
theorem Wl.below {w w':World} {a:Option Addr} {n c:Nat} {xss:List (List Int)} (h:Wl w a n c xss) (hb:Below w.heap.size w w'):Wl w' a n c xss:=by
 obtain ⟨h1,h2,h3,vs,h4,h5⟩:=h
 refine ⟨h1,h2,h3,vs,h4.below hb,?_⟩
 rcases h5 with h5 | ⟨b,off,h6,h7,h8⟩
 ·exact .inl h5
 exact .inr ⟨b,off,h6,Nat.lt_of_lt_of_le h7 hb.size,fun t ht=>by rw [hb.cell (p:=⟨b,off+t,none⟩) h7];exact h8 t ht⟩
theorem Wl.cell {w:World} {a:Option Addr} {n c:Nat} {xss:List (List Int)} (h:Wl w a n c xss) {t:Nat} (ht:t<n):∃ b off la ln lc,a=some ⟨b,off,none⟩∧w.cell? ⟨b,off+t,none⟩=some (.slice la ln lc)∧YS .i64 w la ln lc (xss.getD t []):=by
 obtain ⟨h1,h2,h3,vs,h4,h5⟩:=h
 rcases h5 with h5 | ⟨b,off,h6,h7,h8⟩
 ·omega
 obtain ⟨la,ln,lc,e,hi⟩:=h4.2 t (by omega)
 exact ⟨b,off,la,ln,lc,h6,by rw [h8 t ht,e],hi⟩
theorem Wl.own {w:World} {B n c:Nat} {a:Option Addr} {vs:List Value} {xss:List (List Int)} (h:w.ownsRow B 72 1 (.slice a n c) n vs) (hl:xss.length=n) (hA:Pi w vs xss):Wl w a n c xss:=by
 rcases h.2 with ⟨e,h0⟩ | ⟨b,cc,cur,e,h1,h2,h3,h4⟩
 ·cases e
  exact ⟨by omega,by omega,by unfold maxLen;omega,vs,hA,.inl (by omega)⟩
 cases e
 refine ⟨hl,by omega,by omega,vs,hA,.inr ⟨b,0,rfl,(h.lt b rfl).2,fun t ht=>?_⟩⟩
 rw [Nat.zero_add,h.cellAt t (by omega)]
 have hq:=hA.1
 simp [List.getD,show t<vs.length by omega]


theorem MC:(Tryz.prog.info? 72).map (fun i=>(i.zero,i.size,i.bytes))=some (some (.slice none 0 0),1,24):=by kernel_rfl
def Jw (e:Ending) (w:World) (r:List (List Int) × Bool):Prop:=∃ rb ro rn rc,e=.returned (.tuple #[.slice (some ⟨rb,ro,none⟩) rn rc,.bool r.2])∧Wl w (some ⟨rb,ro,none⟩) rn rc r.1
theorem Wl.news {w:World} {b off n c:Nat} {xss:List (List Int)} (h:Wl w (some ⟨b,off,none⟩) n c xss):∃ vs,Pi w vs xss∧vs.length=n∧(∀ j u,vs[j]?=some u→w.cell? ((⟨b,off,none⟩:Addr).add j)=some u)∧∀ u ∈ vs,u.oneCell'=true:=by
 obtain ⟨h1,h2,h3,vs,h4,h5⟩:=h
 have hv:=h4.1
 refine ⟨vs,h4,by omega,fun j u hj=>?_,fun u hu=>?_⟩
 ·have hl:=(List.getElem?_eq_some_iff.1 hj).1
  rcases h5 with h5 | ⟨b',off',h6,h7,h8⟩
  ·omega
  cases h6
  have h9:=h8 j (by omega)
  have e9:vs.getD j undef=u:=by simp [List.getD,hj]
  rw [e9] at h9
  by_cases e0:j=0
  ·subst e0;simpa [Addr.add] using h9
  simpa [Addr.add,e0] using h9
 obtain ⟨j,hj,rfl⟩:=List.getElem_of_mem hu
 obtain ⟨la,ln,lc,e,_⟩:=h4.2 j (by omega)
 have e9:vs.getD j undef=vs[j]:=by simp [List.getD,hj]
 rw [← e9,e]
 rfl

theorem Pq {rows:List (List I3)} {cap:Nat} (hp:Zn rows=true) {m:V4} {ls:List Int} {out:List (List Int)} (hs:Zk m=true) (hz:(ZE rows Zl [] ls).2.2=0) (hll:ls.length≤60) (ho:out.length≤300) (hEm:Zj rows m 3=[]) (w:World) (a9:Option Addr) (cs:Sl × Sl × Sl) (s:S4) (la:Option Addr) (lc ob oo oc:Nat) (hR:Z6 w a9 cs rows) (h:Yk w s m) (hL:YS .i64 w la ls.length lc ls) (hO:Wl w (some ⟨ob,oo,none⟩) out.length oc out) :
  Calls Tryz.prog 33 #[.agg #[.slice a9 3 cap],s.val,.slice la ls.length lc,.slice (some ⟨ob,oo,none⟩) out.length oc] w fun e w'=>Jw e w' (XY (out,true) (nfG rows ls))∧Below w.heap.size w w':=by
 obtain ⟨⟨t0a,t0n,t0c⟩,⟨t1a,t1n,t1c⟩,⟨t2a,t2n,t2c⟩,⟨t3a,t3n,t3c⟩⟩:=s
 have ut:S4.val ((t0a,t0n,t0c),(t1a,t1n,t1c),(t2a,t2n,t2c),(t3a,t3n,t3c))=.agg #[.slice t0a t0n t0c,.slice t1a t1n t1c,.slice t2a t2n t2c,.slice t3a t3n t3c]:=rfl
 have kE:=fun (W:World) (b:Below w.heap.size w W)=>Xw a9 3 cap rows ((t0a,t0n,t0c),(t1a,t1n,t1c),(t2a,t2n,t2c),(t3a,t3n,t3c)) m cs W rfl (hR.below b) (h.below b) hp hs
 rw [ut,hEm] at kE
 rw [ut]
 obtain ⟨i1,hi1,hy0,hy1,hy2⟩:=info_parts MC
 have kV:=fun (W:World) (b:Below w.heap.size w W)=>PI (cap:=cap) (hR.below b) hp (hL.below b) (by omega)
 rw [hz,if_pos rfl] at kV
 have h3:=WF ls Zl [] hz
 have HEL:Hid ((YK rows Zl ls).length=ls.length):=Ry rows ls Zl
 have kN:=fun (W:World) (ea:Option Addr) (n ec:Nat) (hn:n≤4096) (hEv:Evs W ea n (YK rows Zl ls))=>PJ ea n ec (YK rows Zl ls) W hEv hn h3
 have hfn:nfG rows ls=V5 (YK rows Zl ls):=rfl
 rw [hfn]
 generalize V5 (YK rows Zl ls)=fm at *
 generalize YK rows Zl ls=es at *
 clear hfn h3 hz hs hEm ut h hR hp
 have bw:Below w.heap.size w ((w.alloc (.cells #[.slice a9 3 cap] 25)).alloc (.cells #[.slice t0a t0n t0c,.slice t1a t1n t1c,.slice t2a t2n t2c,.slice t3a t3n t3c] 74)):=by go_grown
 have pP:Blk ((w.alloc (.cells #[.slice a9 3 cap] 25)).alloc (.cells #[.slice t0a t0n t0c,.slice t1a t1n t1c,.slice t2a t2n t2c,.slice t3a t3n t3c] 74)) w.heap.size 25 [.slice a9 3 cap]:=Zq _ (Zo _ _ _ rfl)
 have pS:Blk ((w.alloc (.cells #[.slice a9 3 cap] 25)).alloc (.cells #[.slice t0a t0n t0c,.slice t1a t1n t1c,.slice t2a t2n t2c,.slice t3a t3n t3c] 74)) (w.heap.size+1) 74 [.slice t0a t0n t0c,.slice t1a t1n t1c,.slice t2a t2n t2c,.slice t3a t3n t3c]:=Zo _ _ _ (by simp)
 have kEx:=kE ((w.alloc (.cells #[.slice a9 3 cap] 25)).alloc (.cells #[.slice t0a t0n t0c,.slice t1a t1n t1c,.slice t2a t2n t2c,.slice t3a t3n t3c] 74)) bw
 go_enter Tryz.func33,Tryz.ntmps33
 go_wp2_with (first | refine Zc rfl 25 _ rfl w.heap.size rfl pP _ Tryz.underlying25 rfl (by kernel_rfl) ?_ | refine Zc rfl 74 _ rfl (w.heap.size+1) rfl pS _ Tryz.underlying74 rfl (by kernel_rfl) ?_)
 generalize ((w.alloc (.cells #[.slice a9 3 cap] 25)).alloc (.cells #[.slice t0a t0n t0c,.slice t1a t1n t1c,.slice t2a t2n t2c,.slice t3a t3n t3c] 74))=w1 at *
 refine kEx.mono ?_
 rintro e w2 ⟨⟨⟨ea,en,ec⟩,rfl,hE⟩,hb⟩
 have hLn:en=0:=by have:=hE.1;simp at this;omega
 subst hLn
 replace pP:=pP.below hb
 replace bw:=Zb bw hb
 clear hb kEx kE hE pS
 have kVx:=kV w2 bw
 go_wp2_with (first | refine Zc rfl 25 _ rfl w.heap.size rfl pP _ Tryz.underlying25 rfl (by kernel_rfl) ?_)
 refine kVx.mono ?_
 rintro e w3 ⟨⟨v,rfl,q⟩,hb⟩
 obtain ⟨va,vc,rfl,hEv⟩:=Un q
 replace bw:=Zb bw hb
 have kNx:=kN w3 va es.length vc (by rw [HEL.out];omega) hEv
 clear hb kVx kV kN q hEv pP
 go_wp2_with fail
 refine kNx.mono ?_
 rintro e w4 ⟨⟨v,rfl,q⟩,hb⟩
 obtain ⟨fa,fc,rfl,hF⟩:=KQ q
 replace bw:=Zb bw hb
 replace hO:=hO.below bw
 clear hb kNx q hL HEL
 have HX:Hid (∀ j,j<0→out.getD j []≠fm):=fun j hj=>absurd hj (Nat.not_lt_zero _)
 go_wp2_with fail
 go_loopw [14] (fun si wz=>∃ t:Nat,t≤out.length∧si=.int .i64 t∧Hid (∀ j,j<t→out.getD j []≠fm)∧Below w4.heap.size w4 wz) (fun si _=>out.length - (Go.RowKit.intOf si).toNat)
 case atStart=>exact ⟨0,by omega,rfl,HX,Below.refl _ _⟩
 case round =>
  clear HX
  obtain ⟨t,ht,rfl,HX,bz⟩:=hrel
  by_cases hlt:t<out.length
  ·obtain ⟨ob',oo',ra,rn,rc,e9,c0,hI⟩:=(hO.below bz).cell hlt
   cases e9
   have hlt':(t:Int)<(out.length:Int):=by omega
   have ht0:(0:Int)≤(t:Int):=by omega
   have kS:=MG ra rn rc (out.getD t []) fa fm.length fc fm wr hI (hF.below bz)
   by_cases hq:out.getD t []=fm
   ·have HA:Hid (XY (out,true) fm=(out,true)):=by
     have hm:fm ∈ out:=by
      rw [← hq]
      simp only [List.getD,List.getElem?_eq_getElem hlt,Option.getD_some]
      exact List.getElem_mem hlt
     rw [Hid];simp [XY,hm]
    rw [decide_eq_true hq] at kS
    have hO9:=hO.below bz
    clear hq hI
    go_wp2_with fail
    refine kS.mono ?_
    rintro e z1 ⟨rfl,d,rfl⟩
    have bb:Below w.heap.size w (wr.drewN d):=below_drewN (Zb bw bz) d
    have hO8:=hO9.below (below_drewN (Below.refl wr.heap.size wr) d)
    clear kS hO hO9 hF bz bw c0
    generalize wr.drewN d=z1 at *
    go_wp2
    go_ret2
    rw [HA.out]
    exact ⟨⟨ob,oo,out.length,oc,rfl,hO8⟩,bb⟩
   rw [decide_eq_false hq] at kS
   have HX2:Hid (∀ j,j<t+1→out.getD j []≠fm):=fun j hj=>by
    by_cases e:j=t
    ·rw [e];exact hq
    exact HX.out j (by omega)
   clear hq hI HX
   go_wp2_with fail
   refine kS.mono ?_
   rintro e z1 ⟨rfl,d,rfl⟩
   replace bz:=below_drewN bz d
   clear kS c0
   generalize wr.drewN d=z1 at *
   go_wp2
   go_roundw
   case rel=>exact ⟨t+1,by omega,by go_num,HX2,bz⟩
   case measure=>simp [Go.RowKit.intOf];omega
  obtain rfl:t=out.length:=by omega
  have HA:Hid (XY (out,true) fm=(out++[fm],decide (out.length<300))):=by
   have hm:fm ∉ out:=fun hm=>by
    obtain ⟨j,hj,e⟩:=List.getElem_of_mem hm
    exact HX.out j hj (by simp [List.getD,hj,e])
   rw [Hid];simp [XY,hm]
  replace hO:=hO.below bz
  replace hF:=hF.below bz
  replace bw:=Zb bw bz
  clear HX bz
  generalize wr=V0 at *
  obtain ⟨vs,hA,hvl,hnw,h1c⟩:=hO.news
  have q0:=Mw V0 72 1 V0.heap.size (Nat.le_refl _)
  have ha:Below V0.heap.size V0 (V0.alloc (.cells #[] 72)):=by go_grown
  have hnw2:∀ j u,vs[j]?=some u→(V0.alloc (.cells #[] 72)).cell? ((⟨ob,oo,none⟩:Addr).add j)=some u:=fun j u hj=>Fp ha (hnw j u hj)
  have hdd:decide ((out.length:Int)<300)=decide (out.length<300):=by
   by_cases h9:out.length<300
   ·rw [decide_eq_true h9,decide_eq_true (by omega)]
   rw [decide_eq_false h9,decide_eq_false (by omega)]
  have HDD:Hid (decide ((out.length:Int)<300)=decide (out.length<300)):=hdd
  clear hnw hO hdd
  go_wp2_with (at_builtin;refine wpList_append_own _ rfl _ _ 83 rfl V0.heap.size 72 i1 (.slice none 0 0) 1 24 Tryz.underlying83 hi1 hy0 hy1 hy2 rfl (by decide) _ _ _ rfl q0 ⟨ob,oo,none⟩ out.length oc vs rfl (by rw [hvl];omega) hnw2 h1c ?c3 ?c4 ?c5 ?_)
  case c3=>unfold maxLen;omega
  case c4=>omega
  case c5=>simp
  intro v3 w3 q3 g3 _
  have b3:Below V0.heap.size V0 w3:=ha.grown g3 ha.size (fun q e=>(q0.lt q e).1)
  have q4:w3.ownsRow V0.heap.size 72 1 v3 out.length vs:=by simpa using q3
  have hs3:=b3.size
  clear q3 g3 q0 ha hnw2 h1c
  generalize hfl:fm.length=fl at *
  go_wp2_with (at_builtin;refine wpList_append_own _ rfl _ _ 83 rfl V0.heap.size 72 i1 (.slice none 0 0) 1 24 Tryz.underlying83 hi1 hy0 hy1 hy2 rfl (by decide) _ _ _ rfl (q4.alloc _) ⟨w3.heap.size,0,none⟩ 1 1 [.slice fa fl fc] rfl rfl (cell_one_new _ _ _) (by simp [Value.oneCell']) ?c3 ?c4 ?c5 ?_)
  case c3=>unfold maxLen;omega
  case c4=>omega
  case c5=>simp;omega
  intro v5 w5 q5 g5 _
  have b5:Below V0.heap.size V0 w5:=(Po b3 (by go_grown:Below w3.heap.size w3 (w3.alloc (.cells #[.slice fa fl fc] 72)))).grown g5 (by simp;omega) (fun q e=>(q4.lt q e).1)
  obtain ⟨g,c,rfl⟩:=UJ q5 (by omega)
  have hR5:Wl w5 (some ⟨g,0,none⟩) (out.length+1) c (out++[fm]):=Wl.own q5 (by simp) ((hA.below b5).snoc ⟨fa,fl,fc,rfl,hF.below b5⟩)
  replace bw:=Po bw b5
  clear q5 g5 q4 b3 b5 hA
  go_wp2
  go_ret2
  rw [HA.out]
  exact ⟨⟨g,0,_,c,by simp only [HDD.out];rfl,hR5⟩,bw⟩
end Go.Proofs.YtmhlokahmblboaaGreatDoor
