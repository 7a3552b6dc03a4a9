/-
  Joined: AstI, CntI, RbgI, SbgI, LocS.
-/
import Derived.Deep.CutRange
import Derived.Test.YtgmhhegckcionaaGreatDoorF32

namespace Go.Proofs.YtgmhhegckcionaaGreatDoor
set_option maxRecDepth 100000
set_option maxHeartbeats 16000000
open Go.RowKit
set_option linter.unusedVariables false
set_option linter.unusedSimpArgs false
def JJ (w W:World) (cs:Sl × Sl × Sl) (rows:List (List I3)) (F:List (Zz V4)) (s4 s5:Value):Prop:=
 ∃ X va vc nb L,s4=.pointer (some ⟨X,0,none⟩)∧s5=.int .i64 0∧Blk W X 84 [.slice va L.length vc,.map (some nb)]∧Xc W w.heap.size nb (.slice va L.length vc) cs (Yv rows F) L L.length∧L.map (·.1)=F∧w.heap.size≤X∧Below w.heap.size w W
theorem Xc.lower {w:World} {B B' nb d:Nat} {vs:Value} {cs:Sl × Sl × Sl} {M:V4→List I4} {L:List (Zz V4 × Value)} (h:Xc w B nb vs cs M L d) (hB:B'≤B):Xc w B' nb vs cs M L d:=
 ⟨Xv h.row hB,h.map,fun i r mv h1 h2=>Xv (h.mvs i r mv h1 h2) hB,h.nil,Nat.le_trans hB h.low⟩
theorem JJ.mk9 {w W:World} {cs:Sl × Sl × Sl} {rows:List (List I3)} {F:List (Zz V4)} {s4 s5 va vs:Value} {X nb B:Nat} {L:List (Zz V4 × Value)} (h4:s4=.pointer (some ⟨X,0,none⟩)) (h5:s5=.int .i64 0) (hX:Blk W X 84 [vs,.map (some nb)]) (sp:Xc W B nb vs cs (Yv rows F) L L.length) (hL:L.map (·.1)=F) (hBX:w.heap.size≤X) (hB:w.heap.size≤B) (b:Below w.heap.size w W):JJ w W cs rows F s4 s5:=by
 obtain ⟨va,vn,vc,rfl⟩:=Z9 sp.row
 obtain rfl:vn=L.length:=by
  rcases sp.row.2 with ⟨h1,h2⟩ | ⟨gq,cq,cur,h1,_⟩
  ·cases h1;exact h2.symm
  cases h1;rfl
 exact ⟨X,va,vc,nb,L,h4,h5,hX,sp.lower hB,hL,hBX,b⟩
def KY (e:Ending) (w:World) (B:Nat) (ts:List ByteArray) (c:Int):Prop:=∃ v,e=.returned (.tuple #[v,.int .i64 c])∧w.ownsRow B 9 1 v ts.length (ts.map Value.string)
def PI (rows:List (List I3)):Int:=if Zf rows then (if (ZL rows).length≤2000 then 0 else 15) else 1
theorem RU (a:Option Addr) (len cap:Nat) (rows:List (List I3)) (s:S4) (w:World) (hC:YT w a len cap rows) (h:Xd w s Zu) (hV:ZN w) (hp:Zf rows=true) (hf:(ZL rows).length≤2000) :
  Calls Tryz.prog 42 #[.agg #[.slice a len cap],s.val] w fun e w'=>Qg e w w' a rows (ZL rows):=by
 refine (KP a len cap rows s w hC h hV hp).mono fun e w' h=>?_
 rw [if_pos hf] at h
 exact h
theorem Qm {rows:List (List I3)} (h:PI rows=0):Zf rows=true∧(ZL rows).length≤2000:=by
 unfold PI at h
 cases hp:Zf rows
 ·rw [hp] at h;simp at h
 rw [hp] at h
 by_cases hf:(ZL rows).length≤2000
 ·exact ⟨rfl,hf⟩
 rw [if_pos rfl,if_neg hf] at h
 simp at h
theorem Jt (cs:Sl × Sl × Sl) (r:Zz V4) {mv:Value} (h:mv.oneCell'=true):(rcC cs r mv).all (·.oneCell')=true:=by
 unfold rcC
 rw [List.all_cons,List.all_append,Lb]
 simp only [List.all_cons,List.all_nil,h,Bool.and_true,Bool.and_self]
 rfl
theorem Xc.mvone {w:World} {B nb:Nat} {vs:Value} {cs:Sl × Sl × Sl} {M:V4→List I4} {L:List (Zz V4 × Value)} (h:Xc w B nb vs cs M L L.length) {j:Nat} {r:Zz V4} {mv:Value} (hr:L[j]?=some (r,mv)):mv.oneCell'=true:=by
 obtain ⟨a,k,c,rfl⟩:=Z9 (h.mvs j r mv (List.getElem?_eq_some_iff.1 hr).1 hr)
 rfl
theorem Xc.strgrown {W W':World} {B B' nb d n e s:Nat} {vs v:Value} {cs:Sl × Sl × Sl} {M:V4→List I4} {L:List (Zz V4 × Value)} {xs:List Value} (h:Xc W B nb vs cs M L d) (ho:W.ownsRow B' e s v n xs) (gr:W.grownBy W' v.ownBlock) (h1:101≠e:=by decide) (h2:194≠e:=by decide):Xc W' B nb vs cs M L d:=by
 obtain ⟨D,hm,hn⟩:=h.map
 exact ⟨h.row.kept gr (Ap3.types h.row ho h1).or,⟨D,hm.kept gr (fun e=>Uz hm ho e.symm),hn⟩,fun i r mv' hi hr=>(h.mvs i r mv' hi hr).kept gr (Ap3.types (h.mvs i r mv' hi hr) ho h2).or,h.nil,h.low⟩
theorem DT {cs:Sl × Sl × Sl} {r:Zz V4} {mv:Value}:(rcC cs r mv)[0]?=some (.string (Zt r.1)):=rfl

def OnK (w wr:World) (X nb:Nat) (va:Option Addr) (vc:Nat) (cs:Sl × Sl × Sl) (rows:List (List I3)) (L:List (Zz V4 × Value)) (j:Nat) (v:Value):Prop:=
 j≤L.length∧Blk wr X 84 [.slice va L.length vc,.map (some nb)]∧Xc wr w.heap.size nb (.slice va L.length vc) cs (Yv rows (ZL rows)) L L.length∧wr.ownsRow w.heap.size 9 1 v ((Xq (L.map (·.1))).take j).length (((Xq (L.map (·.1))).take j).map Value.string)∧Below w.heap.size w wr
theorem Rg (a:Option Addr) (len cap:Nat) (rows:List (List I3)) (w:World) (hC:YT w a len cap rows) (hV:ZN w) (hc:PI rows=0) :
  Calls Tryz.prog 16 #[.agg #[.slice a len cap]] w fun e w'=>KY e w' w.heap.size (Xq (ZL rows)) 0∧Below w.heap.size w w':=by
 obtain ⟨hp,hf⟩:=Qm hc
 obtain ⟨i1,hi8,hy0,hy1,hy2⟩:=info_parts Hg
 obtain ⟨cs,hR⟩:=VE hC hp
 have kS:=fun (W:World) (b:Below w.heap.size w W) (t:S4) (h:Xd W t Zu)=>RU a len cap rows t W (hC.below b) h (hV.below b) hp hf
 clear hc
 have fz:=(YC ZJ).1
 have kN:=YZ
 have bw:Below w.heap.size w (w.alloc (.cells #[.slice a len cap] 25)):=by go_grown
 have pP:Blk (w.alloc (.cells #[.slice a len cap] 25)) w.heap.size 25 [.slice a len cap]:=Zj _ _ _ rfl
 go_enter Tryz.func16,Tryz.ntmps16
 go_wp2_with fail
 generalize w.alloc (.cells #[.slice a len cap] 25)=U at *
 go_cut [4,5] from 9 (fun s4 s5 W=>JJ w W cs rows (ZL rows) s4 s5)
 case first =>
  have hdr:Below U.heap.size U U.drew:=by go_grown
  refine wp_region_held_drew (S:=(fun w'=>w'.cell? ⟨w.heap.size,0,none⟩=some (.slice a len cap))) (by kernel_rfl) (by simpa using pP.cell 0) (fun hS0=>?_)
  refine tkm 0 10 (.agg #[.slice a len cap]) ?_
  have pP9:=pP.below hdr
  replace bw:=Zb bw hdr
  clear hdr
  generalize U.drew=V at *
  have bt:Below V.heap.size V V:=Below.refl _ _
  refine wpAnyH_ready (rs:=[1,6]) (by kernel_rfl) (by simp) ?_
  refine AllReadyH.cons (o:=⟨some 11,_,_,_,_,_⟩) rfl (fun K hK=>?_) (AllReadyH.cons (o:=⟨some 4,_,_,_,_,_⟩) rfl (fun K hK=>?_) AllReadyH.nil)
  focus
   go_simp
   refine (kN V).mono ?_
   rintro e V1 ⟨⟨⟨⟨t0a,t0n,t0c⟩,⟨t1a,t1n,t1c⟩,⟨t2a,t2n,t2c⟩,⟨t3a,t3n,t3c⟩⟩,rfl,hO⟩,hb1⟩
   have ut:S4.val ((t0a,t0n,t0c),(t1a,t1n,t1c),(t2a,t2n,t2c),(t3a,t3n,t3c))=.agg #[.slice t0a t0n t0c,.slice t1a t1n t1c,.slice t2a t2n t2c,.slice t3a t3n t3c]:=rfl
   rw [ut]
   have bt:=Zb bt hb1
   go_wp2_with fail
   refine hK.out _ _ (Za bt _ _ hS0) (fun hS1=>?_)
   clear hK
   try simp only [Act.put,tka,tkb,tkc]
   refine wpAnyH_ready (rs:=[2,6]) (by kernel_rfl) (by simp) ?_
   refine AllReadyH.cons (o:=⟨some 12,_,_,_,_,_⟩) rfl (fun K hK=>?_) (AllReadyH.cons (o:=⟨some 4,_,_,_,_,_⟩) rfl (fun K hK=>?_) AllReadyH.nil)
   focus
    have kx:=kS V1 (Zb bw bt) ((t0a,t0n,t0c),(t1a,t1n,t1c),(t2a,t2n,t2c),(t3a,t3n,t3c)) (hO.mem fz)
    rw [ut] at kx
    go_simp
    refine kx.mono ?_
    rintro e V2 ⟨va9,nb,cs',L,rfl,sp,hLF,hR',hb2⟩
    obtain rfl:=(hR.below (Zb bw bt)).uniq hR'
    have hBv:w.heap.size≤V1.heap.size:=Nat.le_trans bw.size bt.size
    obtain ⟨va8,vn8,vc8,hva⟩:=Z9 sp.row
    have bt:=Zb bt hb2
    go_wp2_with fail
    refine hK.out _ _ (Za bt _ _ hS0) (fun hS2=>?_)
    clear hK kx
    try simp only [Act.put,tka,tkb,tkc]
    refine tkm 3 9 (.tuple #[.agg #[va9,.map (some nb)],.int .i64 0]) ?_
    refine tkm 4 13 (.agg #[va9,.map (some nb)]) ?_
    refine tkm 5 14 (.int .i64 0) ?_
    refine tkr 6 4 (fun K hK=>?_)
    have hb3:Below V2.heap.size V2 (V2.alloc (.cells #[.slice none 0 0,.map none] 84)):=by go_grown
    have pX:Blk (V2.alloc (.cells #[.slice none 0 0,.map none] 84)) V2.heap.size 84 [.slice none 0 0,.map none]:=Zj _ _ _ rfl
    have hXB:w.heap.size≤V2.heap.size:=Nat.le_trans bw.size bt.size
    replace sp:=sp.below hb3
    have bt:=Zb bt hb3
    go_simp
    refine hK.out _ _ (Za bt _ _ hS0) (fun hS3=>?_)
    clear hK
    generalize (V2.alloc (.cells #[.slice none 0 0,.map none] 84))=V3 at *
    obtain ⟨X,hX⟩:∃ X,X=V2.heap.size:=⟨_,rfl⟩
    rw [← hX] at pX hXB ⊢
    clear hX
    try simp only [Act.put,tka,tkb,tkc]
   rotate_left
   focus
    have hb3:Below V1.heap.size V1 (V1.alloc (.cells #[.slice none 0 0,.map none] 84)):=by go_grown
    have pX:Blk (V1.alloc (.cells #[.slice none 0 0,.map none] 84)) V1.heap.size 84 [.slice none 0 0,.map none]:=Zj _ _ _ rfl
    have hXB:w.heap.size≤V1.heap.size:=Nat.le_trans bw.size bt.size
    replace hO:=hO.below hb3
    have bt:=Zb bt hb3
    go_simp
    refine hK.out _ _ (Za bt _ _ hS0) (fun hS3=>?_)
    clear hK
    generalize (V1.alloc (.cells #[.slice none 0 0,.map none] 84))=V2 at *
    obtain ⟨X,hX⟩:∃ X,X=V1.heap.size:=⟨_,rfl⟩
    rw [← hX] at pX hXB ⊢
    clear hX
    try simp only [Act.put,tka,tkb,tkc]
    refine tkr 2 12 (fun K hK=>?_)
    have kx:=kS V2 (Zb bw bt) ((t0a,t0n,t0c),(t1a,t1n,t1c),(t2a,t2n,t2c),(t3a,t3n,t3c)) (hO.mem fz)
    rw [ut] at kx
    go_simp
    refine kx.mono ?_
    rintro e V3 ⟨va9,nb,cs',L,rfl,sp,hLF,hR',hb2⟩
    obtain rfl:=(hR.below (Zb bw bt)).uniq hR'
    have hBv:w.heap.size≤V2.heap.size:=Nat.le_trans bw.size bt.size
    obtain ⟨va8,vn8,vc8,hva⟩:=Z9 sp.row
    replace pX:=pX.below hb2
    have bt:=Zb bt hb2
    go_wp2_with fail
    refine hK.out _ _ (Za bt _ _ hS0) (fun hS2=>?_)
    clear hK kx
    try simp only [Act.put,tka,tkb,tkc]
    refine tkm 3 9 (.tuple #[.agg #[va9,.map (some nb)],.int .i64 0]) ?_
    refine tkm 4 13 (.agg #[va9,.map (some nb)]) ?_
    refine tkm 5 14 (.int .i64 0) ?_
  rotate_left 2
  focus
   have hb3:Below V.heap.size V (V.alloc (.cells #[.slice none 0 0,.map none] 84)):=by go_grown
   have pX:Blk (V.alloc (.cells #[.slice none 0 0,.map none] 84)) V.heap.size 84 [.slice none 0 0,.map none]:=Zj _ _ _ rfl
   have hXB:w.heap.size≤V.heap.size:=Nat.le_trans bw.size bt.size
   have bt:=Zb bt hb3
   go_simp
   refine hK.out _ _ (Za bt _ _ hS0) (fun hS3=>?_)
   clear hK
   generalize (V.alloc (.cells #[.slice none 0 0,.map none] 84))=V1 at *
   obtain ⟨X,hX⟩:∃ X,X=V.heap.size:=⟨_,rfl⟩
   rw [← hX] at pX hXB ⊢
   clear hX
   try simp only [Act.put,tka,tkb,tkc]
   refine tkr 1 11 (fun K hK=>?_)
   go_simp
   refine (kN V1).mono ?_
   rintro e V2 ⟨⟨⟨⟨t0a,t0n,t0c⟩,⟨t1a,t1n,t1c⟩,⟨t2a,t2n,t2c⟩,⟨t3a,t3n,t3c⟩⟩,rfl,hO⟩,hb1⟩
   have ut:S4.val ((t0a,t0n,t0c),(t1a,t1n,t1c),(t2a,t2n,t2c),(t3a,t3n,t3c))=.agg #[.slice t0a t0n t0c,.slice t1a t1n t1c,.slice t2a t2n t2c,.slice t3a t3n t3c]:=rfl
   rw [ut]
   have bt:=Zb bt hb1
   go_wp2_with fail
   refine hK.out _ _ (Za bt _ _ hS0) (fun hS1=>?_)
   clear hK
   try simp only [Act.put,tka,tkb,tkc]
   replace pX:=pX.below hb1
   refine tkr 2 12 (fun K hK=>?_)
   have kx:=kS V2 (Zb bw bt) ((t0a,t0n,t0c),(t1a,t1n,t1c),(t2a,t2n,t2c),(t3a,t3n,t3c)) (hO.mem fz)
   rw [ut] at kx
   go_simp
   refine kx.mono ?_
   rintro e V3 ⟨va9,nb,cs',L,rfl,sp,hLF,hR',hb2⟩
   obtain rfl:=(hR.below (Zb bw bt)).uniq hR'
   have hBv:w.heap.size≤V2.heap.size:=Nat.le_trans bw.size bt.size
   obtain ⟨va8,vn8,vc8,hva⟩:=Z9 sp.row
   replace pX:=pX.below hb2
   have bt:=Zb bt hb2
   go_wp2_with fail
   refine hK.out _ _ (Za bt _ _ hS0) (fun hS2=>?_)
   clear hK kx
   try simp only [Act.put,tka,tkb,tkc]
   refine tkm 3 9 (.tuple #[.agg #[va9,.map (some nb)],.int .i64 0]) ?_
   refine tkm 4 13 (.agg #[va9,.map (some nb)]) ?_
   refine tkm 5 14 (.int .i64 0) ?_
  all_goals
   subst hva
   refine tkz 7 (fun K hK=>?_)
   refine WX rfl 84 _ _ rfl X [.slice va8 vn8 vc8,.map (some nb)] rfl rfl pX (by kernel_rfl) rfl rfl ?_
   intro V9 pX9 g9
   have bz:=(Zb bw bt).grown g9 (Zb bw bt).size (fun q e=>by cases e;exact hXB)
   replace sp:=sp.grown g9 pX (by decide) (by decide)
   have hXP:X≠w.heap.size:=Z8 pX (pP9.below bt) (by decide)
   have c9:=Za bt _ _ hS0
   refine hK.out _ _ (Zg g9 c9 (by simp;omega)) (fun hS4=>?_)
   clear hK
   try simp only [Act.put,tka,tkb,tkc]
   refine tkm 8 5 (.int .i64 0) ?_
   refine wpAnyH_done (by kernel_rfl) ?_ _
   go_wp2_with fail
   go_meet
   case rel=>exact JJ.mk9 (va:=.slice none 0 0) rfl rfl pX9.out sp hLF hXB hBv bz
 obtain ⟨X,va,vc,nb,L,rfl,rfl,pX,sp,hLF,hXB,bz⟩:=hcut
 clear kS kN bw pP fz
 have cX0:wc.cell? ⟨X,0,none⟩=some (.slice va L.length vc):=by simpa using pX.cell 0
 have hl2:L.length≤2000:=by
  have e:(L.map (·.1)).length=L.length:=by simp
  rw [hLF] at e
  omega
 have st:OnK w wc X nb va vc cs rows L 0 (.slice none 0 0):=⟨Nat.zero_le _,pX,sp,World.ownsRow_nil _ _ _ _,bz⟩
 have HLF:Hid (L.map (·.1)=ZL rows):=hLF
 clear hLF pX sp bz
 go_wp2_with fail
 go_loopw [6,21] (fun s6 s21 wr=>∃ j:Nat,s21=.int .i64 j∧OnK w wr X nb va vc cs rows L j s6) (fun _ s21 _=>L.length - (intOf s21).toNat)
 case atStart=>exact ⟨0,rfl,st⟩
 case round =>
  clear st cX0
  obtain ⟨j,rfl,hj,pX,sp,q,bw⟩:=hrel
  by_cases hlt:j<L.length
  ·obtain ⟨r,mv,hr⟩:∃ r mv,L[j]?=some (r,mv):=⟨L[j].1,L[j].2,by rw [List.getElem?_eq_getElem hlt]⟩
   obtain ⟨g,c,e9,hg,hrg⟩:=sp.at9 hr
   have hmv:=sp.mvone hr
   cases e9
   have hlt3:(j:Int)<(L.length:Int):=by omega
   have hj0:(0:Int)≤(j:Int):=by omega
   have hKe:(Xq (L.map (·.1))).take (j+1)=(Xq (L.map (·.1))).take j++[Zt r.1]:=by
    rw [List.take_add_one]
    unfold Xq
    rw [List.getElem?_map,List.getElem?_map,hr]
    rfl
   have hkl:((Xq (L.map (·.1))).take j).length≤2000:=by have:=List.length_take_le j (Xq (L.map (·.1)));omega
   have HKe:Hid ((Xq (L.map (·.1))).take (j+1)=(Xq (L.map (·.1))).take j++[Zt r.1]):=hKe
   clear hKe hr
   obtain ⟨ks,hks⟩:∃ ks,ks=(Xq (L.map (·.1))).take j:=⟨_,rfl⟩
   rw [← hks] at q hkl HKe
   clear hks
   have pN:=Blk.new wr 101 [.string ⟨#[]⟩,.slice none 0 0,.int .i64 0,.int .i64 0,.int .i64 0,.slice none 0 0,.int .i64 0,.int .i64 0,.int .i64 0,.slice none 0 0,.int .i64 0,.int .i64 0,.int .i64 0,.int .i64 0,.int .i64 0,.int .i64 0,.int .i64 0,.int .i64 0,.int .i64 0,.int .i64 0,.int .i64 0,.slice none 0 0]
   have hbN:Below wr.heap.size wr (wr.alloc (.cells #[.string ⟨#[]⟩,.slice none 0 0,.int .i64 0,.int .i64 0,.int .i64 0,.slice none 0 0,.int .i64 0,.int .i64 0,.int .i64 0,.slice none 0 0,.int .i64 0,.int .i64 0,.int .i64 0,.int .i64 0,.int .i64 0,.int .i64 0,.int .i64 0,.int .i64 0,.int .i64 0,.int .i64 0,.int .i64 0,.slice none 0 0] 101)):=by go_grown
   go_wp2_with (first | refine wpList_load_mid rfl 101 _ rfl g (j*22) rfl (rcC cs r mv) _ hrg Tryz.underlying101 rfl (by kernel_rfl) ?_ | refine Ze rfl 101 _ _ rfl wr.heap.size (rcC cs r mv) rfl rfl pN (by kernel_rfl) rfl (Jt cs r hmv) ?_)
   intro w3 p3 g3
   have pE:=p3.out
   have b3:Below wr.heap.size wr w3:=hbN.grown g3 hbN.size (fun k e=>by cases e;exact Nat.le_refl _)
   have cE:w3.cell? ⟨wr.heap.size,0,none⟩=some (.string (Zt r.1)):=by rw [pE.cell];exact DT
   replace pX:=pX.below b3
   replace sp:=sp.below b3
   replace q:=Zs q b3
   replace bw:=Zb bw b3
   clear p3 g3 hbN pN b3 hrg pE
   generalize wr.heap.size=E at *
   generalize Zt r.1=key at *
   go_wp2_with (at_builtin;refine wpList_append_own_at _ rfl _ _ 49 rfl w.heap.size 9 i1 (.string ⟨#[]⟩) 1 16 Tryz.underlying49 hi8 hy0 hy1 hy2 rfl (by decide) _ _ _ rfl (q.alloc _) ⟨w3.heap.size,0,none⟩ 1 1 [.string key] rfl rfl (cell_one_new _ _ _) (FS _) ?c3 ?c4 ?c5 ?_)
   case c3=>unfold maxLen;omega
   case c4=>omega
   case c5=>have:=bw.size;simp;omega
   intro v6 w4 q6 gr _ at6
   have ha:Below w3.heap.size w3 (w3.alloc (.cells #[.string key] 9)):=by go_grown
   have sp4:=(sp.below ha).strgrown (q.alloc _) gr
   have pX4:=(pX.below ha).kept gr (Zk (q.alloc _) (pX.below ha) (by decide))
   have bw4:=(Zb bw ha).grown gr (Zb bw ha).size (fun k e=>(Yc (q.alloc (.cells #[.string key] 9)) e).1)
   have q7:w4.ownsRow w.heap.size 9 1 v6 ((Xq (L.map (·.1))).take (j+1)).length (((Xq (L.map (·.1))).take (j+1)).map Value.string):=by rw [HKe.out];exact F2 q6
   have st9:OnK w w4 X nb (some ⟨g,0,none⟩) vc cs rows L (j+1) v6:=⟨by omega,pX4,sp4,q7,bw4⟩
   clear sp4 pX4 bw4 q7 q6 gr at6 ha sp pX bw q cE HKe
   go_wp2
   go_roundw
   case rel=>exact ⟨j+1,by go_num,st9⟩
   case measure=>simp [intOf];omega
  have hlt3:¬ (j:Int)<(L.length:Int):=by omega
  obtain rfl:j=L.length:=by omega
  obtain ⟨ka,kn,kc,rfl⟩:=Z9 q
  have HG:Hid (KY (.returned (.tuple #[.slice ka kn kc,.int .i64 0])) wr w.heap.size (Xq (ZL rows)) 0):=by
   rw [← HLF.out]
   rw [List.take_of_length_le (by rw [Hw];simp)] at q
   exact ⟨_,rfl,q⟩
  clear q sp pX
  go_wp2
  refine bodyPost_ret (by simp [results,Tryz.results16,go_sem];try rfl) rfl ?_
  exact ⟨HG.out,bw⟩


theorem DY {rows:List (List I3)} {F:List (Zz V4)} {m:V4} {j:Nat} {k:Int} (h:(Zm rows m 3)[j]?=some k):(Yv rows F m)[j]?=some (C2 rows F m k):=by
 unfold Yv
 rw [List.getElem?_map,h]
 rfl
theorem KK {w:World} {B G cap:Nat} {xs:List I4} (h:w.ownsRow B 194 4 (.slice (some ⟨G,0,none⟩) xs.length cap) xs.length (We xs)) {j:Nat} {x:I4} (hx:xs[j]?=some x):w.rangeAt G (j*4) [.int .i64 x.1,.int .i64 x.2.1,.int .i64 x.2.2.1,.int .i64 x.2.2.2]:=by
 have hl:j<xs.length:=(List.getElem?_eq_some_iff.1 hx).1
 have hg:xs.getD j (0,0,0,0)=x:=by simp [List.getD,hx]
 obtain ⟨f0,f1,f2,f3⟩:=MH xs j hl
 rw [hg] at f0 f1 f2 f3
 intro q v hq
 have hq4:q<4:=by have:=(List.getElem?_eq_some_iff.1 hq).1;simpa using this
 rw [h.cellAt (j*4+q) (by omega)]
 match q,hq4 with
 | 0,_=>simp at hq;subst hq;exact f0
 | 1,_=>simp at hq;subst hq;exact f1
 | 2,_=>simp at hq;subst hq;exact f2
 | 3,_=>simp at hq;subst hq;exact f3


def RW (rows:List (List I3)) (m:V4) (j:Nat):List I3:=((Zm rows m 3).take j).flatMap (Xg rows m)
theorem PT {rows:List (List I3)} {m:V4} {j:Nat} {k:Int} (h:(Zm rows m 3)[j]?=some k):RW rows m (j+1)=RW rows m j++Xg rows m k:=by
 unfold RW
 rw [List.take_add_one,h]
 simp
theorem Qt (rows:List (List I3)) (m:V4):∀ j,(RW rows m j).length≤j
 | 0=>by simp [RW]
 | j+1=>by
  have ih:=Qt rows m j
  cases h:(Zm rows m 3)[j]? with
  | none =>
   have e:RW rows m (j+1)=RW rows m j:=by unfold RW;rw [List.take_add_one,h];simp
   rw [e]
   omega
  | some k =>
   rw [PT h,List.length_append]
   have:=Li rows m k
   omega
def Ur (rows:List (List I3)) (m:V4) (j:Nat):List I3:=ZC rows m++RW rows m j
theorem Ha {rows:List (List I3)} {m:V4} {j:Nat} {k:Int} (h:(Zm rows m 3)[j]?=some k):Ur rows m (j+1)=Ur rows m j++Xg rows m k:=by
 unfold Ur
 rw [PT h,List.append_assoc]
theorem JR (rows:List (List I3)) (m:V4):(ZC rows m).length≤1:=by
 unfold ZC
 split<;>simp
theorem Fs (rows:List (List I3)) (m:V4) (j:Nat):(Ur rows m j).length≤j+1:=by
 have h1:=Qt rows m j
 have h2:=JR rows m
 unfold Ur
 rw [List.length_append]
 omega
theorem Kj (xs:List I3) (x:I3):Zn (xs++[x])=Zn xs++[.int .i64 x.1,.int .i64 x.2.1,.int .i64 x.2.2]:=by simp [Zn,I3.cells]
theorem Pd {w:World} {g t:Nat} {a b c:Value} (h:Blk w g t [a,b,c]):∀ j u,[a,b,c][j]?=some u→w.cell? ((⟨g,0,none⟩:Addr).add j)=some u:=TD h

theorem Ce {w:World} {B E:Nat} {cs:Sl × Sl × Sl} {rows:List (List I3)} {F:List (Zz V4)} {r:Zz V4} {mv:Value} (hE:Blk w E 101 (rcC cs r mv)) (hmv:w.ownsRow B 194 4 mv (Yv rows F r.1).length (We (Yv rows F r.1))) (hp:Zf rows=true) (hs:Zc r.1=true) (hI:∀ k,k<3→Zr w (slK cs k).1 (slK cs k).2.1 (slK cs k).2.2 (Yg rows k)) :
  Calls Tryz.prog 82 #[.pointer (some ⟨E,0,none⟩)] w fun e w'=>XW e w' w.heap.size (XL rows r.1)∧Below w.heap.size w w':=by
 obtain ⟨i0,hi9,hz0,hz1,hz2⟩:=info_parts Xp
 have kU:=U8 (Rq.stuck_is E cs rows r.1 w ⟨⟨_,_,_,_,hE⟩,hI⟩ hp hs)
 rw [show (if YS rows r.1 then [((14:Int),(0:Int),(0:Int))] else [])=ZC rows r.1 from rfl] at kU
 have hml:(Yv rows F r.1).length=(Zm rows r.1 3).length:=by simp [Yv]
 have hen:=YM rows r.1 3
 have HB:Hid (XL rows r.1=Ur rows r.1 (Zm rows r.1 3).length):=by
  rw [Hid]
  unfold XL Ur RW ZC
  rw [List.take_length]
  cases hst:YS rows r.1
  ·rfl
  have he:Zm rows r.1 3=[]:=by
   unfold YS at hst
   simp only [Bool.and_eq_true,decide_eq_true_eq] at hst
   exact hst.1
  rw [he]
  rfl
 obtain ⟨ma,mc,rfl⟩:∃ ma mc,mv=.slice ma (Yv rows F r.1).length mc:=by
  rcases hmv.2 with ⟨h1,h2⟩ | ⟨gq,cq,cur,h1,_⟩
  ·exact ⟨none,0,by rw [h1,h2]⟩
  exact ⟨_,_,h1⟩
 have cM:w.cell? ⟨E,21,none⟩=some (.slice ma (Yv rows F r.1).length mc):=by rw [hE.cell];rfl
 have HM:Hid (∀ j k,(Zm rows r.1 3)[j]?=some k→∃ G,ma=some ⟨G,0,none⟩∧w.rangeAt G (j*4) [.int .i64 (goM rows r.1 k).2,.int .i64 k,.int .i64 (r.1.1.getD k.toNat 0),.int .i64 (ixS F (goM rows r.1 k).1:Int)]):=by
  intro j k hjk
  have hpos:0<(Yv rows F r.1).length:=by
   rw [hml]
   exact Nat.lt_of_le_of_lt (Nat.zero_le _) (List.getElem?_eq_some_iff.1 hjk).1
  obtain ⟨G,c9,e9,_⟩:=Gs hmv hpos
  cases e9
  exact ⟨G,rfl,KK hmv (DY hjk)⟩
 rw [hml] at cM
 obtain ⟨n,hn⟩:∃ n,n=(Zm rows r.1 3).length:=⟨_,rfl⟩
 rw [← hn] at cM hen HB
 have HN:Hid (n=(Zm rows r.1 3).length):=hn
 clear hn hml hmv hE hI
 go_enter Tryz.func82,Tryz.ntmps82
 go_wp2_with fail
 refine kU.mono ?_
 rintro e w1 ⟨⟨dv,rfl,hdv⟩,bw⟩
 have cM1:=Za bw _ _ cM
 have st:w1.ownsRow w.heap.size 103 3 dv (Ur rows r.1 0).length (Zn (Ur rows r.1 0)):=by
  have e0:Ur rows r.1 0=ZC rows r.1:=by simp [Ur,RW]
  rw [e0]
  exact hdv
 clear hdv
 clear kU cM
 go_wp2_with fail
 go_loopw [3,15] (fun s3 s17 wr=>∃ j:Nat,s17=.int .i64 j∧j≤n∧wr.ownsRow w.heap.size 103 3 s3 (Ur rows r.1 j).length (Zn (Ur rows r.1 j))∧Below w.heap.size w wr) (fun _ s17 _=>n - (intOf s17).toNat)
 case atStart=>exact ⟨0,rfl,Nat.zero_le _,st,bw⟩
 case round =>
  clear st bw cM1
  obtain ⟨j,rfl,hjn,q,bw⟩:=hrel
  obtain ⟨va,vn,vc,rfl⟩:=Z9 q
  by_cases hlt:j<n
  ·have hkj:(Zm rows r.1 3)[j]?=some ((Zm rows r.1 3).getD j 0):=by rw [List.getD,List.getElem?_eq_getElem (by rw [← HN.out];exact hlt)];rfl
   generalize (Zm rows r.1 3).getD j 0=k at hkj
   obtain ⟨G,rfl,hrg⟩:=HM.out j k hkj
   have hfs:=Ha hkj
   have hfl:=Fs rows r.1 j
   unfold Xg at hfs
   have hrw:wr.rangeAt G (j*4) [.int .i64 (goM rows r.1 k).2,.int .i64 k,.int .i64 (r.1.1.getD k.toNat 0),.int .i64 (ixS F (goM rows r.1 k).1:Int)]:=fun q v hq=>Za bw _ _ (hrg q v hq)
   generalize ixS F (goM rows r.1 k).1=ix at *
   generalize (goM rows r.1 k).2=f at *
   generalize r.1.1.getD k.toNat 0=pc at *
   have hlt3:(j:Int)<(n:Int):=by omega
   have hj0:(0:Int)≤(j:Int):=by omega
   clear hkj hrg
   have pN:=Blk.new wr 194 [.int .i64 0,.int .i64 0,.int .i64 0,.int .i64 0]
   have hbN:Below wr.heap.size wr (wr.alloc (.cells #[.int .i64 0,.int .i64 0,.int .i64 0,.int .i64 0] 194)):=by go_grown
   go_wp2_with (first | refine wpList_load_mid rfl 194 _ rfl G (j*4) rfl [.int .i64 f,.int .i64 k,.int .i64 pc,.int .i64 (ix:Int)] _ hrw Tryz.underlying194 rfl (by kernel_rfl) ?_ | refine Ze rfl 194 _ _ rfl wr.heap.size [.int .i64 f,.int .i64 k,.int .i64 pc,.int .i64 (ix:Int)] rfl rfl pN (by kernel_rfl) rfl rfl ?_)
   intro w3 p3 g3
   have pQ:=p3.out
   have b3:Below wr.heap.size wr w3:=hbN.grown g3 hbN.size (fun q e=>by cases e;exact Nat.le_refl _)
   replace bw:=Zb bw b3
   replace q:=Zs q b3
   have cQ:w3.cell? ⟨wr.heap.size,0,none⟩=some (.int .i64 f):=by simpa using pQ.cell 0
   have rQ:w3.rangeAt wr.heap.size 0 [.int .i64 f,.int .i64 k,.int .i64 pc]:=fun i v hi=>by
    rw [Nat.zero_add,pQ.cell]
    have hi3:i<3:=by have:=(List.getElem?_eq_some_iff.1 hi).1;simpa using this
    match i,hi3 with
    | 0,_=>exact hi
    | 1,_=>exact hi
    | 2,_=>exact hi
   clear p3 g3 pN hbN b3 hrw pQ
   generalize wr.heap.size=Q at *
   by_cases hf:f=0
   ·subst hf
    rw [if_pos rfl,List.append_nil] at hfs
    have st9:w3.ownsRow w.heap.size 103 3 (.slice va vn vc) (Ur rows r.1 (j+1)).length (Zn (Ur rows r.1 (j+1))):=by rw [hfs];exact q
    clear hfs q rQ
    go_wp2
    go_roundw
    case rel=>exact ⟨j+1,by go_num,by omega,st9,bw⟩
    case measure=>simp [intOf];omega
   rw [if_neg hf] at hfs
   have hfn:(f != 0)=true:=by simp [hf]
   have HFS:Hid (Ur rows r.1 (j+1)=Ur rows r.1 j++[(f,k,pc)]):=hfs
   clear hfs hf
   go_wp2_with (first | refine wpList_load_mid rfl 103 _ rfl Q 0 rfl [.int .i64 f,.int .i64 k,.int .i64 pc] _ rQ Tryz.underlying103 rfl (by kernel_rfl) ?_ | (at_builtin;refine wpList_append_own_at _ rfl _ _ 28 rfl w.heap.size 103 i0 (.agg #[.int .i64 0,.int .i64 0,.int .i64 0]) 3 24 Tryz.underlying28 hi9 hz0 hz1 hz2 rfl (by decide) _ _ _ rfl (q.alloc _) ⟨w3.heap.size,0,none⟩ 1 1 [.int .i64 f,.int .i64 k,.int .i64 pc] rfl rfl (Pd (Zj _ _ _ rfl)) (Um _ _ _) ?c3 ?c4 ?c5 ?_))
   case c3=>unfold maxLen;omega
   case c4=>omega
   case c5=>have:=bw.size;simp;omega
   intro v6 w4 q6 gr _ at6
   have ha:Below w3.heap.size w3 (w3.alloc (.cells #[.int .i64 f,.int .i64 k,.int .i64 pc] 103)):=by go_grown
   have bw4:=(Zb bw ha).grown gr (Zb bw ha).size (fun q9 e=>(Yc (q.alloc (.cells #[.int .i64 f,.int .i64 k,.int .i64 pc] 103)) e).1)
   have st9:w4.ownsRow w.heap.size 103 3 v6 (Ur rows r.1 (j+1)).length (Zn (Ur rows r.1 (j+1))):=by
    rw [HFS.out,Kj,List.length_append]
    exact q6
   clear ha gr at6 q6 q bw rQ cQ HFS
   go_wp2
   go_roundw
   case rel=>exact ⟨j+1,by go_num,by omega,st9,bw4⟩
   case measure=>simp [intOf];omega
  have hge:¬ (j:Int)<(n:Int):=by omega
  obtain rfl:j=n:=by omega
  have HG:Hid (XW (.returned (.slice va vn vc)) wr w.heap.size (XL rows r.1)):=by rw [HB.out];exact ⟨_,rfl,q⟩
  clear q HB HM
  go_wp2
  go_ret
  exact ⟨HG.out,bw⟩


theorem L4 {rows:List (List I3)} {m:V4} (hp:Zf rows=true) (hs:Zc m=true):∀ x ∈ XL rows m,I3.fits x:=fun x hx=>by
 unfold XL at hx
 split at hx
 ·simp at hx;subst hx;exact Wg rfl
 obtain ⟨k,hk,hx⟩:=List.mem_flatMap.1 hx
 exact Wg (Jq hp hs (Xe hk) x hx)
theorem Ql (rows:List (List I3)) (m:V4):(XL rows m).length≤3:=by
 unfold XL
 split
 ·simp
 have h:=Qt rows m (Zm rows m 3).length
 unfold RW at h
 rw [List.take_length] at h
 have:=YM rows m 3
 omega
def WV (rows:List (List I3)) (L:List (Zz V4 × Value)) (j:Nat):List I3:=(L.take j).flatMap fun x=>XL rows x.1.1
theorem PS {rows:List (List I3)} {L:List (Zz V4 × Value)} {j:Nat} {r:Zz V4} {mv:Value} (h:L[j]?=some (r,mv)):WV rows L (j+1)=WV rows L j++XL rows r.1:=by
 unfold WV
 rw [List.take_add_one,h]
 simp
theorem MJ (rows:List (List I3)) (L:List (Zz V4 × Value)):∀ j,(WV rows L j).length≤3*j
 | 0=>by simp [WV]
 | j+1=>by
  have ih:=MJ rows L j
  cases h:L[j]? with
  | none =>
   have e:WV rows L (j+1)=WV rows L j:=by unfold WV;rw [List.take_add_one,h];simp
   rw [e]
   omega
  | some x =>
   obtain ⟨r,mv⟩:=x
   rw [PS h,List.length_append]
   have:=Ql rows r.1
   omega
theorem Fr (rows:List (List I3)) (L:List (Zz V4 × Value)):WV rows L L.length=(L.map (·.1)).flatMap fun r=>XL rows r.1:=by
 unfold WV
 rw [List.take_length,List.flatMap_map]
theorem J9 {rows:List (List I3)} {L:List (Zz V4 × Value)} (hp:Zf rows=true) (hsh:Xl (L.map (·.1))) (j:Nat):∀ x ∈ WV rows L j,I3.fits x:=fun x hx=>by
 unfold WV at hx
 obtain ⟨y,hy,hx⟩:=List.mem_flatMap.1 hx
 exact L4 hp (hsh y.1 (List.mem_map.2 ⟨y,List.mem_of_mem_take hy,rfl⟩)) x hx
theorem J5 (xs ys:List I3):Zn (xs++ys)=Zn xs++Zn ys:=by simp [Zn]
theorem KA {w:World} {B g n c:Nat} {xs:List I3} (h:w.ownsRow B 103 3 (.slice (some ⟨g,0,none⟩) n c) n (Zn xs)):∀ j u,(Zn xs)[j]?=some u→w.cell? ((⟨g,0,none⟩:Addr).add j)=some u:=by
 intro j u hj
 have hl:j<(Zn xs).length:=(List.getElem?_eq_some_iff.1 hj).1
 have h1:=h.1
 rw [Addr.add_mid,Nat.zero_add,h.cellAt j (by omega)]
 exact hj
theorem J6 (xs:List I3):∀ u ∈ Zn xs,u.oneCell'=true:=fun u hu=>by
 unfold Zn at hu
 obtain ⟨x,_,hx⟩:=List.mem_flatMap.1 hu
 simp [I3.cells] at hx
 rcases hx with rfl | rfl | rfl<;>rfl

theorem Ci {w:World} {B X nb vc:Nat} {va:Option Addr} {cs:Sl × Sl × Sl} {rows:List (List I3)} {F:List (Zz V4)} {L:List (Zz V4 × Value)} (sp:Xc w B nb (.slice va L.length vc) cs (Yv rows F) L L.length) (bx:Blk w X 84 [.slice va L.length vc,.map (some nb)]) (hp:Zf rows=true) (hsh:Xl (L.map (·.1))) (hI:∀ k,k<3→Zr w (slK cs k).1 (slK cs k).2.1 (slK cs k).2.2 (Yg rows k)) (hl:L.length≤2000) :
  Calls Tryz.prog 44 #[.pointer (some ⟨X,0,none⟩)] w fun e w'=>XW e w' w.heap.size (UU rows (L.map (·.1)))∧Below w.heap.size w w':=by
 obtain ⟨i0,hi9,hz0,hz1,hz2⟩:=info_parts Xp
 have cX0:w.cell? ⟨X,0,none⟩=some (.slice va L.length vc):=by simpa using bx.cell 0
 have HAll:Hid (UU rows (L.map (·.1))=ZK (WV rows L L.length) []):=by rw [Hid,Fr];rfl
 have st:w.ownsRow w.heap.size 103 3 (.slice none 0 0) (WV rows L 0).length (Zn (WV rows L 0)):=World.ownsRow_nil _ _ _ _
 go_enter Tryz.func44,Tryz.ntmps44
 go_wp2_with fail
 go_loopw [3,11] (fun s3 s11 wr=>∃ j:Nat,s11=.int .i64 j∧j≤L.length∧wr.ownsRow w.heap.size 103 3 s3 (WV rows L j).length (Zn (WV rows L j))∧Below w.heap.size w wr) (fun _ s11 _=>L.length - (intOf s11).toNat)
 case atStart=>exact ⟨0,rfl,Nat.zero_le _,st,Below.refl _ _⟩
 case round =>
  clear st cX0
  obtain ⟨j,rfl,hjn,q,bw⟩:=hrel
  obtain ⟨ka,kn,kc,rfl⟩:=Z9 q
  have hfl:=MJ rows L j
  by_cases hlt:j<L.length
  ·obtain ⟨r,mv,hr⟩:∃ r mv,L[j]?=some (r,mv):=⟨L[j].1,L[j].2,by rw [List.getElem?_eq_getElem hlt]⟩
   have hs:Zc r.1=true:=hsh r (List.mem_map.2 ⟨_,List.mem_of_getElem? hr,rfl⟩)
   have sp1:=sp.below bw
   have mvr:=sp1.mvs j r mv hlt hr
   obtain ⟨g,c9,e9,hg,hrg⟩:=sp1.at9 hr
   cases e9
   have hmv:=sp1.mvone hr
   have HS:Hid (WV rows L (j+1)=WV rows L j++XL rows r.1):=PS hr
   have hbl:=Ql rows r.1
   have hlt3:(j:Int)<(L.length:Int):=by omega
   have hj0:(0:Int)≤(j:Int):=by omega
   have pN:=Blk.new wr 101 [.string ⟨#[]⟩,.slice none 0 0,.int .i64 0,.int .i64 0,.int .i64 0,.slice none 0 0,.int .i64 0,.int .i64 0,.int .i64 0,.slice none 0 0,.int .i64 0,.int .i64 0,.int .i64 0,.int .i64 0,.int .i64 0,.int .i64 0,.int .i64 0,.int .i64 0,.int .i64 0,.int .i64 0,.int .i64 0,.slice none 0 0]
   have hbN:Below wr.heap.size wr (wr.alloc (.cells #[.string ⟨#[]⟩,.slice none 0 0,.int .i64 0,.int .i64 0,.int .i64 0,.slice none 0 0,.int .i64 0,.int .i64 0,.int .i64 0,.slice none 0 0,.int .i64 0,.int .i64 0,.int .i64 0,.int .i64 0,.int .i64 0,.int .i64 0,.int .i64 0,.int .i64 0,.int .i64 0,.int .i64 0,.int .i64 0,.slice none 0 0] 101)):=by go_grown
   clear sp1 hr
   go_wp2_with (first | refine wpList_load_mid rfl 101 _ rfl g (j*22) rfl (rcC cs r mv) _ hrg Tryz.underlying101 rfl (by kernel_rfl) ?_ | refine Ze rfl 101 _ _ rfl wr.heap.size (rcC cs r mv) rfl rfl pN (by kernel_rfl) rfl (Jt cs r hmv) ?_)
   intro w3 p3 g3
   have pE:=p3.out
   have b3:Below wr.heap.size wr w3:=hbN.grown g3 hbN.size (fun k e=>by cases e;exact Nat.le_refl _)
   replace bw:=Zb bw b3
   replace q:=Zs q b3
   replace mvr:=Zs mvr b3
   clear p3 g3 hbN pN b3 hrg hmv
   generalize wr.heap.size=E at *
   have kR:=Ce pE mvr hp hs (fun k hk=>(hI k hk).below bw)
   go_wp2_with fail
   refine kR.mono ?_
   rintro e w4 ⟨⟨v9,rfl,q9⟩,hb⟩
   have hw3:=bw.size
   replace bw:=Zb bw hb
   replace q:=Zs q hb
   clear hb kR pE mvr
   rcases q9.2 with ⟨hv9,h09⟩ | ⟨gq,cq,cur,hv9,_⟩
   ·subst hv9
    have hn0:XL rows r.1=[]:=List.eq_nil_of_length_eq_zero h09
    have st9:w4.ownsRow w.heap.size 103 3 (.slice ka kn kc) (WV rows L (j+1)).length (Zn (WV rows L (j+1))):=by
     rw [HS.out,hn0,List.append_nil]
     exact q
    go_wp2_with (at_builtin;refine wpList_append_own_none rfl _ _ 28 rfl w.heap.size 103 i0 3 Tryz.underlying28 hi9 (.slice ka kn kc) _ _ rfl q rfl ?_)
    clear q q9 h09 hn0 HS
    go_wp2
    go_roundw
    case rel=>exact ⟨j+1,by go_num,by omega,st9,bw⟩
    case measure=>simp [intOf];omega
   subst hv9
   have hw4:w.heap.size≤w4.heap.size:=bw.size
   have q9':w4.ownsRow w3.heap.size 103 3 (.slice (some ⟨gq,0,none⟩) (XL rows r.1).length cq) (XL rows r.1).length (Zn (XL rows r.1)):=q9
   generalize XL rows r.1=bs at *
   go_wp2_with (at_builtin;refine wpList_append_own_at _ rfl _ _ 28 rfl w.heap.size 103 i0 (.agg #[.int .i64 0,.int .i64 0,.int .i64 0]) 3 24 Tryz.underlying28 hi9 hz0 hz1 hz2 rfl (by decide) (.slice ka kn kc) _ _ rfl q ⟨gq,0,none⟩ bs.length cq (Zn bs) rfl (Zw _) (KA q9') (J6 _) (by unfold maxLen;omega) (by omega) hw4 ?_)
   intro v6 w5 q6 gr _ at6
   have bw5:=bw.grown gr bw.size (fun k e=>(Yc q e).1)
   have st9:w5.ownsRow w.heap.size 103 3 v6 (WV rows L (j+1)).length (Zn (WV rows L (j+1))):=by
    rw [HS.out,List.length_append,J5]
    exact q6
   clear q q6 q9 q9' gr at6 bw HS
   go_wp2
   go_roundw
   case rel=>exact ⟨j+1,by go_num,by omega,st9,bw5⟩
   case measure=>simp [intOf];omega
  have hge:¬ (j:Int)<(L.length:Int):=by omega
  obtain rfl:j=L.length:=by omega
  obtain ⟨fa,fc,e9,hIn,hGd⟩:=WO q (J9 hp hsh _)
  cases e9
  have kM:=TS ka (WV rows L L.length).length kc (WV rows L L.length) none 0 0 [] wr hIn ⟨rfl,Nat.le_refl _,by unfold maxLen;omega,by simp,.inl rfl⟩ (by omega) (by omega) hGd ⟨fun _=>rfl,fun x hx=>by cases hx⟩
  clear q hIn hGd
  go_wp2_with fail
  refine kM.mono ?_
  rintro e w5 ⟨⟨v5,rfl,q5⟩,hb⟩
  have hwr:=bw.size
  replace bw:=Zb bw hb
  have HG:Hid (XW (.returned v5) w5 w.heap.size (UU rows (L.map (·.1)))):=by rw [HAll.out];exact ⟨_,rfl,Xv q5 hwr⟩
  clear kM hb q5 HAll
  go_wp2
  go_ret
  exact ⟨HG.out,bw⟩
def GW (e:Ending) (w:World) (B:Nat) (xs:List I3) (c:Int):Prop:=∃ v,e=.returned (.tuple #[v,.int .i64 c])∧w.ownsRow B 103 3 v xs.length (Zn xs)
theorem Qy (a:Option Addr) (len cap:Nat) (rows:List (List I3)) (w:World) (hC:YT w a len cap rows) (hV:ZN w) (hc:PI rows=0) :
  Calls Tryz.prog 15 #[.agg #[.slice a len cap]] w fun e w'=>GW e w' w.heap.size (UU rows (ZL rows)) 0∧Below w.heap.size w w':=by
 obtain ⟨hp,hf⟩:=Qm hc
 obtain ⟨cs,hR⟩:=VE hC hp
 have kS:=fun (W:World) (b:Below w.heap.size w W) (t:S4) (h:Xd W t Zu)=>RU a len cap rows t W (hC.below b) h (hV.below b) hp hf
 have hI:∀ k,k<3→Zr w (slK cs k).1 (slK cs k).2.1 (slK cs k).2.2 (Yg rows k):=by
  obtain ⟨b,off,_,_,hk⟩:=hR
  exact fun k h3=>(hk k h3).2
 clear hc
 have fz:=(YC ZJ).1
 have kN:=YZ
 have bw:Below w.heap.size w (w.alloc (.cells #[.slice a len cap] 25)):=by go_grown
 have pP:Blk (w.alloc (.cells #[.slice a len cap] 25)) w.heap.size 25 [.slice a len cap]:=Zj _ _ _ rfl
 go_enter Tryz.func15,Tryz.ntmps15
 go_wp2_with fail
 generalize (w.alloc (.cells #[.slice a len cap] 25))=U at *
 go_cut [4,5] from 6 (fun s4 s5 W=>JJ w W cs rows (ZL rows) s4 s5)
 case first =>
  have hdr:Below U.heap.size U U.drew:=by go_grown
  refine wp_region_held_drew (S:=(fun w'=>w'.cell? ⟨w.heap.size,0,none⟩=some (.slice a len cap))) (by kernel_rfl) (by simpa using pP.cell 0) (fun hS0=>?_)
  refine tkm 0 7 (.agg #[.slice a len cap]) ?_
  have pP9:=pP.below hdr
  replace bw:=Zb bw hdr
  clear hdr
  generalize U.drew=V at *
  have bt:Below V.heap.size V V:=Below.refl _ _
  refine wpAnyH_ready (rs:=[1,6]) (by kernel_rfl) (by simp) ?_
  refine AllReadyH.cons (o:=⟨some 8,_,_,_,_,_⟩) rfl (fun K hK=>?_) (AllReadyH.cons (o:=⟨some 4,_,_,_,_,_⟩) rfl (fun K hK=>?_) AllReadyH.nil)
  focus
   go_simp
   refine (kN V).mono ?_
   rintro e V1 ⟨⟨⟨⟨t0a,t0n,t0c⟩,⟨t1a,t1n,t1c⟩,⟨t2a,t2n,t2c⟩,⟨t3a,t3n,t3c⟩⟩,rfl,hO⟩,hb1⟩
   have ut:S4.val ((t0a,t0n,t0c),(t1a,t1n,t1c),(t2a,t2n,t2c),(t3a,t3n,t3c))=.agg #[.slice t0a t0n t0c,.slice t1a t1n t1c,.slice t2a t2n t2c,.slice t3a t3n t3c]:=rfl
   rw [ut]
   have bt:=Zb bt hb1
   go_wp2_with fail
   refine hK.out _ _ (Za bt _ _ hS0) (fun hS1=>?_)
   clear hK
   try simp only [Act.put,tka,tkb,tkc]
   refine wpAnyH_ready (rs:=[2,6]) (by kernel_rfl) (by simp) ?_
   refine AllReadyH.cons (o:=⟨some 9,_,_,_,_,_⟩) rfl (fun K hK=>?_) (AllReadyH.cons (o:=⟨some 4,_,_,_,_,_⟩) rfl (fun K hK=>?_) AllReadyH.nil)
   focus
    have kx:=kS V1 (Zb bw bt) ((t0a,t0n,t0c),(t1a,t1n,t1c),(t2a,t2n,t2c),(t3a,t3n,t3c)) (hO.mem fz)
    rw [ut] at kx
    go_simp
    refine kx.mono ?_
    rintro e V2 ⟨va9,nb,cs',L,rfl,sp,hLF,hR',hb2⟩
    obtain rfl:=(hR.below (Zb bw bt)).uniq hR'
    have hBv:w.heap.size≤V1.heap.size:=Nat.le_trans bw.size bt.size
    obtain ⟨va8,vn8,vc8,hva⟩:=Z9 sp.row
    have bt:=Zb bt hb2
    go_wp2_with fail
    refine hK.out _ _ (Za bt _ _ hS0) (fun hS2=>?_)
    clear hK kx
    try simp only [Act.put,tka,tkb,tkc]
    refine tkm 3 6 (.tuple #[.agg #[va9,.map (some nb)],.int .i64 0]) ?_
    refine tkm 4 10 (.agg #[va9,.map (some nb)]) ?_
    refine tkm 5 11 (.int .i64 0) ?_
    refine tkr 6 4 (fun K hK=>?_)
    have hb3:Below V2.heap.size V2 (V2.alloc (.cells #[.slice none 0 0,.map none] 84)):=by go_grown
    have pX:Blk (V2.alloc (.cells #[.slice none 0 0,.map none] 84)) V2.heap.size 84 [.slice none 0 0,.map none]:=Zj _ _ _ rfl
    have hXB:w.heap.size≤V2.heap.size:=Nat.le_trans bw.size bt.size
    replace sp:=sp.below hb3
    have bt:=Zb bt hb3
    go_simp
    refine hK.out _ _ (Za bt _ _ hS0) (fun hS3=>?_)
    clear hK
    generalize (V2.alloc (.cells #[.slice none 0 0,.map none] 84))=V3 at *
    obtain ⟨X,hX⟩:∃ X,X=V2.heap.size:=⟨_,rfl⟩
    rw [← hX] at pX hXB ⊢
    clear hX
    try simp only [Act.put,tka,tkb,tkc]
   rotate_left
   focus
    have hb3:Below V1.heap.size V1 (V1.alloc (.cells #[.slice none 0 0,.map none] 84)):=by go_grown
    have pX:Blk (V1.alloc (.cells #[.slice none 0 0,.map none] 84)) V1.heap.size 84 [.slice none 0 0,.map none]:=Zj _ _ _ rfl
    have hXB:w.heap.size≤V1.heap.size:=Nat.le_trans bw.size bt.size
    replace hO:=hO.below hb3
    have bt:=Zb bt hb3
    go_simp
    refine hK.out _ _ (Za bt _ _ hS0) (fun hS3=>?_)
    clear hK
    generalize (V1.alloc (.cells #[.slice none 0 0,.map none] 84))=V2 at *
    obtain ⟨X,hX⟩:∃ X,X=V1.heap.size:=⟨_,rfl⟩
    rw [← hX] at pX hXB ⊢
    clear hX
    try simp only [Act.put,tka,tkb,tkc]
    refine tkr 2 9 (fun K hK=>?_)
    have kx:=kS V2 (Zb bw bt) ((t0a,t0n,t0c),(t1a,t1n,t1c),(t2a,t2n,t2c),(t3a,t3n,t3c)) (hO.mem fz)
    rw [ut] at kx
    go_simp
    refine kx.mono ?_
    rintro e V3 ⟨va9,nb,cs',L,rfl,sp,hLF,hR',hb2⟩
    obtain rfl:=(hR.below (Zb bw bt)).uniq hR'
    have hBv:w.heap.size≤V2.heap.size:=Nat.le_trans bw.size bt.size
    obtain ⟨va8,vn8,vc8,hva⟩:=Z9 sp.row
    replace pX:=pX.below hb2
    have bt:=Zb bt hb2
    go_wp2_with fail
    refine hK.out _ _ (Za bt _ _ hS0) (fun hS2=>?_)
    clear hK kx
    try simp only [Act.put,tka,tkb,tkc]
    refine tkm 3 6 (.tuple #[.agg #[va9,.map (some nb)],.int .i64 0]) ?_
    refine tkm 4 10 (.agg #[va9,.map (some nb)]) ?_
    refine tkm 5 11 (.int .i64 0) ?_
  rotate_left 2
  focus
   have hb3:Below V.heap.size V (V.alloc (.cells #[.slice none 0 0,.map none] 84)):=by go_grown
   have pX:Blk (V.alloc (.cells #[.slice none 0 0,.map none] 84)) V.heap.size 84 [.slice none 0 0,.map none]:=Zj _ _ _ rfl
   have hXB:w.heap.size≤V.heap.size:=Nat.le_trans bw.size bt.size
   have bt:=Zb bt hb3
   go_simp
   refine hK.out _ _ (Za bt _ _ hS0) (fun hS3=>?_)
   clear hK
   generalize (V.alloc (.cells #[.slice none 0 0,.map none] 84))=V1 at *
   obtain ⟨X,hX⟩:∃ X,X=V.heap.size:=⟨_,rfl⟩
   rw [← hX] at pX hXB ⊢
   clear hX
   try simp only [Act.put,tka,tkb,tkc]
   refine tkr 1 8 (fun K hK=>?_)
   go_simp
   refine (kN V1).mono ?_
   rintro e V2 ⟨⟨⟨⟨t0a,t0n,t0c⟩,⟨t1a,t1n,t1c⟩,⟨t2a,t2n,t2c⟩,⟨t3a,t3n,t3c⟩⟩,rfl,hO⟩,hb1⟩
   have ut:S4.val ((t0a,t0n,t0c),(t1a,t1n,t1c),(t2a,t2n,t2c),(t3a,t3n,t3c))=.agg #[.slice t0a t0n t0c,.slice t1a t1n t1c,.slice t2a t2n t2c,.slice t3a t3n t3c]:=rfl
   rw [ut]
   have bt:=Zb bt hb1
   go_wp2_with fail
   refine hK.out _ _ (Za bt _ _ hS0) (fun hS1=>?_)
   clear hK
   try simp only [Act.put,tka,tkb,tkc]
   replace pX:=pX.below hb1
   refine tkr 2 9 (fun K hK=>?_)
   have kx:=kS V2 (Zb bw bt) ((t0a,t0n,t0c),(t1a,t1n,t1c),(t2a,t2n,t2c),(t3a,t3n,t3c)) (hO.mem fz)
   rw [ut] at kx
   go_simp
   refine kx.mono ?_
   rintro e V3 ⟨va9,nb,cs',L,rfl,sp,hLF,hR',hb2⟩
   obtain rfl:=(hR.below (Zb bw bt)).uniq hR'
   have hBv:w.heap.size≤V2.heap.size:=Nat.le_trans bw.size bt.size
   obtain ⟨va8,vn8,vc8,hva⟩:=Z9 sp.row
   replace pX:=pX.below hb2
   have bt:=Zb bt hb2
   go_wp2_with fail
   refine hK.out _ _ (Za bt _ _ hS0) (fun hS2=>?_)
   clear hK kx
   try simp only [Act.put,tka,tkb,tkc]
   refine tkm 3 6 (.tuple #[.agg #[va9,.map (some nb)],.int .i64 0]) ?_
   refine tkm 4 10 (.agg #[va9,.map (some nb)]) ?_
   refine tkm 5 11 (.int .i64 0) ?_
  all_goals
   subst hva
   refine tkz 7 (fun K hK=>?_)
   refine WX rfl 84 _ _ rfl X [.slice va8 vn8 vc8,.map (some nb)] rfl rfl pX (by kernel_rfl) rfl rfl ?_
   intro V9 pX9 g9
   have bz:=(Zb bw bt).grown g9 (Zb bw bt).size (fun q e=>by cases e;exact hXB)
   replace sp:=sp.grown g9 pX (by decide) (by decide)
   have hXP:X≠w.heap.size:=Z8 pX (pP9.below bt) (by decide)
   have c9:=Za bt _ _ hS0
   refine hK.out _ _ (Zg g9 c9 (by simp;omega)) (fun hS4=>?_)
   clear hK
   try simp only [Act.put,tka,tkb,tkc]
   refine tkm 8 5 (.int .i64 0) ?_
   refine wpAnyH_done (by kernel_rfl) ?_ _
   go_wp2_with fail
   go_meet
   case rel=>exact JJ.mk9 (va:=.slice none 0 0) rfl rfl pX9.out sp hLF hXB hBv bz
 obtain ⟨X,va,vc,nb,L,rfl,rfl,pX,sp,hLF,hXB,bz⟩:=hcut
 clear kS kN bw pP fz
 have hl2:L.length≤2000:=by
  have e:(L.map (·.1)).length=L.length:=by simp
  rw [hLF] at e
  omega
 have kB:=Ci sp pX hp (by rw [hLF];exact Su hp) (fun k hk=>(hI k hk).below bz) hl2
 rw [hLF] at kB
 clear sp pX hLF hXB
 go_wp2_with fail
 refine kB.mono ?_
 rintro e w7 ⟨⟨v7,rfl,q7⟩,hb⟩
 have hwc:=bz.size
 replace bz:=Zb bz hb
 have HG:Hid (GW (.returned (.tuple #[v7,.int .i64 0])) w7 w.heap.size (UU rows (ZL rows)) 0):=⟨_,rfl,Xv q7 hwc⟩
 clear q7 hb kB
 go_wp2
 refine bodyPost_ret (by simp [results,Tryz.results15,go_sem];try rfl) rfl ?_
 exact ⟨HG.out,bz⟩


def VH (rows:List (List I3)) (m:V4) (j:Nat):List I3:=((Zm rows m 3).take j).foldl (fun out k=>ZK out (Xx rows m k)) (ZC rows m)
theorem Gb (rows:List (List I3)) (m:V4):VH rows m 0=ZC rows m:=rfl
theorem P7 {rows:List (List I3)} {m:V4} {j:Nat} {k:Int} (h:(Zm rows m 3)[j]?=some k):VH rows m (j+1)=ZK (VH rows m j) (Xx rows m k):=by
 unfold VH
 rw [List.take_add_one,h]
 simp [List.foldl_append]
theorem M9 {rows:List (List I3)} {m:V4} {j:Nat} (h:(Zm rows m 3).length≤j):VH rows m j=ZB rows m:=by
 unfold VH ZB
 rw [List.take_of_length_le h]
theorem DI (rows:List (List I3)) (m:V4):(∀ x ∈ ZC rows m,okB x=true)∧(ZC rows m).length≤1:=by
 unfold ZC
 split
 ·exact ⟨fun x hx=>by simp at hx;subst hx;rfl,by simp⟩
 exact ⟨fun x hx=>by simp at hx,by simp⟩
theorem Md {rows:List (List I3)} {m:V4} (hp:Zf rows=true) (hs:Zc m=true):∀ j,(∀ x ∈ VH rows m j,okB x=true)∧(VH rows m j).length≤1+2*j
 | 0=>by rw [Gb];exact DI rows m
 | j+1=>by
  have ih:=Md hp hs j
  cases h:(Zm rows m 3)[j]? with
  | none =>
   have e:VH rows m (j+1)=VH rows m j:=by unfold VH;rw [List.take_add_one,h];simp
   rw [e]
   exact ⟨ih.1,by omega⟩
  | some k =>
   have hf:=PW hp hs (Xe (List.mem_of_getElem? h))
   rw [P7 h]
   exact ⟨Gh ih.1 hf.1,by have:=Ky (VH rows m j) (Xx rows m k);have:=hf.2;omega⟩
theorem DV {rows:List (List I3)} {m:V4} (hp:Zf rows=true) (hs:Zc m=true):(∀ x ∈ ZB rows m,okB x=true)∧(ZB rows m).length≤7:=by
 have h:=Md hp hs (Zm rows m 3).length
 rw [M9 (Nat.le_refl _)] at h
 have:=YM rows m 3
 exact ⟨h.1,by omega⟩
theorem M2 {w:World} {a:Option Addr} {cap:Nat} {cs:Sl × Sl × Sl} {rows:List (List I3)} {s:S4} {m:V4} (hR:Yi w a cs rows) (h:Xd w s m) (hp:Zf rows=true) (hs:Zc m=true) :
  Calls Tryz.prog 117 #[.agg #[.slice a 3 cap],s.val] w fun e w'=>XW e w' w.heap.size (ZB rows m)∧Below w.heap.size w w':=by
 obtain ⟨i0,hi9,hz0,hz1,hz2⟩:=info_parts Xp
 obtain ⟨⟨t0a,t0n,t0c⟩,⟨t1a,t1n,t1c⟩,⟨t2a,t2n,t2c⟩,⟨t3a,t3n,t3c⟩⟩:=s
 have ut:S4.val ((t0a,t0n,t0c),(t1a,t1n,t1c),(t2a,t2n,t2c),(t3a,t3n,t3c))=.agg #[.slice t0a t0n t0c,.slice t1a t1n t1c,.slice t2a t2n t2c,.slice t3a t3n t3c]:=rfl
 have kU:=fun (W:World) (b:Below w.heap.size w W)=>RJ a 3 cap rows ((t0a,t0n,t0c),(t1a,t1n,t1c),(t2a,t2n,t2c),(t3a,t3n,t3c)) m cs W rfl (hR.below b) (h.below b) hp hs
 have kE:=fun (W:World) (b:Below w.heap.size w W)=>VV a 3 cap rows ((t0a,t0n,t0c),(t1a,t1n,t1c),(t2a,t2n,t2c),(t3a,t3n,t3c)) m cs W rfl (hR.below b) (h.below b) hp hs
 rw [ut] at kU kE ⊢
 have bw:Below w.heap.size w (((w.alloc (.cells #[.slice a 3 cap] 25)).alloc (.cells #[.slice t0a t0n t0c,.slice t1a t1n t1c,.slice t2a t2n t2c,.slice t3a t3n t3c] 88)).alloc (.cells #[] 103)):=by go_grown
 have pP:Blk (((w.alloc (.cells #[.slice a 3 cap] 25)).alloc (.cells #[.slice t0a t0n t0c,.slice t1a t1n t1c,.slice t2a t2n t2c,.slice t3a t3n t3c] 88)).alloc (.cells #[] 103)) w.heap.size 25 [.slice a 3 cap]:=Zl _ (Zl _ (Zj _ _ _ rfl))
 have pS:Blk (((w.alloc (.cells #[.slice a 3 cap] 25)).alloc (.cells #[.slice t0a t0n t0c,.slice t1a t1n t1c,.slice t2a t2n t2c,.slice t3a t3n t3c] 88)).alloc (.cells #[] 103)) (w.heap.size+1) 88 [.slice t0a t0n t0c,.slice t1a t1n t1c,.slice t2a t2n t2c,.slice t3a t3n t3c]:=Zl _ (Zj _ _ _ (by simp))
 have q:(((w.alloc (.cells #[.slice a 3 cap] 25)).alloc (.cells #[.slice t0a t0n t0c,.slice t1a t1n t1c,.slice t2a t2n t2c,.slice t3a t3n t3c] 88)).alloc (.cells #[] 103)).ownsRow w.heap.size 103 3 (.slice (some ⟨w.heap.size+1+1,0,none⟩) 0 0) 0 []:=by
  have h9:=Y4 ((w.alloc (.cells #[.slice a 3 cap] 25)).alloc (.cells #[.slice t0a t0n t0c,.slice t1a t1n t1c,.slice t2a t2n t2c,.slice t3a t3n t3c] 88)) 103 3 w.heap.size (by simp;omega)
  simpa using h9
 obtain ⟨g0,hg0⟩:∃ g0,g0=w.heap.size+1+1:=⟨_,rfl⟩
 go_enter Tryz.func117,Tryz.ntmps117
 go_wp2_with fail
 rw [← hg0] at q ⊢
 clear hg0
 generalize ((w.alloc (.cells #[.slice a 3 cap] 25)).alloc (.cells #[.slice t0a t0n t0c,.slice t1a t1n t1c,.slice t2a t2n t2c,.slice t3a t3n t3c] 88)).alloc (.cells #[] 103)=U at *
 have kUx:=kU U bw
 clear kU
 go_wp2_with (first | refine Zd rfl 25 _ rfl w.heap.size rfl pP _ Tryz.underlying25 rfl (by kernel_rfl) ?_ | refine Zd rfl 88 _ rfl (w.heap.size+1) rfl pS _ Tryz.underlying88 rfl (by kernel_rfl) ?_)
 refine kUx.mono ?_
 rintro e w1 ⟨rfl,hb⟩
 replace bw:=Zb bw hb
 replace pP:=pP.below hb
 replace pS:=pS.below hb
 replace q:=Zs q hb
 clear hb kUx
 have key:∀ (W:World) (v:Value),Hid (W.ownsRow w.heap.size 103 3 v (ZC rows m).length (Zn (ZC rows m)))→Hid (W.ownsRow w.heap.size 103 3 v (VH rows m 0).length (Zn (VH rows m 0))):=fun W v h=>h
 cases hst:YS rows m
 focus
  have HQ:Hid (w1.ownsRow w.heap.size 103 3 (.slice (some ⟨g0,0,none⟩) 0 0) (ZC rows m).length (Zn (ZC rows m))):=by
   unfold ZC
   rw [hst]
   exact q
  clear q hst
  have kEx:=kE w1 bw
 rotate_left
 focus
  have HD:Hid (ZC rows m=[(14,0,0)]):=by rw [Hid];unfold ZC;rw [hst];rfl
  clear hst
  go_wp2_with (at_builtin;refine wpList_append_own_at _ rfl _ _ 28 rfl w.heap.size 103 i0 (.agg #[.int .i64 0,.int .i64 0,.int .i64 0]) 3 24 Tryz.underlying28 hi9 hz0 hz1 hz2 rfl (by decide) _ _ _ rfl (q.alloc _) ⟨w1.heap.size,0,none⟩ 1 1 [.int .i64 14,.int .i64 0,.int .i64 0] rfl rfl (Pd (Zj _ _ _ rfl)) (Um _ _ _) ?c3 ?c4 ?c5 ?_)
  case c3=>unfold maxLen;omega
  case c4=>omega
  case c5=>have:=bw.size;simp;omega
  intro v6 w4 q6 gr _ at6
  have ha:Below w1.heap.size w1 (w1.alloc (.cells #[.int .i64 14,.int .i64 0,.int .i64 0] 103)):=by go_grown
  replace pP:=(pP.below ha).kept gr (Zk (q.alloc _) (pP.below ha) (by decide))
  replace pS:=(pS.below ha).kept gr (Zk (q.alloc _) (pS.below ha) (by decide))
  replace bw:=(Zb bw ha).grown gr (Zb bw ha).size (fun k e=>(Yc (q.alloc (.cells #[.int .i64 14,.int .i64 0,.int .i64 0] 103)) e).1)
  have HQ:Hid (w4.ownsRow w.heap.size 103 3 v6 (ZC rows m).length (Zn (ZC rows m))):=by
   rw [HD.out]
   exact q6
  clear q q6 gr at6 ha HD
  have kEx:=kE w4 bw
 all_goals
  clear kE
  go_wp2_with (first | refine Zd rfl 25 _ rfl w.heap.size rfl pP _ Tryz.underlying25 rfl (by kernel_rfl) ?_ | refine Zd rfl 88 _ rfl (w.heap.size+1) rfl pS _ Tryz.underlying88 rfl (by kernel_rfl) ?_)
  refine kEx.mono ?_
  rintro e w6 ⟨⟨⟨la,ln,lc⟩,rfl,hL⟩,hb⟩
  replace bw:=Zb bw hb
  replace pP:=pP.below hb
  replace pS:=pS.below hb
  have HQ2:=key w6 _ (Zs HQ.out hb)
  clear hb kEx HQ key
  have hLn:(Zm rows m 3).length=ln:=by have:=hL.1;simpa using this
  have hl3:=YM rows m 3
  go_wp2_with fail
  go_loopw [5,7] (fun s5 s7 wr=>∃ j:Nat,s7=.int .i64 j∧j≤ln∧Hid (wr.ownsRow w.heap.size 103 3 s5 (VH rows m j).length (Zn (VH rows m j)))∧Below w6.heap.size w6 wr) (fun _ s7 _=>ln - (intOf s7).toNat)
  case atStart=>exact ⟨0,rfl,Nat.zero_le _,HQ2,Below.refl _ _⟩
  case round =>
   clear HQ2
   obtain ⟨j,rfl,hjn,HQ,bq⟩:=hrel
   have q:=HQ.out
   obtain ⟨va,vn,vc,rfl⟩:=Z9 q
   obtain ⟨hlo,hll⟩:=Md hp hs j
   replace bw:=Zb bw bq
   replace pP:=pP.below bq
   replace pS:=pS.below bq
   replace hL:=hL.below bq
   clear HQ
   by_cases hlt2:j<ln
   ·have hkj:(Zm rows m 3)[j]?=some ((Zm rows m 3).getD j 0):=by rw [List.getD,List.getElem?_eq_getElem (by omega)];rfl
    have hz:=Xe (List.mem_of_getElem? hkj)
    obtain ⟨h0k,h2k,hd9,_⟩:=XB hz
    obtain ⟨k,hk⟩:∃ k:Nat,(Zm rows m 3).getD j 0=(k:Int):=⟨_,(Int.toNat_of_nonneg h0k).symm⟩
    obtain ⟨lb,lo,rfl,hc,hlb⟩:=Uv hL.ints (show j<ln from hlt2)
    rw [hk] at hkj hz hd9 h0k h2k hc
    rw [Int.toNat_natCast] at hd9
    have hk3:k<3:=by omega
    clear hk hlb
    have hfo:=PW hp hs hz
    have HLS:Hid (VH rows m (j+1)=ZK (VH rows m j) (Xx rows m (k:Int))):=P7 hkj
    have kP:=fun (W:World) (b:Below w.heap.size w W)=>M1 (cap:=cap) (hR.below b) (h.below b) hp hs hk3 hd9
    rw [ut] at kP
    generalize (goM rows m (k:Int)).1=z at *
    generalize Xx rows m (k:Int)=fs at *
    have hlt3:(j:Int)<(ln:Int):=by omega
    have hj0:(0:Int)≤(j:Int):=by omega
    clear hkj hz hd9
    go_wp2_with fail
    have hb9:Below wr.heap.size wr wr.drew:=by go_grown
    refine wp_region_held_drew (S:=(fun w'=>w'.cell? ⟨w.heap.size,0,none⟩=some (.slice a 3 cap)∧w'.cell? ⟨w.heap.size+1,0,none⟩=some (.slice t0a t0n t0c)∧w'.cell? ⟨w.heap.size+1,1,none⟩=some (.slice t1a t1n t1c)∧w'.cell? ⟨w.heap.size+1,2,none⟩=some (.slice t2a t2n t2c)∧w'.cell? ⟨w.heap.size+1,3,none⟩=some (.slice t3a t3n t3c)∧w'.cell? ⟨lb,lo+j,none⟩=some (.int .i64 (k:Int)))) (by kernel_rfl) ⟨by simpa using pP.cell 0,by simpa using pS.cell 0,by simpa using pS.cell 1,by simpa using pS.cell 2,by simpa using pS.cell 3,hc⟩ (fun hS0=>?_)
    refine tkm 0 28 (.agg #[.slice a 3 cap]) ?_
    refine tkm 1 29 (.agg #[.slice t0a t0n t0c,.slice t1a t1n t1c,.slice t2a t2n t2c,.slice t3a t3n t3c]) ?_
    refine tkm 2 30 (.slice (some ⟨lb,lo,none⟩) ln lc) ?_
    refine tkm 3 31 (.int .i64 (j:Int)) ?_
    refine tkm 4 32 (.pointer (some ⟨lb,lo+j,none⟩)) ?_
    refine tkm 5 33 (.int .i64 (k:Int)) ?_
    replace bw:=Zb bw hb9
    replace bq:=Zb bq hb9
    replace q:=Zs q hb9
    clear hb9
    generalize wr.drew=V at *
    refine wpAnyH_ready (rs:=[6,10]) (by kernel_rfl) (by simp) ?_
    refine AllReadyH.cons (o:=⟨some 34,_,_,_,_,_⟩) rfl (fun K hK=>?_) (AllReadyH.cons (o:=⟨some 8,_,_,_,_,_⟩) rfl (fun K hK=>?_) AllReadyH.nil)
    focus
     have kPx:=kP V bw
     go_simp
     refine kPx.mono ?_
     rintro e V1 ⟨⟨⟨⟨z0a,z0n,z0c⟩,⟨z1a,z1n,z1c⟩,⟨z2a,z2n,z2c⟩,⟨z3a,z3n,z3c⟩⟩,v9,rfl,hO2,qf⟩,hb1⟩
     have uz:S4.val ((z0a,z0n,z0c),(z1a,z1n,z1c),(z2a,z2n,z2c),(z3a,z3n,z3c))=.agg #[.slice z0a z0n z0c,.slice z1a z1n z1c,.slice z2a z2n z2c,.slice z3a z3n z3c]:=rfl
     rw [uz]
     clear uz
     obtain ⟨fa,fc,rfl,hI9,hGd9⟩:=WO qf (fun x hx=>Wg (hfo.1 x hx))
     clear hGd9 hO2 hI9
     go_wp2_with fail
     refine hK.out _ _ ⟨Za hb1 _ _ hS0.1,Za hb1 _ _ hS0.2.1,Za hb1 _ _ hS0.2.2.1,Za hb1 _ _ hS0.2.2.2.1,Za hb1 _ _ hS0.2.2.2.2.1,Za hb1 _ _ hS0.2.2.2.2.2⟩ (fun hS5=>?_)
     clear hK kPx
     try simp only [Act.put,tka,tkb,tkc]
     refine tkm 7 27 (.tuple #[.agg #[.slice z0a z0n z0c,.slice z1a z1n z1c,.slice z2a z2n z2c,.slice z3a z3n z3c],.slice fa fs.length fc]) ?_
     refine tkm 8 35 (.agg #[.slice z0a z0n z0c,.slice z1a z1n z1c,.slice z2a z2n z2c,.slice z3a z3n z3c]) ?_
     refine tkm 9 36 (.slice fa fs.length fc) ?_
     refine tkr 10 8 (fun K hK=>?_)
     have hb2:Below V1.heap.size V1 (V1.alloc (.cells #[.slice none 0 0,.slice none 0 0,.slice none 0 0,.slice none 0 0] 88)):=by go_grown
     have pX:Blk (V1.alloc (.cells #[.slice none 0 0,.slice none 0 0,.slice none 0 0,.slice none 0 0] 88)) V1.heap.size 88 [.slice none 0 0,.slice none 0 0,.slice none 0 0,.slice none 0 0]:=Zj _ _ _ rfl
     replace qf:=Zs qf hb2
     have hbA:=Zb hb1 hb2
     have hYV:V.heap.size≤V1.heap.size:=hb1.size
     go_simp
     refine hK.out _ _ ⟨Za hbA _ _ hS0.1,Za hbA _ _ hS0.2.1,Za hbA _ _ hS0.2.2.1,Za hbA _ _ hS0.2.2.2.1,Za hbA _ _ hS0.2.2.2.2.1,Za hbA _ _ hS0.2.2.2.2.2⟩ (fun hS6=>?_)
     clear hK hb1 hb2
     generalize (V1.alloc (.cells #[.slice none 0 0,.slice none 0 0,.slice none 0 0,.slice none 0 0] 88))=V2 at *
     generalize V1.heap.size=Y at *
     try simp only [Act.put,tka,tkb,tkc]
    rotate_left
    focus
     have hb1:Below V.heap.size V (V.alloc (.cells #[.slice none 0 0,.slice none 0 0,.slice none 0 0,.slice none 0 0] 88)):=by go_grown
     have pX:Blk (V.alloc (.cells #[.slice none 0 0,.slice none 0 0,.slice none 0 0,.slice none 0 0] 88)) V.heap.size 88 [.slice none 0 0,.slice none 0 0,.slice none 0 0,.slice none 0 0]:=Zj _ _ _ rfl
     have hYV:V.heap.size≤V.heap.size:=Nat.le_refl _
     go_simp
     refine hK.out _ _ ⟨Za hb1 _ _ hS0.1,Za hb1 _ _ hS0.2.1,Za hb1 _ _ hS0.2.2.1,Za hb1 _ _ hS0.2.2.2.1,Za hb1 _ _ hS0.2.2.2.2.1,Za hb1 _ _ hS0.2.2.2.2.2⟩ (fun hS6=>?_)
     clear hK
     have kPx:=kP _ (Zb bw hb1)
     generalize (V.alloc (.cells #[.slice none 0 0,.slice none 0 0,.slice none 0 0,.slice none 0 0] 88))=V2 at *
     obtain ⟨Y,hY⟩:∃ Y,Y=V.heap.size:=⟨_,rfl⟩
     rw [← hY] at pX hYV ⊢
     replace hYV:V.heap.size≤Y:=by omega
     clear hY
     try simp only [Act.put,tka,tkb,tkc]
     refine tkr 6 34 (fun K hK=>?_)
     go_simp
     refine kPx.mono ?_
     rintro e V3 ⟨⟨⟨⟨z0a,z0n,z0c⟩,⟨z1a,z1n,z1c⟩,⟨z2a,z2n,z2c⟩,⟨z3a,z3n,z3c⟩⟩,v9,rfl,hO2,qf⟩,hb2⟩
     have uz:S4.val ((z0a,z0n,z0c),(z1a,z1n,z1c),(z2a,z2n,z2c),(z3a,z3n,z3c))=.agg #[.slice z0a z0n z0c,.slice z1a z1n z1c,.slice z2a z2n z2c,.slice z3a z3n z3c]:=rfl
     rw [uz]
     clear uz
     obtain ⟨fa,fc,rfl,hI9,hGd9⟩:=WO qf (fun x hx=>Wg (hfo.1 x hx))
     clear hGd9 hO2 hI9
     go_wp2_with fail
     have hbA:=Zb hb1 hb2
     replace pX:=pX.below hb2
     refine hK.out _ _ ⟨Za hbA _ _ hS0.1,Za hbA _ _ hS0.2.1,Za hbA _ _ hS0.2.2.1,Za hbA _ _ hS0.2.2.2.1,Za hbA _ _ hS0.2.2.2.2.1,Za hbA _ _ hS0.2.2.2.2.2⟩ (fun hS5=>?_)
     clear hK kPx hb1 hb2
     try simp only [Act.put,tka,tkb,tkc]
     refine tkm 7 27 (.tuple #[.agg #[.slice z0a z0n z0c,.slice z1a z1n z1c,.slice z2a z2n z2c,.slice z3a z3n z3c],.slice fa fs.length fc]) ?_
     refine tkm 8 35 (.agg #[.slice z0a z0n z0c,.slice z1a z1n z1c,.slice z2a z2n z2c,.slice z3a z3n z3c]) ?_
     refine tkm 9 36 (.slice fa fs.length fc) ?_
    all_goals
     refine tkz 11 (fun K hK=>?_)
     refine WX rfl 88 _ _ rfl Y [.slice z0a z0n z0c,.slice z1a z1n z1c,.slice z2a z2n z2c,.slice z3a z3n z3c] rfl rfl pX (by kernel_rfl) rfl rfl ?_
     intro V8 pX8 g8
     have hbig:=hbA.grown g8 hbA.size (fun q hq=>by cases hq;exact hYV)
     replace qf:=qf.kept g8 (TU qf pX (by decide))
     obtain ⟨fa9,fc9,ef9,hI8,hGd8⟩:=WO qf (fun x hx=>Wg (hfo.1 x hx))
     cases ef9
     clear hGd8 qf
     refine hK.out _ _ ⟨Za hbig _ _ hS0.1,Za hbig _ _ hS0.2.1,Za hbig _ _ hS0.2.2.1,Za hbig _ _ hS0.2.2.2.1,Za hbig _ _ hS0.2.2.2.2.1,Za hbig _ _ hS0.2.2.2.2.2⟩ (fun hS7=>?_)
     clear hK pX g8 hbA hYV pX8
     try simp only [Act.put,tka,tkb,tkc]
     refine tkm 12 9 (.slice fa fs.length fc) ?_
     refine wpAnyH_done (by kernel_rfl) ?_ _
     replace bw:=Zb bw hbig
     replace bq:=Zb bq hbig
     replace q:=Zs q hbig
     clear hbig hS0 hS5 hS6 hS7 pP pS kP hc hL
     obtain ⟨va9,vc9,ev9,hIv,hGv⟩:=WO q (fun x hx=>Wg (hlo x hx))
     cases ev9
     have kM:=RK va (VH rows m j).length vc (VH rows m j) fa fs.length fc fs V8 hIv hI8 (by omega) (by have:=hfo.2;omega)
     clear hIv hGv hI8 q
     go_wp2_with fail
     refine kM.mono ?_
     rintro e V10 ⟨⟨v6,rfl,q6⟩,hb⟩
     have hV8:=bw.size
     have HQ9:Hid (V10.ownsRow w.heap.size 103 3 v6 (VH rows m (j+1)).length (Zn (VH rows m (j+1)))):=by rw [HLS.out];exact Xv q6 hV8
     have bq9:=Zb bq hb
     clear hb q6 kM HLS bq bw
     go_wp2
     go_roundw
     case rel=>exact ⟨j+1,by go_num,by omega,HQ9,bq9⟩
     case measure=>simp [intOf];omega
   have hge2:¬ (j:Int)<(ln:Int):=by omega
   have HG:Hid (XW (.returned (.slice va vn vc)) wr w.heap.size (ZB rows m)):=by
    rw [← M9 (j:=j) (by omega)]
    exact ⟨_,rfl,q⟩
   clear q hL pP pS
   go_wp2
   go_ret
   exact ⟨HG.out,bw⟩
end Go.Proofs.YtgmhhegckcionaaGreatDoor
