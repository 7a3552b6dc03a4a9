/-
  Joined: Put.
-/
import Derived.Deep.RegionLaw
import Derived.Laws.OwnMore
import Derived.Maps.AppendAt
import Derived.Deep.Cut
import Derived.Test.YtgmhhegckcionaaGreatDoorF03
import Derived.Test.YtgmhhegckcionaaGreatDoorF19

namespace Go.Proofs.YtgmhhegckcionaaGreatDoor
set_option maxRecDepth 100000
set_option maxHeartbeats 16000000
open Go.RowKit
set_option linter.unusedVariables false
set_option linter.unusedSimpArgs false

theorem Zg {w w':World} {row:Option Nat} (g:w.grownBy w' row) {p:Addr} {v:Value} (hc:w.cell? p=some v) (hne:some p.block≠row):w'.cell? p=some v:=by
 have hl:=World.block_lt_of_cell? _ _ hc
 rw [← hc]
 unfold World.cell?
 rw [g.block p.block hl hne]
theorem ZV {P:Program} {ops:Array Oper} {o:Oper} {a:Act} {w:World} {K:Act→World→Prop} {Q:Exit→Act→World→Prop} {E:Prop}
  (hg:o.guard=none) (s x:Operand) (t:TypeId) (hop:o.op=Op.call { callee:=Callee.builtin Builtin.append,args:=#[s,x],argTypes:=#[t,t] })
  (base:Nat) (e:TypeId) (i:TypeInfo) (z:Value) (size bytes:Nat) (h1:P.underlying t=some (.slice e)) (h2:P.info? e=some i) (h3:i.zero=some z) (h4:i.size=size) (h5:i.bytes=bytes) (h6:z.cells.size=size) (h7:0<size)
  (v:Value) (n:Nat) (olds:List Value) (hs:a.eval s=v) (hown:w.ownsRow base e size v n olds)
  (ad:Addr) (m c:Nat) (news:List Value) (hx:a.eval x=.slice (some ad) m c) (hn:news.length=m*size) (hc:∀ j u,news[j]?=some u→w.cell? (ad.add j)=some u) (h1c:∀ u ∈ news,u.oneCell'=true)
  (b1:n+m≤maxLen) (b2:(n+m)*bytes≤140737488355328) (hbw:base≤w.heap.size)
  (hK:∀ v' w',w'.ownsRow base e size v' (n+m) (olds++news)→w.grownBy w' v.ownBlock→(v'.ownBlock=v.ownBlock∨v'.ownBlock=some w.heap.size)→K (a.put o.dst v') w') :
  if Region.wanted o (yielded ops a.tmps)=true then Oper.wp P o a w K Q else E:=by
 have hw:Region.wanted o (yielded ops a.tmps)=true:=by simp [Region.wanted,hg]
 rw [if_pos hw]
 obtain ⟨v',w',hrun,r1,r2,_,r4⟩:=run_append_own_at (P:=P) (w:=w) base t o.type e i z size bytes h1 h2 h3 h4 h5 h6 h7 v n olds hown ad m c news hn hc h1c b1 b2 hbw
 subst hs
 unfold Oper.wp
 simp [execOp,hop,resolve,invoke,builtin,hx,hrun,Result.andThen]
 exact hK v' w' r1 r2 r4
theorem Y4 (w:World) (t s B:Nat) (hB:B≤w.heap.size):(w.alloc (.cells #[] t)).ownsRow B t s (.slice (some ⟨w.heap.size,0,none⟩) 0 0) 0 []:=World.ownsRow_lit w #[] 0 hB (by unfold maxLen;omega) (by simp)
theorem Xn {w:World} {B B' e s n:Nat} {v:Value} {cs:List Value} (h:w.ownsRow B e s v n cs) (hB:B'≤B):w.ownsRow B' e s v n cs:=by
 refine ⟨h.1,?_⟩
 rcases h.2 with h0 | ⟨g,cap,cur,hv,hg,rest⟩
 ·exact .inl h0
 exact .inr ⟨g,cap,cur,hv,by omega,rest⟩
theorem LL {w:World} {G:Nat} {a b c:Value} (h0:w.cell? ⟨G,0,none⟩=some a) (h1:w.cell? ⟨G,1,none⟩=some b) (h2:w.cell? ⟨G,2,none⟩=some c):∀ j u,[a,b,c][j]?=some u→w.cell? ((⟨G,0,none⟩:Addr).add j)=some u:=by
 intro j u hj
 match j,hj with
 | 0,hj=>simp at hj;subst hj;simpa [Addr.add] using h0
 | 1,hj=>simp at hj;subst hj;simpa [Addr.add] using h1
 | 2,hj=>simp at hj;subst hj;simpa [Addr.add] using h2
 | (j+3),hj=>simp at hj
theorem Um (a b c:Int):∀ u ∈ [Value.int .i64 a,Value.int .i64 b,Value.int .i64 c],u.oneCell'=true:=by
 intro u hu
 simp at hu
 rcases hu with rfl | rfl | rfl<;>rfl
theorem WF {w:World} {B e s n:Nat} {v:Value} {cs:List Value} (h:w.ownsRow B e s v n cs) (hn:0<n):∃ g c,v=.slice (some ⟨g,0,none⟩) n c:=by
 rcases h.2 with ⟨rfl,h0⟩ | ⟨g,cap,cur,hv,_⟩
 ·omega
 exact ⟨g,cap,hv⟩
theorem TG (b off n cap:Nat) (xs:List I3) (y:I3) (w:World) (h:Zr w (some ⟨b,off,none⟩) n cap xs) (hn:n≤1000000) :
  Calls Tryz.prog 154 #[.slice (some ⟨b,off,none⟩) n cap,y.val] w fun e w'=>(∃ v,e=.returned v∧w'.ownsRow w.heap.size 103 3 v (YV xs y).length (Zn (YV xs y)))∧Below w.heap.size w w':=by
 obtain ⟨i0,hi,hz0,hz1,hz2⟩:=info_parts Xp
 have hl:=h.1
 have hle:=M7 xs y
 have hyes:=P6 xs y
 have hno:=M8 xs y
 obtain ⟨L,hL⟩:∃ L,L=WR xs y:=⟨_,rfl⟩
 have hput:=Np xs y
 rw [← hL] at hle hyes hno hput
 clear hL
 have HY:Hid (∀ k,k<L→ltB (xs.getD k (0,0,0)) y=true):=hyes
 have HN:Hid (L<xs.length→ltB (xs.getD L (0,0,0)) y=false):=hno
 have HPut:Hid (YV xs y=if L<xs.length∧xs.getD L (0,0,0)=y then xs else (xs.take L++[y])++xs.drop L):=hput
 clear hyes hno hput
 have kL:=fun x (W:World)=>Kr x y W
 obtain ⟨y0,y1,y2⟩:=y
 unfold I3.val at *
 simp only at kL
 have bw:Below w.heap.size w (w.alloc (.cells #[.int .i64 y0,.int .i64 y1,.int .i64 y2] 103)):=by go_grown
 have c0:(w.alloc (.cells #[.int .i64 y0,.int .i64 y1,.int .i64 y2] 103)).cell? ⟨w.heap.size,0,none⟩=some (.int .i64 y0):=by simp [go_sem]
 have c1:(w.alloc (.cells #[.int .i64 y0,.int .i64 y1,.int .i64 y2] 103)).cell? ⟨w.heap.size,1,none⟩=some (.int .i64 y1):=by simp [go_sem]
 have c2:(w.alloc (.cells #[.int .i64 y0,.int .i64 y1,.int .i64 y2] 103)).cell? ⟨w.heap.size,2,none⟩=some (.int .i64 y2):=by simp [go_sem]
 have hszA:w.heap.size+1≤(w.alloc (.cells #[.int .i64 y0,.int .i64 y1,.int .i64 y2] 103)).heap.size:=by simp
 go_enter Tryz.func154,Tryz.ntmps154
 go_wp2_with fail
 generalize w.alloc (.cells #[.int .i64 y0,.int .i64 y1,.int .i64 y2] 103)=W0 at *
 go_loopw [5] (fun si wr=>∃ k:Nat,k≤L∧si=.int .i64 k∧Below w.heap.size w wr∧w.heap.size+1≤wr.heap.size∧wr.cell? ⟨w.heap.size,0,none⟩=some (.int .i64 y0)∧wr.cell? ⟨w.heap.size,1,none⟩=some (.int .i64 y1)∧wr.cell? ⟨w.heap.size,2,none⟩=some (.int .i64 y2)) (fun si _=>L - (intOf si).toNat)
 case atStart=>exact ⟨0,by omega,rfl,bw,hszA,c0,c1,c2⟩
 case round =>
  clear bw c0 c1 c2 hszA
  obtain ⟨k,hk,rfl,bw,hsz,c0,c1,c2⟩:=hrel
  have hX:=h.below bw
  have hkn:k≤n:=by omega
  obtain ⟨o2,rD,hD⟩:=F5 h hkn
  have rT:=(VF hX hkn).1
  by_cases hlt:k<n
  ·have hki:(k:Int)<(n:Int):=by omega
   have hk0:(0:Int)≤(k:Int):=by omega
   have hX':=hX
   obtain ⟨_,_,_,_,hcase⟩:=hX'
   rcases hcase with h0 | ⟨b',off',he,hb,hc⟩
   ·omega
   cases he
   obtain ⟨d0,d1,d2⟩:=hc k hlt
   clear hc hb
   obtain ⟨x,hx⟩:∃ x,x=xs.getD k (0,0,0):=⟨_,rfl⟩
   rw [← hx] at d0 d1 d2
   have HX:Hid (x=xs.getD k (0,0,0)):=hx
   clear hx
   have kX:=kL x
   by_cases hkL:k<L
   ·rw [HX.out,HY.out k hkL,← HX.out] at kX
    clear rD rT hX
    obtain ⟨x0,x1,x2⟩:=x
    simp only at d0 d1 d2 kX
    go_wp2_with fail
    go_region_held3 (fun w'=>w'.cell? ⟨b,off+k*3,none⟩=some (.int .i64 x0)∧w'.cell? ⟨b,off+k*3+1,none⟩=some (.int .i64 x1)∧w'.cell? ⟨b,off+k*3+2,none⟩=some (.int .i64 x2)∧w'.cell? ⟨w.heap.size,0,none⟩=some (.int .i64 y0)∧w'.cell? ⟨w.heap.size,1,none⟩=some (.int .i64 y1)∧w'.cell? ⟨w.heap.size,2,none⟩=some (.int .i64 y2)) (first | (exact ⟨d0,d1,d2,c0,c1,c2⟩) | (refine ⟨?_,?_,?_,?_,?_,?_⟩<;>(apply Za (by assumption);assumption)) | go_keep)
     (first | (go_at_call 144;refine (kX _).mono ?_;rintro e w1 ⟨rfl,hb1⟩))
    have bw1:Below w.heap.size w w1:=Zb bw (Zb (by go_grown) hb1)
    have hsz1:w.heap.size+1≤w1.heap.size:=Nat.le_trans hsz (Nat.le_trans (Nat.le_refl _) hb1.size)
    have f0:=Za hb1 _ _ c0
    have f1:=Za hb1 _ _ c1
    have f2:=Za hb1 _ _ c2
    clear hb1
    go_wp2
    go_roundw
    case rel=>exact ⟨k+1,by omega,by go_num,bw1,hsz1,f0,f1,f2⟩
    case measure=>simp [intOf];omega
   obtain rfl:k=L:=by omega
   rw [HX.out,HN.out (by omega),← HX.out] at kX
   have HE:Hid (YV xs (y0,y1,y2)=if x=(y0,y1,y2) then xs else (xs.take k++[(y0,y1,y2)])++xs.drop k):=by
    have h9:=HPut.out
    rw [← HX.out] at h9
    have h8:k<xs.length:=by omega
    simp only [h8,true_and] at h9
    exact h9
   obtain ⟨x0,x1,x2⟩:=x
   simp only at d0 d1 d2 kX
   go_wp2_with fail
   go_region_held3 (fun w'=>w'.cell? ⟨b,off+k*3,none⟩=some (.int .i64 x0)∧w'.cell? ⟨b,off+k*3+1,none⟩=some (.int .i64 x1)∧w'.cell? ⟨b,off+k*3+2,none⟩=some (.int .i64 x2)∧w'.cell? ⟨w.heap.size,0,none⟩=some (.int .i64 y0)∧w'.cell? ⟨w.heap.size,1,none⟩=some (.int .i64 y1)∧w'.cell? ⟨w.heap.size,2,none⟩=some (.int .i64 y2)) (first | (exact ⟨d0,d1,d2,c0,c1,c2⟩) | (refine ⟨?_,?_,?_,?_,?_,?_⟩<;>(apply Za (by assumption);assumption)) | go_keep)
    (first | (go_at_call 144;refine (kX _).mono ?_;rintro e w1 ⟨rfl,hb1⟩))
   have bw1:Below w.heap.size w w1:=Zb bw (Zb (by go_grown) hb1)
   have hsz1:w.heap.size+1≤w1.heap.size:=Nat.le_trans hsz (Nat.le_trans (Nat.le_refl _) hb1.size)
   have f0:=Za hb1 _ _ c0
   have f1:=Za hb1 _ _ c1
   have f2:=Za hb1 _ _ c2
   have m0:=Za hb1 _ _ d0
   have m1:=Za hb1 _ _ d1
   have m2:=Za hb1 _ _ d2
   clear hb1 c0 c1 c2 d0 d1 d2 bw hsz hX
   have hX:=h.below bw1
   have bw:=bw1
   have hsz:=hsz1
   have c0:=f0
   have c1:=f1
   have c2:=f2
   have d0:=m0
   have d1:=m1
   have d2:=m2
   clear bw1 hsz1 f0 f1 f2 m0 m1 m2
   go_wp2_with fail
   by_cases hE:(x0,x1,x2)=(y0,y1,y2)
   ·cases hE
    have HQ:Hid (YV xs (y0,y1,y2)=xs):=by
     have h9:=HE.out
     rw [if_pos rfl] at h9
     exact h9
    have hxx0:(y0 == y0)=true:=by simp
    have hxx1:(y1 == y1)=true:=by simp
    have hxx2:(y2 == y2)=true:=by simp
    clear HE HPut HN kX rD rT
    go_quiet (fail)
    have hXd:=h.below (below_drewN bw nq)
    have bwd:=below_drewN bw nq
    have hszd:w.heap.size≤(w1.drewN nq).heap.size:=bwd.size
    generalize w1.drewN nq=UE at *
    clear c0 c1 c2 d0 d1 d2 bw hX hsz
    go_wp2_with (at_builtin;refine wpList_append_own _ rfl _ _ 28 rfl w.heap.size 103 i0 (.agg #[.int .i64 0,.int .i64 0,.int .i64 0]) 3 24 Tryz.underlying28 hi hz0 hz1 hz2 rfl (by decide) _ _ _ rfl (Y4 UE 103 3 w.heap.size hszd) ⟨b,off,none⟩ n cap (Zn xs) rfl (by rw [Zw];omega) (Yb (hXd.below (by go_grown))) (Yk _) ?c3 ?c4 ?c5 ?_)
    case c3=>unfold maxLen;omega
    case c4=>omega
    case c5=>simp;omega
    intro v7 w7 hown7 hgrow7 _
    replace hown7:w7.ownsRow w.heap.size 103 3 v7 n (Zn xs):=by simpa using hown7
    have bw7:Below w.heap.size w w7:=(Zb bwd (show Below UE.heap.size UE (UE.alloc (.cells #[] 103)) by go_grown)).grown hgrow7 (by simp;omega) (fun g hg=>by simp [Value.ownBlock] at hg;omega)
    obtain ⟨g,c,rfl⟩:=WF hown7 (by omega)
    have hQ:w7.ownsRow w.heap.size 103 3 (.slice (some ⟨g,0,none⟩) n c) (YV xs (y0,y1,y2)).length (Zn (YV xs (y0,y1,y2))):=by
     rw [HQ.out,hl]
     exact hown7
    clear hown7 hgrow7
    go_wp2
    go_ret
    exact ⟨⟨_,rfl,hQ⟩,bw7⟩
   have HP:Hid (∀ (v:Value) (W:World),W.ownsRow (w.heap.size+1) 103 3 v (0+k+1+(n - k)) (([]++Zn (xs.take k)++[.int .i64 y0,.int .i64 y1,.int .i64 y2])++Zn (xs.drop k))→W.ownsRow w.heap.size 103 3 v (YV xs (y0,y1,y2)).length (Zn (YV xs (y0,y1,y2)))):=by
    intro v W q
    have h9:=HE.out
    rw [if_neg hE] at h9
    have hlen:(YV xs (y0,y1,y2)).length=0+k+1+(n - k):=by rw [h9];simp;omega
    rw [hlen,h9,Yp,Yp]
    simpa [Zn,I3.cells] using Xn q (by omega)
   have hcmp:(x0 == y0 && (x1 == y1 && x2 == y2))=false:=by
    cases hq:(x0 == y0 && (x1 == y1 && x2 == y2))
    ·rfl
    simp at hq;simp [hq] at hE
   have h3:x0≠y0∨(x0=y0∧x1≠y1)∨(x0=y0∧x1=y1∧x2≠y2):=by
    by_cases q0:x0=y0
    ·by_cases q1:x1=y1
     ·refine .inr (.inr ⟨q0,q1,fun q2=>hE ?_⟩)
      rw [q0,q1,q2]
     exact .inr (.inl ⟨q0,q1⟩)
    exact .inl q0
   clear HE HPut HN kX hcmp hE
   go_cut [31] from 6 (fun s31 W=>s31=.bool false∧∃ q,W=w1.drewN q)
   case first =>
    rcases h3 with t0 | ⟨rfl,t1⟩ | ⟨rfl,rfl,t2⟩
    ·have t0':(x0 == y0)=false:=by simp [t0]
     go_quiet (fail)
     go_wp2_with fail
     go_meet
     case rel=>exact ⟨rfl,nq,rfl⟩
    ·have t0':(x0 == x0)=true:=by simp
     have t1':(x1 == y1)=false:=by simp [t1]
     go_quiet (fail)
     go_wp2_with fail
     go_meet
     case rel=>exact ⟨rfl,nq,rfl⟩
    have t0':(x0 == x0)=true:=by simp
    have t1':(x1 == x1)=true:=by simp
    have t2':(x2 == y2)=false:=by simp [t2]
    go_quiet (fail)
    go_wp2_with fail
    go_meet
    case rel=>exact ⟨rfl,nq,rfl⟩
   obtain ⟨rfl,nq,rfl⟩:=hcut
   clear h3
   replace c0:(w1.drewN nq).cell? ⟨w.heap.size,0,none⟩=some (.int .i64 y0):=c0
   replace c1:(w1.drewN nq).cell? ⟨w.heap.size,1,none⟩=some (.int .i64 y1):=c1
   replace c2:(w1.drewN nq).cell? ⟨w.heap.size,2,none⟩=some (.int .i64 y2):=c2
   replace bw:=below_drewN bw nq
   replace hX:=h.below bw
   replace hsz:w.heap.size+1≤(w1.drewN nq).heap.size:=hsz
   generalize w1.drewN nq=UA at *
   go_wp2_with fail
   refine wp_region_held_drew (S:=(fun w'=>w'.cell? ⟨w.heap.size,0,none⟩=some (.int .i64 y0)∧w'.cell? ⟨w.heap.size,1,none⟩=some (.int .i64 y1)∧w'.cell? ⟨w.heap.size,2,none⟩=some (.int .i64 y2))) (by kernel_rfl) ⟨c0,c1,c2⟩ (fun hS0=>?_)
   refine tkm 1 36 (.slice (some ⟨b,off,none⟩) n cap) ?_
   refine tkm 2 37 (.int .i64 (k:Int)) ?_
   refine tkm 3 38 (.slice (some ⟨b,off,none⟩) k cap) ?_
   refine tkm 5 40 (.agg #[.int .i64 y0,.int .i64 y1,.int .i64 y2]) ?_
   refine tkm 8 43 (.slice (some ⟨b,off,none⟩) n cap) ?_
   refine tkm 9 44 (.int .i64 (k:Int)) ?_
   refine tkm 10 45 (.slice (some ⟨b,o2,none⟩) (n - k) (cap - k)) ?_
   refine wpAnyH_ready (rs:=[0,6]) (by kernel_rfl) (by simp) ?_
   refine AllReadyH.cons (o:=⟨some 35,_,_,_,_,_⟩) rfl (fun K hK=>?_) (AllReadyH.cons (o:=⟨some 41,_,_,_,_,_⟩) rfl (fun K hK=>?_) AllReadyH.nil)
   focus
    have q:=(Y4 UA 103 3 (w.heap.size+1) hsz).drew
    have hal:Below UA.heap.size UA (UA.alloc (.cells #[] 103)).drew:=by go_grown
    replace c0:=Za hal _ _ c0
    replace c1:=Za hal _ _ c1
    replace c2:=Za hal _ _ c2
    replace bw:=Zb bw hal
    replace hX:=hX.below hal
    replace hsz:w.heap.size+1≤(UA.alloc (.cells #[] 103)).drew.heap.size:=Nat.le_trans hsz hal.size
    go_simp
    refine hK.out _ _ ⟨c0,c1,c2⟩ (fun hS1=>?_)
    clear hK hal
    generalize UA.heap.size=V1 at *
    generalize (UA.alloc (.cells #[] 103)).drew=U1 at *
    try simp only [Act.put,tka,tkb,tkc]
    refine wpAnyH_ready (rs:=[4,6]) (by kernel_rfl) (by simp) ?_
    refine AllReadyH.cons (o:=⟨some 39,_,_,_,_,_⟩) rfl (fun K hK=>?_) (AllReadyH.cons (o:=⟨some 41,_,_,_,_,_⟩) rfl (fun K hK=>?_) AllReadyH.nil)
    focus
     refine ZV rfl _ _ 28 rfl (w.heap.size+1) 103 i0 (.agg #[.int .i64 0,.int .i64 0,.int .i64 0]) 3 24 Tryz.underlying28 hi hz0 hz1 hz2 rfl (by decide) (.slice (some ⟨V1,0,none⟩) 0 0) 0 [] rfl q ⟨b,off,none⟩ k cap (Zn (xs.take k)) rfl (by rw [Zw,List.length_take];omega) (Yb (VF hX hkn).2) (Yk _) (by unfold maxLen;omega) (by omega) hsz ?_
     intro v2 U2 q2 gr hob
     replace c0:=Zg gr c0 (fun e=>Nat.not_succ_le_self _ (q.lt _ e.symm).1)
     replace c1:=Zg gr c1 (fun e=>Nat.not_succ_le_self _ (q.lt _ e.symm).1)
     replace c2:=Zg gr c2 (fun e=>Nat.not_succ_le_self _ (q.lt _ e.symm).1)
     replace bw:=bw.grown gr bw.size (fun g hg=>by have:=(q.lt g hg).1;omega)
     replace hX:=h.below bw
     replace hsz:w.heap.size+1≤U2.heap.size:=Nat.le_trans hsz gr.size
     refine hK.out _ _ ⟨c0,c1,c2⟩ (fun hS2=>?_)
     clear hK q gr hob
     have q:=q2
     clear q2
     try simp only [Act.put,tka,tkb,tkc]
     refine tkr 6 41 (fun K hK=>?_)
     obtain ⟨G,hG⟩:∃ G,G=U2.heap.size:=⟨_,rfl⟩
     have e0:(U2.alloc (.cells #[.int .i64 y0,.int .i64 y1,.int .i64 y2] 103)).cell? ⟨G,0,none⟩=some (.int .i64 y0):=by subst hG;simp [go_sem]
     have e1:(U2.alloc (.cells #[.int .i64 y0,.int .i64 y1,.int .i64 y2] 103)).cell? ⟨G,1,none⟩=some (.int .i64 y1):=by subst hG;simp [go_sem]
     have e2:(U2.alloc (.cells #[.int .i64 y0,.int .i64 y1,.int .i64 y2] 103)).cell? ⟨G,2,none⟩=some (.int .i64 y2):=by subst hG;simp [go_sem]
     have hal:Below U2.heap.size U2 (U2.alloc (.cells #[.int .i64 y0,.int .i64 y1,.int .i64 y2] 103)):=by go_grown
     have hap:∀ g,Value.ownBlock v2=some g→g≠G:=fun g hg e=>by have:=(q.lt g hg).2;omega
     replace q:=Zs q hal
     replace c0:=Za hal _ _ c0
     replace c1:=Za hal _ _ c1
     replace c2:=Za hal _ _ c2
     replace bw:=Zb bw hal
     replace hX:=hX.below hal
     replace hsz:w.heap.size+1≤(U2.alloc (.cells #[.int .i64 y0,.int .i64 y1,.int .i64 y2] 103)).heap.size:=Nat.le_trans hsz hal.size
     go_simp
     rw [← hG]
     refine hK.out _ _ ⟨c0,c1,c2⟩ (fun hS3=>?_)
     clear hK hal
     clear hG
     generalize (U2.alloc (.cells #[.int .i64 y0,.int .i64 y1,.int .i64 y2] 103))=U3 at *
    rotate_left
    focus
     obtain ⟨G,hG⟩:∃ G,G=U1.heap.size:=⟨_,rfl⟩
     have e0:(U1.alloc (.cells #[.int .i64 y0,.int .i64 y1,.int .i64 y2] 103)).cell? ⟨G,0,none⟩=some (.int .i64 y0):=by subst hG;simp [go_sem]
     have e1:(U1.alloc (.cells #[.int .i64 y0,.int .i64 y1,.int .i64 y2] 103)).cell? ⟨G,1,none⟩=some (.int .i64 y1):=by subst hG;simp [go_sem]
     have e2:(U1.alloc (.cells #[.int .i64 y0,.int .i64 y1,.int .i64 y2] 103)).cell? ⟨G,2,none⟩=some (.int .i64 y2):=by subst hG;simp [go_sem]
     have hal:Below U1.heap.size U1 (U1.alloc (.cells #[.int .i64 y0,.int .i64 y1,.int .i64 y2] 103)):=by go_grown
     have hap:∀ g,Value.ownBlock (.slice (some ⟨V1,0,none⟩) 0 0)=some g→g≠G:=fun g hg e=>by have:=(q.lt g hg).2;omega
     replace q:=Zs q hal
     replace c0:=Za hal _ _ c0
     replace c1:=Za hal _ _ c1
     replace c2:=Za hal _ _ c2
     replace bw:=Zb bw hal
     replace hX:=hX.below hal
     replace hsz:w.heap.size+1≤(U1.alloc (.cells #[.int .i64 y0,.int .i64 y1,.int .i64 y2] 103)).heap.size:=Nat.le_trans hsz hal.size
     go_simp
     rw [← hG]
     refine hK.out _ _ ⟨c0,c1,c2⟩ (fun hS6=>?_)
     clear hK hal
     clear hG
     generalize (U1.alloc (.cells #[.int .i64 y0,.int .i64 y1,.int .i64 y2] 103))=U6 at *
     try simp only [Act.put,tka,tkb,tkc]
     refine tkr 4 39 (fun K hK=>?_)
     have hGl:=World.block_lt_of_cell? _ _ e0
     refine ZV rfl _ _ 28 rfl (w.heap.size+1) 103 i0 (.agg #[.int .i64 0,.int .i64 0,.int .i64 0]) 3 24 Tryz.underlying28 hi hz0 hz1 hz2 rfl (by decide) (.slice (some ⟨V1,0,none⟩) 0 0) 0 [] rfl q ⟨b,off,none⟩ k cap (Zn (xs.take k)) rfl (by rw [Zw,List.length_take];omega) (Yb (VF hX hkn).2) (Yk _) (by unfold maxLen;omega) (by omega) hsz ?_
     intro v2 U7 q2 gr hob
     replace c0:=Zg gr c0 (fun e=>Nat.not_succ_le_self _ (q.lt _ e.symm).1)
     replace c1:=Zg gr c1 (fun e=>Nat.not_succ_le_self _ (q.lt _ e.symm).1)
     replace c2:=Zg gr c2 (fun e=>Nat.not_succ_le_self _ (q.lt _ e.symm).1)
     replace e0:=Zg gr e0 (fun e=>hap _ e.symm rfl)
     replace e1:=Zg gr e1 (fun e=>hap _ e.symm rfl)
     replace e2:=Zg gr e2 (fun e=>hap _ e.symm rfl)
     have hap2:∀ g,Value.ownBlock v2=some g→g≠G:=fun g hg e=>by
      rcases hob with hu | hu
      ·exact hap g (hu▸hg) e
      rw [hu] at hg
      simp at hg hGl
      omega
     clear hap hGl
     have hap:=hap2
     clear hap2
     replace bw:=bw.grown gr bw.size (fun g hg=>by have:=(q.lt g hg).1;omega)
     replace hX:=h.below bw
     replace hsz:w.heap.size+1≤U7.heap.size:=Nat.le_trans hsz gr.size
     refine hK.out _ _ ⟨c0,c1,c2⟩ (fun hS7=>?_)
     clear hK q gr hob
     have q:=q2
     clear q2
   rotate_left 2
   focus
    obtain ⟨G,hG⟩:∃ G,G=UA.heap.size:=⟨_,rfl⟩
    have e0:(UA.alloc (.cells #[.int .i64 y0,.int .i64 y1,.int .i64 y2] 103)).drew.cell? ⟨G,0,none⟩=some (.int .i64 y0):=by subst hG;simp [go_sem]
    have e1:(UA.alloc (.cells #[.int .i64 y0,.int .i64 y1,.int .i64 y2] 103)).drew.cell? ⟨G,1,none⟩=some (.int .i64 y1):=by subst hG;simp [go_sem]
    have e2:(UA.alloc (.cells #[.int .i64 y0,.int .i64 y1,.int .i64 y2] 103)).drew.cell? ⟨G,2,none⟩=some (.int .i64 y2):=by subst hG;simp [go_sem]
    have hal:Below UA.heap.size UA (UA.alloc (.cells #[.int .i64 y0,.int .i64 y1,.int .i64 y2] 103)).drew:=by go_grown
    replace c0:=Za hal _ _ c0
    replace c1:=Za hal _ _ c1
    replace c2:=Za hal _ _ c2
    replace bw:=Zb bw hal
    replace hX:=hX.below hal
    replace hsz:w.heap.size+1≤(UA.alloc (.cells #[.int .i64 y0,.int .i64 y1,.int .i64 y2] 103)).drew.heap.size:=Nat.le_trans hsz hal.size
    go_simp
    rw [← hG]
    refine hK.out _ _ ⟨c0,c1,c2⟩ (fun hS10=>?_)
    clear hK hal
    clear hG
    generalize (UA.alloc (.cells #[.int .i64 y0,.int .i64 y1,.int .i64 y2] 103)).drew=U10 at *
    try simp only [Act.put,tka,tkb,tkc]
    refine tkr 0 35 (fun K hK=>?_)
    have q:=(Y4 U10 103 3 (w.heap.size+1) hsz)
    have hap:∀ g,(Value.slice (some ⟨U10.heap.size,0,none⟩) 0 0).ownBlock=some g→g≠G:=fun g hg e=>by have hGl:=World.block_lt_of_cell? _ _ e0;simp [Value.ownBlock] at hg;simp at hGl;omega
    have hal:Below U10.heap.size U10 (U10.alloc (.cells #[] 103)):=by go_grown
    replace e0:=Za hal _ _ e0
    replace e1:=Za hal _ _ e1
    replace e2:=Za hal _ _ e2
    replace c0:=Za hal _ _ c0
    replace c1:=Za hal _ _ c1
    replace c2:=Za hal _ _ c2
    replace bw:=Zb bw hal
    replace hX:=hX.below hal
    replace hsz:w.heap.size+1≤(U10.alloc (.cells #[] 103)).heap.size:=Nat.le_trans hsz hal.size
    go_simp
    refine hK.out _ _ ⟨c0,c1,c2⟩ (fun hS11=>?_)
    clear hK hal
    generalize U10.heap.size=V11 at *
    generalize (U10.alloc (.cells #[] 103))=U11 at *
    try simp only [Act.put,tka,tkb,tkc]
    refine tkr 4 39 (fun K hK=>?_)
    have hGl:=World.block_lt_of_cell? _ _ e0
    refine ZV rfl _ _ 28 rfl (w.heap.size+1) 103 i0 (.agg #[.int .i64 0,.int .i64 0,.int .i64 0]) 3 24 Tryz.underlying28 hi hz0 hz1 hz2 rfl (by decide) (.slice (some ⟨V11,0,none⟩) 0 0) 0 [] rfl q ⟨b,off,none⟩ k cap (Zn (xs.take k)) rfl (by rw [Zw,List.length_take];omega) (Yb (VF hX hkn).2) (Yk _) (by unfold maxLen;omega) (by omega) hsz ?_
    intro v2 U12 q2 gr hob
    replace c0:=Zg gr c0 (fun e=>Nat.not_succ_le_self _ (q.lt _ e.symm).1)
    replace c1:=Zg gr c1 (fun e=>Nat.not_succ_le_self _ (q.lt _ e.symm).1)
    replace c2:=Zg gr c2 (fun e=>Nat.not_succ_le_self _ (q.lt _ e.symm).1)
    replace e0:=Zg gr e0 (fun e=>hap _ e.symm rfl)
    replace e1:=Zg gr e1 (fun e=>hap _ e.symm rfl)
    replace e2:=Zg gr e2 (fun e=>hap _ e.symm rfl)
    have hap2:∀ g,Value.ownBlock v2=some g→g≠G:=fun g hg e=>by
     rcases hob with hu | hu
     ·exact hap g (hu▸hg) e
     rw [hu] at hg
     simp at hg hGl
     omega
    clear hap hGl
    have hap:=hap2
    clear hap2
    replace bw:=bw.grown gr bw.size (fun g hg=>by have:=(q.lt g hg).1;omega)
    replace hX:=h.below bw
    replace hsz:w.heap.size+1≤U12.heap.size:=Nat.le_trans hsz gr.size
    refine hK.out _ _ ⟨c0,c1,c2⟩ (fun hS12=>?_)
    clear hK q gr hob
    have q:=q2
    clear q2
   all_goals
    try simp only [Act.put,tka,tkb,tkc]
    refine tkr 7 42 (fun K hK=>?_)
    refine ZV rfl _ _ 28 rfl (w.heap.size+1) 103 i0 (.agg #[.int .i64 0,.int .i64 0,.int .i64 0]) 3 24 Tryz.underlying28 hi hz0 hz1 hz2 rfl (by decide) v2 (0+k) ([]++Zn (xs.take k)) rfl q ⟨G,0,none⟩ 1 1 [.int .i64 y0,.int .i64 y1,.int .i64 y2] rfl rfl (LL e0 e1 e2) (Um _ _ _) (by unfold maxLen;omega) (by omega) hsz ?_
    intro v4 U4 q2 gr hob
    replace c0:=Zg gr c0 (fun e=>Nat.not_succ_le_self _ (q.lt _ e.symm).1)
    replace c1:=Zg gr c1 (fun e=>Nat.not_succ_le_self _ (q.lt _ e.symm).1)
    replace c2:=Zg gr c2 (fun e=>Nat.not_succ_le_self _ (q.lt _ e.symm).1)
    replace bw:=bw.grown gr bw.size (fun g hg=>by have:=(q.lt g hg).1;omega)
    replace hX:=h.below bw
    replace hsz:w.heap.size+1≤U4.heap.size:=Nat.le_trans hsz gr.size
    refine hK.out _ _ ⟨c0,c1,c2⟩ (fun hS4=>?_)
    clear hK q gr hob
    have q:=q2
    clear q2
    clear e0 e1 e2 hap
    try simp only [Act.put,tka,tkb,tkc]
    refine tkr 11 46 (fun K hK=>?_)
    refine ZV rfl _ _ 28 rfl (w.heap.size+1) 103 i0 (.agg #[.int .i64 0,.int .i64 0,.int .i64 0]) 3 24 Tryz.underlying28 hi hz0 hz1 hz2 rfl (by decide) v4 (0+k+1) (([]++Zn (xs.take k))++[.int .i64 y0,.int .i64 y1,.int .i64 y2]) rfl q ⟨b,o2,none⟩ (n - k) (cap - k) (Zn (xs.drop k)) rfl (by rw [Zw,List.length_drop];omega) (Yb (hD.below bw)) (Yk _) (by unfold maxLen;omega) (by omega) hsz ?_
    intro v5 U5 q2 gr hob
    replace c0:=Zg gr c0 (fun e=>Nat.not_succ_le_self _ (q.lt _ e.symm).1)
    replace c1:=Zg gr c1 (fun e=>Nat.not_succ_le_self _ (q.lt _ e.symm).1)
    replace c2:=Zg gr c2 (fun e=>Nat.not_succ_le_self _ (q.lt _ e.symm).1)
    replace bw:=bw.grown gr bw.size (fun g hg=>by have:=(q.lt g hg).1;omega)
    replace hX:=h.below bw
    replace hsz:w.heap.size+1≤U5.heap.size:=Nat.le_trans hsz gr.size
    refine hK.out _ _ ⟨c0,c1,c2⟩ (fun hS5=>?_)
    clear hK q gr hob
    have q:=q2
    clear q2
    try simp only [Act.put,tka,tkb,tkc]
    refine tkm 12 4 v5 ?_
    refine wpAnyH_done (by kernel_rfl) ?_ _
    have hQ:=HP.out _ _ q
    obtain ⟨g,c,rfl⟩:=WF q (by omega)
    clear q c0 c1 c2 rT rD
    go_wp2
    go_ret
    exact ⟨⟨_,rfl,hQ⟩,bw⟩
  obtain rfl:k=n:=by omega
  obtain rfl:k=L:=by omega
  have hkk:¬ ((k:Int)<(k:Int)):=by omega
  have hkb:decide ((k:Int)<(k:Int))=false:=by simp
  have HP:Hid (∀ (v:Value) (W:World),W.ownsRow (w.heap.size+1) 103 3 v (0+k+1+0) (([]++Zn (xs.take k)++[.int .i64 y0,.int .i64 y1,.int .i64 y2])++Zn (xs.drop k))→W.ownsRow w.heap.size 103 3 v (YV xs (y0,y1,y2)).length (Zn (YV xs (y0,y1,y2)))):=by
   intro v W q
   have h9:=HPut.out
   rw [if_neg (by omega)] at h9
   have hlen:(YV xs (y0,y1,y2)).length=0+k+1+0:=by rw [h9];simp;omega
   rw [hlen,h9,Yp,Yp]
   simpa [Zn,I3.cells] using Xn q (by omega)
  clear HPut HN HY kL
  go_wp2_with fail
  go_quiet (fail)
  replace c0:(wr.drewN nq).cell? ⟨w.heap.size,0,none⟩=some (.int .i64 y0):=c0
  replace c1:(wr.drewN nq).cell? ⟨w.heap.size,1,none⟩=some (.int .i64 y1):=c1
  replace c2:(wr.drewN nq).cell? ⟨w.heap.size,2,none⟩=some (.int .i64 y2):=c2
  replace bw:=below_drewN bw nq
  replace hX:=h.below bw
  replace hsz:w.heap.size+1≤(wr.drewN nq).heap.size:=hsz
  generalize wr.drewN nq=UV at *
  go_wp2_with fail
  go_quiet (fail)
  replace c0:(UV.drewN nq).cell? ⟨w.heap.size,0,none⟩=some (.int .i64 y0):=c0
  replace c1:(UV.drewN nq).cell? ⟨w.heap.size,1,none⟩=some (.int .i64 y1):=c1
  replace c2:(UV.drewN nq).cell? ⟨w.heap.size,2,none⟩=some (.int .i64 y2):=c2
  replace bw:=below_drewN bw nq
  replace hX:=h.below bw
  replace hsz:w.heap.size+1≤(UV.drewN nq).heap.size:=hsz
  generalize UV.drewN nq=UW at *
  go_wp2_with fail
  refine wp_region_held_drew (S:=(fun w'=>w'.cell? ⟨w.heap.size,0,none⟩=some (.int .i64 y0)∧w'.cell? ⟨w.heap.size,1,none⟩=some (.int .i64 y1)∧w'.cell? ⟨w.heap.size,2,none⟩=some (.int .i64 y2))) (by kernel_rfl) ⟨c0,c1,c2⟩ (fun hS0=>?_)
  refine tkm 1 36 (.slice (some ⟨b,off,none⟩) k cap) ?_
  refine tkm 2 37 (.int .i64 (k:Int)) ?_
  refine tkm 3 38 (.slice (some ⟨b,off,none⟩) k cap) ?_
  refine tkm 5 40 (.agg #[.int .i64 y0,.int .i64 y1,.int .i64 y2]) ?_
  refine tkm 8 43 (.slice (some ⟨b,off,none⟩) k cap) ?_
  refine tkm 9 44 (.int .i64 (k:Int)) ?_
  refine tkm 10 45 (.slice (some ⟨b,o2,none⟩) 0 (cap - k)) ?_
  refine wpAnyH_ready (rs:=[0,6]) (by kernel_rfl) (by simp) ?_
  refine AllReadyH.cons (o:=⟨some 35,_,_,_,_,_⟩) rfl (fun K hK=>?_) (AllReadyH.cons (o:=⟨some 41,_,_,_,_,_⟩) rfl (fun K hK=>?_) AllReadyH.nil)
  focus
   have q:=(Y4 UW 103 3 (w.heap.size+1) hsz).drew
   have hal:Below UW.heap.size UW (UW.alloc (.cells #[] 103)).drew:=by go_grown
   replace c0:=Za hal _ _ c0
   replace c1:=Za hal _ _ c1
   replace c2:=Za hal _ _ c2
   replace bw:=Zb bw hal
   replace hX:=hX.below hal
   replace hsz:w.heap.size+1≤(UW.alloc (.cells #[] 103)).drew.heap.size:=Nat.le_trans hsz hal.size
   go_simp
   refine hK.out _ _ ⟨c0,c1,c2⟩ (fun hS15=>?_)
   clear hK hal
   generalize UW.heap.size=V15 at *
   generalize (UW.alloc (.cells #[] 103)).drew=U15 at *
   try simp only [Act.put,tka,tkb,tkc]
   refine wpAnyH_ready (rs:=[4,6]) (by kernel_rfl) (by simp) ?_
   refine AllReadyH.cons (o:=⟨some 39,_,_,_,_,_⟩) rfl (fun K hK=>?_) (AllReadyH.cons (o:=⟨some 41,_,_,_,_,_⟩) rfl (fun K hK=>?_) AllReadyH.nil)
   focus
    refine ZV rfl _ _ 28 rfl (w.heap.size+1) 103 i0 (.agg #[.int .i64 0,.int .i64 0,.int .i64 0]) 3 24 Tryz.underlying28 hi hz0 hz1 hz2 rfl (by decide) (.slice (some ⟨V15,0,none⟩) 0 0) 0 [] rfl q ⟨b,off,none⟩ k cap (Zn (xs.take k)) rfl (by rw [Zw,List.length_take];omega) (Yb (VF hX hkn).2) (Yk _) (by unfold maxLen;omega) (by omega) hsz ?_
    intro v16 U16 q2 gr hob
    replace c0:=Zg gr c0 (fun e=>Nat.not_succ_le_self _ (q.lt _ e.symm).1)
    replace c1:=Zg gr c1 (fun e=>Nat.not_succ_le_self _ (q.lt _ e.symm).1)
    replace c2:=Zg gr c2 (fun e=>Nat.not_succ_le_self _ (q.lt _ e.symm).1)
    replace bw:=bw.grown gr bw.size (fun g hg=>by have:=(q.lt g hg).1;omega)
    replace hX:=h.below bw
    replace hsz:w.heap.size+1≤U16.heap.size:=Nat.le_trans hsz gr.size
    refine hK.out _ _ ⟨c0,c1,c2⟩ (fun hS16=>?_)
    clear hK q gr hob
    have q:=q2
    clear q2
    try simp only [Act.put,tka,tkb,tkc]
    refine tkr 6 41 (fun K hK=>?_)
    obtain ⟨G,hG⟩:∃ G,G=U16.heap.size:=⟨_,rfl⟩
    have e0:(U16.alloc (.cells #[.int .i64 y0,.int .i64 y1,.int .i64 y2] 103)).cell? ⟨G,0,none⟩=some (.int .i64 y0):=by subst hG;simp [go_sem]
    have e1:(U16.alloc (.cells #[.int .i64 y0,.int .i64 y1,.int .i64 y2] 103)).cell? ⟨G,1,none⟩=some (.int .i64 y1):=by subst hG;simp [go_sem]
    have e2:(U16.alloc (.cells #[.int .i64 y0,.int .i64 y1,.int .i64 y2] 103)).cell? ⟨G,2,none⟩=some (.int .i64 y2):=by subst hG;simp [go_sem]
    have hal:Below U16.heap.size U16 (U16.alloc (.cells #[.int .i64 y0,.int .i64 y1,.int .i64 y2] 103)):=by go_grown
    have hap:∀ g,Value.ownBlock v16=some g→g≠G:=fun g hg e=>by have:=(q.lt g hg).2;omega
    replace q:=Zs q hal
    replace c0:=Za hal _ _ c0
    replace c1:=Za hal _ _ c1
    replace c2:=Za hal _ _ c2
    replace bw:=Zb bw hal
    replace hX:=hX.below hal
    replace hsz:w.heap.size+1≤(U16.alloc (.cells #[.int .i64 y0,.int .i64 y1,.int .i64 y2] 103)).heap.size:=Nat.le_trans hsz hal.size
    go_simp
    rw [← hG]
    refine hK.out _ _ ⟨c0,c1,c2⟩ (fun hS17=>?_)
    clear hK hal
    clear hG
    generalize (U16.alloc (.cells #[.int .i64 y0,.int .i64 y1,.int .i64 y2] 103))=U17 at *
   rotate_left
   focus
    obtain ⟨G,hG⟩:∃ G,G=U15.heap.size:=⟨_,rfl⟩
    have e0:(U15.alloc (.cells #[.int .i64 y0,.int .i64 y1,.int .i64 y2] 103)).cell? ⟨G,0,none⟩=some (.int .i64 y0):=by subst hG;simp [go_sem]
    have e1:(U15.alloc (.cells #[.int .i64 y0,.int .i64 y1,.int .i64 y2] 103)).cell? ⟨G,1,none⟩=some (.int .i64 y1):=by subst hG;simp [go_sem]
    have e2:(U15.alloc (.cells #[.int .i64 y0,.int .i64 y1,.int .i64 y2] 103)).cell? ⟨G,2,none⟩=some (.int .i64 y2):=by subst hG;simp [go_sem]
    have hal:Below U15.heap.size U15 (U15.alloc (.cells #[.int .i64 y0,.int .i64 y1,.int .i64 y2] 103)):=by go_grown
    have hap:∀ g,Value.ownBlock (.slice (some ⟨V15,0,none⟩) 0 0)=some g→g≠G:=fun g hg e=>by have:=(q.lt g hg).2;omega
    replace q:=Zs q hal
    replace c0:=Za hal _ _ c0
    replace c1:=Za hal _ _ c1
    replace c2:=Za hal _ _ c2
    replace bw:=Zb bw hal
    replace hX:=hX.below hal
    replace hsz:w.heap.size+1≤(U15.alloc (.cells #[.int .i64 y0,.int .i64 y1,.int .i64 y2] 103)).heap.size:=Nat.le_trans hsz hal.size
    go_simp
    rw [← hG]
    refine hK.out _ _ ⟨c0,c1,c2⟩ (fun hS20=>?_)
    clear hK hal
    clear hG
    generalize (U15.alloc (.cells #[.int .i64 y0,.int .i64 y1,.int .i64 y2] 103))=U20 at *
    try simp only [Act.put,tka,tkb,tkc]
    refine tkr 4 39 (fun K hK=>?_)
    have hGl:=World.block_lt_of_cell? _ _ e0
    refine ZV rfl _ _ 28 rfl (w.heap.size+1) 103 i0 (.agg #[.int .i64 0,.int .i64 0,.int .i64 0]) 3 24 Tryz.underlying28 hi hz0 hz1 hz2 rfl (by decide) (.slice (some ⟨V15,0,none⟩) 0 0) 0 [] rfl q ⟨b,off,none⟩ k cap (Zn (xs.take k)) rfl (by rw [Zw,List.length_take];omega) (Yb (VF hX hkn).2) (Yk _) (by unfold maxLen;omega) (by omega) hsz ?_
    intro v16 U21 q2 gr hob
    replace c0:=Zg gr c0 (fun e=>Nat.not_succ_le_self _ (q.lt _ e.symm).1)
    replace c1:=Zg gr c1 (fun e=>Nat.not_succ_le_self _ (q.lt _ e.symm).1)
    replace c2:=Zg gr c2 (fun e=>Nat.not_succ_le_self _ (q.lt _ e.symm).1)
    replace e0:=Zg gr e0 (fun e=>hap _ e.symm rfl)
    replace e1:=Zg gr e1 (fun e=>hap _ e.symm rfl)
    replace e2:=Zg gr e2 (fun e=>hap _ e.symm rfl)
    have hap2:∀ g,Value.ownBlock v16=some g→g≠G:=fun g hg e=>by
     rcases hob with hu | hu
     ·exact hap g (hu▸hg) e
     rw [hu] at hg
     simp at hg hGl
     omega
    clear hap hGl
    have hap:=hap2
    clear hap2
    replace bw:=bw.grown gr bw.size (fun g hg=>by have:=(q.lt g hg).1;omega)
    replace hX:=h.below bw
    replace hsz:w.heap.size+1≤U21.heap.size:=Nat.le_trans hsz gr.size
    refine hK.out _ _ ⟨c0,c1,c2⟩ (fun hS21=>?_)
    clear hK q gr hob
    have q:=q2
    clear q2
  rotate_left 2
  focus
   obtain ⟨G,hG⟩:∃ G,G=UW.heap.size:=⟨_,rfl⟩
   have e0:(UW.alloc (.cells #[.int .i64 y0,.int .i64 y1,.int .i64 y2] 103)).drew.cell? ⟨G,0,none⟩=some (.int .i64 y0):=by subst hG;simp [go_sem]
   have e1:(UW.alloc (.cells #[.int .i64 y0,.int .i64 y1,.int .i64 y2] 103)).drew.cell? ⟨G,1,none⟩=some (.int .i64 y1):=by subst hG;simp [go_sem]
   have e2:(UW.alloc (.cells #[.int .i64 y0,.int .i64 y1,.int .i64 y2] 103)).drew.cell? ⟨G,2,none⟩=some (.int .i64 y2):=by subst hG;simp [go_sem]
   have hal:Below UW.heap.size UW (UW.alloc (.cells #[.int .i64 y0,.int .i64 y1,.int .i64 y2] 103)).drew:=by go_grown
   replace c0:=Za hal _ _ c0
   replace c1:=Za hal _ _ c1
   replace c2:=Za hal _ _ c2
   replace bw:=Zb bw hal
   replace hX:=hX.below hal
   replace hsz:w.heap.size+1≤(UW.alloc (.cells #[.int .i64 y0,.int .i64 y1,.int .i64 y2] 103)).drew.heap.size:=Nat.le_trans hsz hal.size
   go_simp
   rw [← hG]
   refine hK.out _ _ ⟨c0,c1,c2⟩ (fun hS24=>?_)
   clear hK hal
   clear hG
   generalize (UW.alloc (.cells #[.int .i64 y0,.int .i64 y1,.int .i64 y2] 103)).drew=U24 at *
   try simp only [Act.put,tka,tkb,tkc]
   refine tkr 0 35 (fun K hK=>?_)
   have q:=(Y4 U24 103 3 (w.heap.size+1) hsz)
   have hap:∀ g,(Value.slice (some ⟨U24.heap.size,0,none⟩) 0 0).ownBlock=some g→g≠G:=fun g hg e=>by have hGl:=World.block_lt_of_cell? _ _ e0;simp [Value.ownBlock] at hg;simp at hGl;omega
   have hal:Below U24.heap.size U24 (U24.alloc (.cells #[] 103)):=by go_grown
   replace e0:=Za hal _ _ e0
   replace e1:=Za hal _ _ e1
   replace e2:=Za hal _ _ e2
   replace c0:=Za hal _ _ c0
   replace c1:=Za hal _ _ c1
   replace c2:=Za hal _ _ c2
   replace bw:=Zb bw hal
   replace hX:=hX.below hal
   replace hsz:w.heap.size+1≤(U24.alloc (.cells #[] 103)).heap.size:=Nat.le_trans hsz hal.size
   go_simp
   refine hK.out _ _ ⟨c0,c1,c2⟩ (fun hS25=>?_)
   clear hK hal
   generalize U24.heap.size=V25 at *
   generalize (U24.alloc (.cells #[] 103))=U25 at *
   try simp only [Act.put,tka,tkb,tkc]
   refine tkr 4 39 (fun K hK=>?_)
   have hGl:=World.block_lt_of_cell? _ _ e0
   refine ZV rfl _ _ 28 rfl (w.heap.size+1) 103 i0 (.agg #[.int .i64 0,.int .i64 0,.int .i64 0]) 3 24 Tryz.underlying28 hi hz0 hz1 hz2 rfl (by decide) (.slice (some ⟨V25,0,none⟩) 0 0) 0 [] rfl q ⟨b,off,none⟩ k cap (Zn (xs.take k)) rfl (by rw [Zw,List.length_take];omega) (Yb (VF hX hkn).2) (Yk _) (by unfold maxLen;omega) (by omega) hsz ?_
   intro v16 U26 q2 gr hob
   replace c0:=Zg gr c0 (fun e=>Nat.not_succ_le_self _ (q.lt _ e.symm).1)
   replace c1:=Zg gr c1 (fun e=>Nat.not_succ_le_self _ (q.lt _ e.symm).1)
   replace c2:=Zg gr c2 (fun e=>Nat.not_succ_le_self _ (q.lt _ e.symm).1)
   replace e0:=Zg gr e0 (fun e=>hap _ e.symm rfl)
   replace e1:=Zg gr e1 (fun e=>hap _ e.symm rfl)
   replace e2:=Zg gr e2 (fun e=>hap _ e.symm rfl)
   have hap2:∀ g,Value.ownBlock v16=some g→g≠G:=fun g hg e=>by
    rcases hob with hu | hu
    ·exact hap g (hu▸hg) e
    rw [hu] at hg
    simp at hg hGl
    omega
   clear hap hGl
   have hap:=hap2
   clear hap2
   replace bw:=bw.grown gr bw.size (fun g hg=>by have:=(q.lt g hg).1;omega)
   replace hX:=h.below bw
   replace hsz:w.heap.size+1≤U26.heap.size:=Nat.le_trans hsz gr.size
   refine hK.out _ _ ⟨c0,c1,c2⟩ (fun hS26=>?_)
   clear hK q gr hob
   have q:=q2
   clear q2
  all_goals
   try simp only [Act.put,tka,tkb,tkc]
   refine tkr 7 42 (fun K hK=>?_)
   refine ZV rfl _ _ 28 rfl (w.heap.size+1) 103 i0 (.agg #[.int .i64 0,.int .i64 0,.int .i64 0]) 3 24 Tryz.underlying28 hi hz0 hz1 hz2 rfl (by decide) v16 (0+k) ([]++Zn (xs.take k)) rfl q ⟨G,0,none⟩ 1 1 [.int .i64 y0,.int .i64 y1,.int .i64 y2] rfl rfl (LL e0 e1 e2) (Um _ _ _) (by unfold maxLen;omega) (by omega) hsz ?_
   intro v18 U18 q2 gr hob
   replace c0:=Zg gr c0 (fun e=>Nat.not_succ_le_self _ (q.lt _ e.symm).1)
   replace c1:=Zg gr c1 (fun e=>Nat.not_succ_le_self _ (q.lt _ e.symm).1)
   replace c2:=Zg gr c2 (fun e=>Nat.not_succ_le_self _ (q.lt _ e.symm).1)
   replace bw:=bw.grown gr bw.size (fun g hg=>by have:=(q.lt g hg).1;omega)
   replace hX:=h.below bw
   replace hsz:w.heap.size+1≤U18.heap.size:=Nat.le_trans hsz gr.size
   refine hK.out _ _ ⟨c0,c1,c2⟩ (fun hS18=>?_)
   clear hK q gr hob
   have q:=q2
   clear q2
   clear e0 e1 e2 hap
   try simp only [Act.put,tka,tkb,tkc]
   refine tkr 11 46 (fun K hK=>?_)
   refine ZV rfl _ _ 28 rfl (w.heap.size+1) 103 i0 (.agg #[.int .i64 0,.int .i64 0,.int .i64 0]) 3 24 Tryz.underlying28 hi hz0 hz1 hz2 rfl (by decide) v18 (0+k+1) (([]++Zn (xs.take k))++[.int .i64 y0,.int .i64 y1,.int .i64 y2]) rfl q ⟨b,o2,none⟩ 0 (cap - k) (Zn (xs.drop k)) rfl (by rw [Zw,List.length_drop];omega) (Yb (hD.below bw)) (Yk _) (by unfold maxLen;omega) (by omega) hsz ?_
   intro v19 U19 q2 gr hob
   replace c0:=Zg gr c0 (fun e=>Nat.not_succ_le_self _ (q.lt _ e.symm).1)
   replace c1:=Zg gr c1 (fun e=>Nat.not_succ_le_self _ (q.lt _ e.symm).1)
   replace c2:=Zg gr c2 (fun e=>Nat.not_succ_le_self _ (q.lt _ e.symm).1)
   replace bw:=bw.grown gr bw.size (fun g hg=>by have:=(q.lt g hg).1;omega)
   replace hX:=h.below bw
   replace hsz:w.heap.size+1≤U19.heap.size:=Nat.le_trans hsz gr.size
   refine hK.out _ _ ⟨c0,c1,c2⟩ (fun hS19=>?_)
   clear hK q gr hob
   have q:=q2
   clear q2
   try simp only [Act.put,tka,tkb,tkc]
   refine tkm 12 4 v19 ?_
   refine wpAnyH_done (by kernel_rfl) ?_ _
   have hQ:=HP.out _ _ q
   obtain ⟨g,c,rfl⟩:=WF q (by omega)
   clear q c0 c1 c2 rT rD
   go_wp2
   go_ret
   exact ⟨⟨_,rfl,hQ⟩,bw⟩
end Go.Proofs.YtgmhhegckcionaaGreatDoor
