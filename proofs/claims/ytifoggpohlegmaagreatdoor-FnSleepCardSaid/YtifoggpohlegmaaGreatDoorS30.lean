/-
  Joined: DelI, FulB.
-/
import Derived.Test.YtifoggpohlegmaaGreatDoorS28

namespace Go.Proofs.YtifoggpohlegmaaGreatDoor
set_option maxRecDepth 100000
set_option maxHeartbeats 16000000
open Go.RowKit
set_option linter.unusedVariables false
set_option linter.unusedSimpArgs false

def IdxV (e:Ending) (b:Bool):Prop:=∃ r:Int,e=.returned (.int .i64 r)∧decide (0≤r)=b
theorem mem_drop7 {Z:List Int} {k:Nat} (h:k<Z.length) (y:Int):decide (y ∈ Z.drop k)=(decide (y=Z.getD k 0) || decide (y ∈ Z.drop (k+1))):=by
 have e:(y ∈ Z.drop k)↔(y=Z.getD k 0∨y ∈ Z.drop (k+1)):=by
  rw [List.drop_eq_getElem_cons h,List.mem_cons]
  simp only [List.getD,List.getElem?_eq_getElem h,Option.getD_some]
 simp only [e,Bool.decide_or]

theorem indexInt_is (a:Option Addr) (n cap:Nat) (Z:List Int) (y:Int) (w:World) (h:Ints .i64 w a n cap Z) (hn:n≤1000000) :
  Calls Tryz.prog 146 #[.slice a n cap,.int .i64 y] w fun e w'=>IdxV e (decide (y ∈ Z))∧w=w':=by
 have hl:=h.1
 obtain ⟨r,hr⟩:∃ r,r=decide (y ∈ Z):=⟨_,rfl⟩
 rw [← hr]
 have HR:Hid (r=decide (y ∈ Z.drop 0)):=by rw [Hid];simpa using hr
 clear hr
 go_enter Tryz.func146,Tryz.ntmps146
 go_wp2_with fail
 go_loopw [8] (fun si wr=>∃ k:Nat,k≤n∧si=.int .i64 k∧Hid (r=decide (y ∈ Z.drop k))∧w=wr) (fun si _=>n - (intOf si).toNat)
 case atStart=>exact ⟨0,by omega,rfl,HR,rfl⟩
 case round =>
  clear HR
  obtain ⟨k,hk,rfl,HR,rfl⟩:=hrel
  by_cases hlt:k<n
  ·have hm:=mem_drop7 (Z:=Z) (k:=k) (by omega) y
   obtain ⟨_,_,_,hcase⟩:=h
   rcases hcase with e0 | ⟨b,off,rfl,hb,hc⟩
   ·omega
   have d0:=hc k hlt
   clear hc hb
   generalize Z.getD k 0=x at d0 hm
   have HM:Hid (decide (y ∈ Z.drop k)=(decide (y=x) || decide (y ∈ Z.drop (k+1)))):=hm
   clear hm
   have hlt':(k:Int)<(n:Int):=by omega
   have hk0:(0:Int)≤(k:Int):=by omega
   by_cases hE:y=x
   ·subst hE
    have HF:Hid (r=true):=by rw [Hid,HR.out,HM.out];simp
    clear HM HR
    have q0:(y == y)=true:=by simp
    go_wp2
    go_ret
    exact ⟨⟨k,rfl,by rw [HF.out];simp⟩,rfl⟩
   ·have HF:Hid (r=decide (y ∈ Z.drop (k+1))):=by rw [Hid,HR.out,HM.out];simp [hE]
    clear HM HR
    have q0:(y == x)=false:=by simp [hE]
    clear hE
    go_wp2
    go_roundw
    case rel=>exact ⟨k+1,by omega,by go_num,HF,by first | rfl | trivial⟩
    case measure=>simp [intOf];omega
  ·obtain rfl:k=n:=by omega
   have HF:Hid (r=false):=by rw [Hid,HR.out,List.drop_of_length_le (by omega)];simp
   clear HR
   go_wp2
   go_ret
   exact ⟨⟨-1,rfl,by rw [HF.out];rfl⟩,rfl⟩

theorem containsInt_is (a:Option Addr) (n cap:Nat) (Z:List Int) (y:Int) (w:World) (h:Ints .i64 w a n cap Z) (hn:n≤1000000) :
  Calls Tryz.prog 92 #[.slice a n cap,.int .i64 y] w fun e w'=>e=.returned (.bool (decide (y ∈ Z)))∧w=w':=by
 have kI:=indexInt_is a n cap Z y w h hn
 clear h
 generalize decide (y ∈ Z)=r at *
 go_enter Tryz.func92,Tryz.ntmps92
 go_wp2_with fail
 refine kI.mono ?_
 rintro e w1 ⟨⟨i,rfl,hi⟩,rfl⟩
 clear kI
 cases r
 ·have q:decide (0≤i)=false:=hi
  have q':¬ (0≤i):=by simpa using hi
  clear hi
  go_wp2
  go_ret
  exact ⟨by simp [q'],rfl⟩
 ·have q:decide (0≤i)=true:=hi
  have q':0≤i:=by simpa using hi
  clear hi
  go_wp2
  go_ret
  exact ⟨by simp [q'],rfl⟩

theorem l07In_is (a:Option Addr) (n cap:Nat) (Z:List Int) (y:Int) (w:World) (h:Ints .i64 w a n cap Z) (hn:n≤1000000) :
  Calls Tryz.prog 181 #[.slice a n cap,.int .i64 y] w fun e w'=>e=.returned (.bool (decide (y ∈ Z)))∧w=w':=by
 have hl:=h.1
 obtain ⟨r,hr⟩:∃ r,r=decide (y ∈ Z):=⟨_,rfl⟩
 rw [← hr]
 have HR:Hid (r=decide (y ∈ Z.drop 0)):=by rw [Hid];simpa using hr
 clear hr
 go_enter Tryz.func181,Tryz.ntmps181
 go_wp2_with fail
 go_loopw [5] (fun si wr=>∃ k:Nat,k≤n∧si=.int .i64 k∧Hid (r=decide (y ∈ Z.drop k))∧w=wr) (fun si _=>n - (intOf si).toNat)
 case atStart=>exact ⟨0,by omega,rfl,HR,rfl⟩
 case round =>
  clear HR
  obtain ⟨k,hk,rfl,HR,rfl⟩:=hrel
  by_cases hlt:k<n
  ·have hm:=mem_drop7 (Z:=Z) (k:=k) (by omega) y
   obtain ⟨_,_,_,hcase⟩:=h
   rcases hcase with e0 | ⟨b,off,rfl,hb,hc⟩
   ·omega
   have d0:=hc k hlt
   clear hc hb
   generalize Z.getD k 0=x at d0 hm
   have HM:Hid (decide (y ∈ Z.drop k)=(decide (y=x) || decide (y ∈ Z.drop (k+1)))):=hm
   clear hm
   have hlt':(k:Int)<(n:Int):=by omega
   have hk0:(0:Int)≤(k:Int):=by omega
   by_cases hE:y=x
   ·subst hE
    have HF:Hid (r=true):=by rw [Hid,HR.out,HM.out];simp
    clear HM HR
    have q0:(y == y)=true:=by simp
    go_wp2
    go_ret
    exact ⟨by rw [HF.out];rfl,rfl⟩
   ·have HF:Hid (r=decide (y ∈ Z.drop (k+1))):=by rw [Hid,HR.out,HM.out];simp [hE]
    clear HM HR
    have q0:(x == y)=false:=by simp;exact fun e=>hE e.symm
    clear hE
    go_wp2
    go_roundw
    case rel=>exact ⟨k+1,by omega,by go_num,HF,by first | rfl | trivial⟩
    case measure=>simp [intOf];omega
  ·obtain rfl:k=n:=by omega
   have HF:Hid (r=false):=by rw [Hid,HR.out,List.drop_of_length_le (by omega)];simp
   clear HR
   go_wp2
   go_ret
   exact ⟨by rw [HF.out];rfl,rfl⟩

def Asks7 (F:Nat) (lb:Array Value) (p:Int→Bool) (w:World) (g:Nat) (Z:List Int):Prop:=∀ W,w.grownBy W (some g)→∀ j ∈ Z,Calls Tryz.prog F (#[.int .i64 j]++lb) W fun e W'=>e=.returned (.bool (p j))∧Below W.heap.size W W'
def Idx7 (e:Ending) (p:Int→Bool) (Z:List Int):Prop:=∃ r:Int,e=.returned (.int .i64 r)∧((r=-1∧Z.filter (fun z=>!p z)=Z)∨∃ k:Nat,r=k∧k<Z.length∧(Z.take (k+1)).filter (fun z=>!p z)=Z.take k)
theorem grown_belowX {w W W':World} {g:Nat} (h:w.grownBy W (some g)) (hb:Below W.heap.size W W'):w.grownBy W' (some g):=
 ⟨hb.os.trans h.os,hb.tape.trans h.tape,hb.output.trans h.output,Nat.le_trans h.size hb.size,fun i hi hr=>(hb.block i (Nat.lt_of_lt_of_le hi h.size)).trans (h.block i hi hr)⟩
theorem take_snoc7 {Z:List Int} {k:Nat} (h:k<Z.length):Z.take (k+1)=Z.take k++[Z.getD k 0]:=by
 rw [List.take_succ_eq_append_getElem h];simp [List.getD,h]

theorem indexFunc_is (F:Nat) (lb:Array Value) (p:Int→Bool) (eg:∀ args w,(callFunc F args).run Tryz.prog w=.ok (.enter F args) w) (B g n cap:Nat) (Z:List Int) (w:World)
  (hq:w.ownsRow B 3 1 (.slice (some ⟨g,0,none⟩) n cap) n (Z.map (Value.int .i64))) (hl:Z.length=n) (hn:n≤1000000) (hf:Asks7 F lb p w g Z) :
  Calls Tryz.prog 175 #[.slice (some ⟨g,0,none⟩) n cap,.func (.func F) #[] lb] w fun e w'=>Idx7 e p Z∧Below w.heap.size w w':=by
 have HF0:Hid ((Z.take 0).filter (fun z=>!p z)=Z.take 0):=by rw [Hid];simp
 have HI:=Ints.of_owns hq
 clear hq
 go_enter Tryz.func175,Tryz.ntmps175
 go_wp2_with fail
 go_loopw [8] (fun si wr=>∃ k:Nat,k≤n∧si=.int .i64 k∧Hid ((Z.take k).filter (fun z=>!p z)=Z.take k)∧Below w.heap.size w wr) (fun si _=>n - (intOf si).toNat)
 case atStart=>exact ⟨0,by omega,rfl,HF0,Below.refl _ _⟩
 case round =>
  clear HF0
  obtain ⟨k,hk,rfl,HF,bw⟩:=hrel
  by_cases hlt:k<n
  ·have hz:Z.getD k 0 ∈ Z:=by simp [List.getD,show k<Z.length by omega]
   have kF:=hf wr ⟨bw.os,bw.tape,bw.output,bw.size,fun i hi _=>bw.block i hi⟩ (Z.getD k 0) hz
   have ht:=take_snoc7 (Z:=Z) (k:=k) (by omega)
   obtain ⟨_,_,_,hcase⟩:=HI.below bw
   rcases hcase with e0 | ⟨b,off,hb9,hb,hc⟩
   ·omega
   cases hb9
   have d0:=hc k hlt
   clear hc hb hz
   generalize Z.getD k 0=x at d0 kF ht
   have HT:Hid (Z.take (k+1)=Z.take k++[x]):=ht
   clear ht
   have hlt':(k:Int)<(n:Int):=by omega
   have hk0:(0:Int)≤(k:Int):=by omega
   have hkl:k<Z.length:=by omega
   rw [Nat.zero_add] at d0
   cases hp:p x with
   | true =>
    have HG:Hid ((Z.take (k+1)).filter (fun z=>!p z)=Z.take k):=by rw [Hid,HT.out,List.filter_append,HF.out];simp [hp]
    rw [hp] at kF
    clear HF HT hp
    go_wp2_with (go_at_fn F;refine kF.mono ?_;rintro e w2 ⟨rfl,hb2⟩)
    go_ret
    exact ⟨⟨k,rfl,.inr ⟨k,rfl,hkl,HG.out⟩⟩,bel_trans bw hb2⟩
   | false =>
    have HG:Hid ((Z.take (k+1)).filter (fun z=>!p z)=Z.take (k+1)):=by rw [Hid,HT.out,List.filter_append,HF.out];simp [hp]
    rw [hp] at kF
    clear HF HT hp
    go_wp2_with (go_at_fn F;refine kF.mono ?_;rintro e w2 ⟨rfl,hb2⟩)
    go_roundw
    case rel=>exact ⟨k+1,by omega,by go_num,HG,bel_trans bw hb2⟩
    case measure=>simp [intOf];omega
  ·obtain rfl:k=n:=by omega
   have HG:Hid (Z.filter (fun z=>!p z)=Z):=by
    have:=HF.out
    rw [List.take_of_length_le (by omega)] at this
    exact this
   clear HF
   go_wp2
   go_ret
   exact ⟨⟨-1,rfl,.inl ⟨rfl,HG.out⟩⟩,bw⟩

def Del7 (e:Ending) (w w':World) (B g cap:Nat) (zs:List Int):Prop:=e=.returned (.slice (some ⟨g,0,none⟩) zs.length cap)∧w'.ownsRow B 3 1 (.slice (some ⟨g,0,none⟩) zs.length cap) zs.length (zs.map (Value.int .i64))∧w.grownBy w' (some g)

theorem deleteFunc_is (F:Nat) (lb:Array Value) (p:Int→Bool) (eg:∀ args w,(callFunc F args).run Tryz.prog w=.ok (.enter F args) w) (B g n cap:Nat) (Z:List Int) (w:World)
  (hq:w.ownsRow B 3 1 (.slice (some ⟨g,0,none⟩) n cap) n (Z.map (Value.int .i64))) (hl:Z.length=n) (hn:n≤1000000) (hf:Asks7 F lb p w g Z) :
  Calls Tryz.prog 148 #[.slice (some ⟨g,0,none⟩) n cap,.func (.func F) #[] lb] w fun e w'=>Del7 e w w' B g cap (Z.filter (fun z=>!p z)):=by
 have hcap:n≤cap∧cap≤maxLen:=by
  rcases hq.2 with ⟨hv,_⟩ | ⟨g',cap',cur,hv,hB,hg,hn,hc,hsz,ht⟩
  ·cases hv
  ·cases hv
   exact ⟨hn,hc⟩
 unfold maxLen at hcap
 have kI:=indexFunc_is F lb p eg B g n cap Z w hq hl hn hf
 go_enter Tryz.func148,Tryz.ntmps148
 go_wp2_with fail
 refine kI.mono ?_
 rintro e w1 ⟨⟨r,rfl,hr⟩,hb1⟩
 clear kI
 have hq1:=owns_below hq hb1
 have gw1:w.grownBy w1 (some g):=⟨hb1.os,hb1.tape,hb1.output,hb1.size,fun i hi _=>hb1.block i hi⟩
 clear hb1 hq
 rcases hr with ⟨rfl,hE⟩ | ⟨k,rfl,hk,hE⟩
 ·have HE:Hid (Z.filter (fun z=>!p z)=Z):=hE
  clear hE hf
  go_wp2
  go_ret
  unfold Del7
  rw [HE.out,hl]
  exact ⟨rfl,hq1,gw1⟩
 ·have HE:Hid ((Z.take (k+1)).filter (fun z=>!p z)=Z.take k):=hE
  clear hE
  have hne:((k:Int) == -1)=false:=beq_eq_false_iff_ne.2 (by omega)
  have hw1:IntKind.i64.wrap ((k:Int)+1)=((k+1:Nat):Int):=by rw [IntWalk.i64_in _ ⟨by omega,by omega⟩];omega
  have Q0:w1.ownsRow B 3 1 (.slice (some ⟨g,0,none⟩) n cap) n ((Z.take k++Z.drop k).map (Value.int .i64)):=by rw [List.take_append_drop];exact hq1
  clear hq1
  go_wp2_with fail
  go_loopw [5,6] (fun si sj wr=>∃ (i j:Nat) (done:List Int),i<j∧j≤n∧si=.int .i64 i∧sj=.int .i64 j∧done.length=i∧Hid ((Z.take j).filter (fun z=>!p z)=done)∧wr.ownsRow B 3 1 (.slice (some ⟨g,0,none⟩) n cap) n ((done++Z.drop i).map (Value.int .i64))∧w.grownBy wr (some g)) (fun _ sj _=>n - (intOf sj).toNat)
  case atStart=>exact ⟨k,k+1,Z.take k,by omega,by omega,rfl,by go_num,by rw [List.length_take];omega,HE,Q0,gw1⟩
  case round =>
   clear Q0 gw1 HE hne hw1
   obtain ⟨i,j,done,hij,hjn,rfl,rfl,hdl,HD,Q,gw⟩:=hrel
   have hlen:(done++Z.drop i).length=n:=by rw [List.length_append,List.length_drop];omega
   by_cases hlt:j<n
   ·have hz:Z.getD j 0 ∈ Z:=by simp [List.getD,show j<Z.length by omega]
    have kF:=hf wr gw (Z.getD j 0) hz
    have ht:=take_snoc7 (Z:=Z) (k:=j) (by omega)
    have cj:wr.cell? ⟨g,j,none⟩=some (.int .i64 (Z.getD j 0)):=by
     rw [Q.cellAt j (by omega),List.getElem?_map,List.getElem?_append_right (by omega),List.getElem?_drop,show i+(j - done.length)=j by omega]
     simp [List.getD,show j<Z.length by omega]
    have hlt':(j:Int)<(n:Int):=by omega
    have hj0:(0:Int)≤(j:Int):=by omega
    have hi0:(0:Int)≤(i:Int):=by omega
    have hin':(i:Int)<(n:Int):=by omega
    have HS:Hid (∀ x:Int,((done++Z.drop i).map (Value.int .i64)).set i (.int .i64 x)=((done++[x])++Z.drop (i+1)).map (Value.int .i64)):=fun x=>by
     rw [← List.map_set,List.set_append_right _ _ (by omega),show i - done.length=0 by omega,List.drop_eq_getElem_cons (show i<Z.length by omega),List.set_cons_zero,List.append_assoc]
     rfl
    clear hz
    generalize Z.getD j 0=x at kF ht cj
    have HT:Hid (Z.take (j+1)=Z.take j++[x]):=ht
    clear ht
    cases hp:p x with
    | true =>
     have HG:Hid ((Z.take (j+1)).filter (fun z=>!p z)=done):=by rw [Hid,HT.out,List.filter_append,HD.out];simp [hp]
     rw [hp] at kF
     clear HD HT hp HS
     go_wp2_with (go_at_fn F;refine kF.mono ?_;rintro e w2 ⟨rfl,hb2⟩)
     have Q2:=owns_below Q hb2
     have g2:=grown_belowX gw hb2
     go_roundw
     case rel=>exact ⟨i,j+1,done,by omega,by omega,rfl,by go_num,hdl,HG,Q2,g2⟩
     case measure=>simp [intOf];omega
    | false =>
     have HG:Hid ((Z.take (j+1)).filter (fun z=>!p z)=done++[x]):=by rw [Hid,HT.out,List.filter_append,HD.out];simp [hp]
     rw [hp] at kF
     clear HD HT hp
     go_wp2_with fail
     go_at_fn F
     refine kF.mono ?_
     rintro e w2 ⟨rfl,hb2⟩
     have Q2:=owns_below Q hb2
     have g2:=grown_belowX gw hb2
     clear Q gw kF hb2 cj
     have fi:=Q2.frozenAt i
     have ci:=Q2.cellAt i (by omega)
     rw [List.getElem?_map,List.getElem?_append_right (by omega),show i - done.length=0 by omega,List.drop_eq_getElem_cons (show i<Z.length by omega)] at ci
     simp only [List.getElem?_cons_zero,Option.map_some] at ci
     obtain ⟨s1,s2⟩:=Q2.stored i (.int .i64 x)
     rw [HS.out] at s1
     have g3:=grownBy_tr g2 s2
     clear HS Q2 g2 s2
     go_wp2
     go_roundw
     case rel=>exact ⟨i+1,j+1,done++[x],by omega,by omega,by go_num,by go_num,by simp [hdl],HG,s1,g3⟩
     case measure=>simp [intOf];omega
   ·obtain rfl:j=n:=by omega
    have HX:Hid (Z.filter (fun z=>!p z)=done):=by
     have:=HD.out
     rw [List.take_of_length_le (by omega)] at this
     exact this
    have hnot:¬ ((j:Int)<(j:Int)):=by omega
    have rC:∀ W,(Instr.slice 27 (.slice (some ⟨g,0,none⟩) j cap) (some (.int .i64 (i:Int))) none none).run Tryz.prog W=.ok (.slice (some ⟨g,i,none⟩) (j - i) (cap - i)) W:=by
     intro W
     have h8:(i:Int)≤(j:Int):=by omega
     have h7:¬ (cap - i=0):=by omega
     go_simp
     omega
    have rH:∀ W,(Instr.slice 27 (.slice (some ⟨g,0,none⟩) j cap) none (some (.int .i64 (i:Int))) none).run Tryz.prog W=.ok (.slice (some ⟨g,0,none⟩) i cap) W:=by
     intro W
     have h8:(i:Int)≤(cap:Int):=by omega
     go_simp
    have hex:∀ k,k<j - i→(wr.cell? ⟨g,i+k,none⟩).isSome=true:=fun k hk=>by
     rw [Q.cellAt (i+k) (by omega)]
     have:=Q.1
     rw [List.getElem?_eq_getElem (by omega)]
     rfl
    have hcl:∀ ty,(Builtin.clear_ #[27] ty #[.slice (some ⟨g,i,none⟩) (j - i) (cap - i)]).run Tryz.prog wr=.ok (.tuple #[]) (wr.setCells g i (List.replicate (j - i) (.int .i64 0))):=fun ty =>
     Lib.run_clear_slice wr _ _ ty _ Tryz.underlying27 Tryz.zeroValue3 rfl rfl g i _ _ (by omega) hex (fun k _=>Q.frozenAt _)
    have hS:=own_shrink Q (show i≤j by omega)
    have hfl:((done++Z.drop i).map (Value.int .i64)).take (i*1)=done.map (Value.int .i64):=by
     rw [List.map_append,List.take_append_of_le_length (by rw [List.length_map];omega),List.take_of_length_le (by rw [List.length_map];omega)]
    rw [hfl] at hS
    have hS2:=own_fars (List.replicate (j - i) (.int .i64 0)) i wr hS (by omega)
    have gw2:=grownBy_tr gw (grown_sets g (List.replicate (j - i) (.int .i64 0)) i wr)
    have HR:Hid (∀ e,e=.returned (.slice (some ⟨g,0,none⟩) i cap)→Del7 e w (wr.setCells g i (List.replicate (j - i) (.int .i64 0))) B g cap (Z.filter (fun z=>!p z))):=fun e he=>by
     unfold Del7
     rw [HX.out,hdl]
     exact ⟨he,hS2,gw2⟩
    clear hS hS2 hfl hex Q HX gw gw2 HD hf
    generalize wr.setCells g i (List.replicate (j - i) (.int .i64 0))=w9 at *
    go_wp2
    go_ret
    exact HR.out _ rfl


theorem nodup_le {α:Type} [DecidableEq α]:∀ (l t:List α),l.Nodup→(∀ x ∈ l,x ∈ t)→l.length≤t.length
 | [],t,_,_=>Nat.zero_le _
 | x::l,t,hn,hs=>by
  have hn':=List.nodup_cons.1 hn
  have hx:x ∈ t:=hs x (by simp)
  have ih:=nodup_le l (t.erase x) hn'.2 (fun y hy=>by
   have hy':y ∈ t:=hs y (by simp [hy])
   have hne:y≠x:=fun e=>hn'.1 (e▸hy)
   exact (List.mem_erase_of_ne hne).2 hy')
  rw [List.length_erase_of_mem hx] at ih
  have:0<t.length:=List.length_pos_of_mem hx
  simp only [List.length_cons]
  omega
def treeN:Nat→Nat→Nat→Nat→Nat
 | 0,_,_,_=>1
 | f+1,a,b,c=>1+(if a=0 then 0 else treeN f (a - 1) b c)+(if b=0 then 0 else treeN f a (b - 1) c)+(if c=0 then 0 else treeN f a b (c - 1))
theorem treeN_mono:∀ (f a b c a' b' c':Nat),a≤a'→b≤b'→c≤c'→treeN f a b c≤treeN f a' b' c'
 | 0,_,_,_,_,_,_,_,_,_=>Nat.le_refl _
 | f+1,a,b,c,a',b',c',h1,h2,h3=>by
  have i1:=treeN_mono f (a - 1) b c (a' - 1) b' c' (by omega) h2 h3
  have i2:=treeN_mono f a (b - 1) c a' (b' - 1) c' h1 (by omega) h3
  have i3:=treeN_mono f a b (c - 1) a' b' (c' - 1) h1 h2 (by omega)
  show 1+(if a=0 then 0 else treeN f (a - 1) b c)+(if b=0 then 0 else treeN f a (b - 1) c)+(if c=0 then 0 else treeN f a b (c - 1))≤1+(if a'=0 then 0 else treeN f (a' - 1) b' c')+(if b'=0 then 0 else treeN f a' (b' - 1) c')+(if c'=0 then 0 else treeN f a' b' (c' - 1))
  have k1:(if a=0 then 0 else treeN f (a - 1) b c)≤(if a'=0 then 0 else treeN f (a' - 1) b' c'):=by
   by_cases e:a=0
   ·rw [if_pos e];exact Nat.zero_le _
   ·rw [if_neg e,if_neg (by omega)];exact i1
  have k2:(if b=0 then 0 else treeN f a (b - 1) c)≤(if b'=0 then 0 else treeN f a' (b' - 1) c'):=by
   by_cases e:b=0
   ·rw [if_pos e];exact Nat.zero_le _
   ·rw [if_neg e,if_neg (by omega)];exact i2
  have k3:(if c=0 then 0 else treeN f a b (c - 1))≤(if c'=0 then 0 else treeN f a' b' (c' - 1)):=by
   by_cases e:c=0
   ·rw [if_pos e];exact Nat.zero_le _
   ·rw [if_neg e,if_neg (by omega)];exact i3
  omega
theorem treeN_332:treeN 8 3 3 2=1749:=by decide
def treeM (rows:List (List I3)):Nat→V4→List V4
 | 0,m=>[m]
 | f+1,m=>m::(nxM rows m).flatMap fun t=>treeM rows f t.2
def remM (rows:List (List I3)) (m:V4) (k:Nat):Nat:=(codeM rows k).length - (m.1.getD k 0).toNat
theorem rem_step {rows:List (List I3)} {m:V4} (hp:progOk rows=true) (hs:shapeOk m=true) {k:Nat} (hk:k<3) (hd:doneM rows m k=false) :
  remM rows (goM rows m k).1 k+1≤remM rows m k∧∀ j,j≠k→remM rows (goM rows m k).1 j=remM rows m j:=by
 have h1:=stepM_own hp hs hk hd
 have hb:=shape_bounds hs
 have hpc:=getD_in hb.1 (by omega) k
 have hlt:m.1.getD k 0<(codeM rows k).length:=by
  unfold doneM at hd
  rw [decide_eq_false_iff_not] at hd
  omega
 rw [goM_natC]
 refine ⟨?_,fun j hj=>?_⟩
 ·unfold remM
  omega
 ·unfold remM
  rw [stepM_other m _ hj]
theorem enab_three {rows:List (List I3)} {m:V4} (F:Int→Nat):((enabM rows m 3).map F).sum=(if canM rows m 0 then F 0 else 0)+(if canM rows m 1 then F 1 else 0)+(if canM rows m 2 then F 2 else 0):=by
 have e:enabM rows m 3=(if canM rows m 2 then (if canM rows m 1 then (if canM rows m 0 then []++[(0:Int)] else [])++[(1:Int)] else (if canM rows m 0 then []++[(0:Int)] else []))++[(2:Int)] else (if canM rows m 1 then (if canM rows m 0 then []++[(0:Int)] else [])++[(1:Int)] else (if canM rows m 0 then []++[(0:Int)] else []))):=rfl
 rw [e]
 cases canM rows m 0<;>cases canM rows m 1<;>cases canM rows m 2<;>simp<;>omega
theorem treeM_len {rows:List (List I3)} (hp:progOk rows=true):∀ (f:Nat) (m:V4),shapeOk m=true→(treeM rows f m).length≤treeN f (remM rows m 0) (remM rows m 1) (remM rows m 2)
 | 0,m,_=>Nat.le_refl _
 | f+1,m,hs=>by
  have key:∀ k:Nat,k<3→canM rows m k=true→(treeM rows f (goM rows m (k:Int)).1).length≤treeN f (remM rows (goM rows m (k:Int)).1 0) (remM rows (goM rows m (k:Int)).1 1) (remM rows (goM rows m (k:Int)).1 2)∧doneM rows m k=false:=fun k hk hc=>by
   have hd:doneM rows m k=false:=by
    unfold canM at hc
    simp at hc
    exact hc.1
   exact ⟨treeM_len hp f _ (goM_shape hp hs (halt_go hk hc)),hd⟩
  have hl:(treeM rows (f+1) m).length=1+((enabM rows m 3).map fun k=>(treeM rows f (goM rows m k).1).length).sum:=by
   show ((m::(nxM rows m).flatMap fun t=>treeM rows f t.2)).length=_
   rw [List.length_cons,List.length_flatMap]
   unfold nxM
   rw [List.map_map]
   simp only [Function.comp_def]
   omega
  rw [hl,enab_three fun k=>(treeM rows f (goM rows m k).1).length]
  have b0:(if canM rows m 0 then (treeM rows f (goM rows m 0).1).length else 0)≤(if remM rows m 0=0 then 0 else treeN f (remM rows m 0 - 1) (remM rows m 1) (remM rows m 2)):=by
   by_cases hc:canM rows m 0=true
   ·obtain ⟨k1,hd⟩:=key 0 (by omega) hc
    obtain ⟨r1,r2⟩:=rem_step hp hs (show 0<3 by omega) hd
    rw [if_pos hc,if_neg (by omega)]
    refine Nat.le_trans k1 (treeN_mono f _ _ _ _ _ _ ?_ ?_ ?_)
    ·have:remM rows (goM rows m ((0:Nat):Int)).1 0+1≤remM rows m 0:=r1
     omega
    ·exact Nat.le_of_eq (r2 1 (by omega))
    ·exact Nat.le_of_eq (r2 2 (by omega))
   ·rw [if_neg hc];exact Nat.zero_le _
  have b1:(if canM rows m 1 then (treeM rows f (goM rows m 1).1).length else 0)≤(if remM rows m 1=0 then 0 else treeN f (remM rows m 0) (remM rows m 1 - 1) (remM rows m 2)):=by
   by_cases hc:canM rows m 1=true
   ·obtain ⟨k1,hd⟩:=key 1 (by omega) hc
    obtain ⟨r1,r2⟩:=rem_step hp hs (show 1<3 by omega) hd
    rw [if_pos hc,if_neg (by omega)]
    refine Nat.le_trans k1 (treeN_mono f _ _ _ _ _ _ ?_ ?_ ?_)
    ·exact Nat.le_of_eq (r2 0 (by omega))
    ·have:remM rows (goM rows m ((1:Nat):Int)).1 1+1≤remM rows m 1:=r1
     omega
    ·exact Nat.le_of_eq (r2 2 (by omega))
   ·rw [if_neg hc];exact Nat.zero_le _
  have b2:(if canM rows m 2 then (treeM rows f (goM rows m 2).1).length else 0)≤(if remM rows m 2=0 then 0 else treeN f (remM rows m 0) (remM rows m 1) (remM rows m 2 - 1)):=by
   by_cases hc:canM rows m 2=true
   ·obtain ⟨k1,hd⟩:=key 2 (by omega) hc
    obtain ⟨r1,r2⟩:=rem_step hp hs (show 2<3 by omega) hd
    rw [if_pos hc,if_neg (by omega)]
    refine Nat.le_trans k1 (treeN_mono f _ _ _ _ _ _ ?_ ?_ ?_)
    ·exact Nat.le_of_eq (r2 0 (by omega))
    ·exact Nat.le_of_eq (r2 1 (by omega))
    ·have:remM rows (goM rows m ((2:Nat):Int)).1 2+1≤remM rows m 2:=r1
     omega
   ·rw [if_neg hc];exact Nat.zero_le _
  show _≤1+(if remM rows m 0=0 then 0 else treeN f (remM rows m 0 - 1) (remM rows m 1) (remM rows m 2))+(if remM rows m 1=0 then 0 else treeN f (remM rows m 0) (remM rows m 1 - 1) (remM rows m 2))+(if remM rows m 2=0 then 0 else treeN f (remM rows m 0) (remM rows m 1) (remM rows m 2 - 1))
  omega
theorem tree_run {rows:List (List I3)}:∀ (f:Nat) (ks:List Int) (m:V4) (fs:List I3),ks.length≤f→(runI rows m fs ks).2.2=0→(runI rows m fs ks).1 ∈ treeM rows f m
 | 0,[],m,fs,_,_=>by simp [treeM,runI]
 | 0,k::ks,m,fs,h,_=>by simp at h
 | f+1,[],m,fs,_,_=>by simp [treeM,runI]
 | f+1,k::ks,m,fs,h,hz=>by
  obtain ⟨hh,he⟩:=runI_cons hz
  rw [he] at hz ⊢
  have ih:=tree_run f ks _ _ (by simpa using h) hz
  show _ ∈ m::(nxM rows m).flatMap fun t=>treeM rows f t.2
  exact List.mem_cons_of_mem _ (List.mem_flatMap.2 ⟨_,nxM_of hh,ih⟩)
theorem run_len {rows:List (List I3)} (hp:progOk rows=true):∀ (ks:List Int) (m:V4) (fs:List I3),shapeOk m=true→(runI rows m fs ks).2.2=0→ks.length≤remM rows m 0+remM rows m 1+remM rows m 2
 | [],_,_,_,_=>Nat.zero_le _
 | k::ks,m,fs,hs,hz=>by
  obtain ⟨hh,he⟩:=runI_cons hz
  rw [he] at hz
  have ih:=run_len hp ks _ _ (goM_shape hp hs hh) hz
  obtain ⟨h0,h2,hd,hc⟩:=halt_can hh
  obtain ⟨q,rfl⟩:∃ q:Nat,k=q:=⟨k.toNat,by omega⟩
  rw [Int.toNat_natCast] at hd
  obtain ⟨r1,r2⟩:=rem_step hp hs (show q<3 by omega) hd
  have hq:q=0∨q=1∨q=2:=by omega
  simp only [List.length_cons]
  rcases hq with rfl | rfl | rfl
  ·have a:=r2 1 (by omega);have b:=r2 2 (by omega);omega
  ·have a:=r2 0 (by omega);have b:=r2 2 (by omega);omega
  ·have a:=r2 0 (by omega);have b:=r2 1 (by omega);omega
theorem small_room {rows:List (List I3)} (hp:progOk rows=true) (h0:(codeM rows 0).length≤3) (h1:(codeM rows 1).length≤3) (h2:(codeM rows 2).length≤2):(fullS rows).length≤1749:=by
 have hz:∀ k,remM rows zeroV k≤(codeM rows k).length:=fun k=>by unfold remM;omega
 have hl:=treeM_len hp 8 zeroV zero_shape
 have hm:=treeN_mono 8 _ _ _ 3 3 2 (Nat.le_trans (hz 0) h0) (Nat.le_trans (hz 1) h1) (Nat.le_trans (hz 2) h2)
 rw [treeN_332] at hm
 have hn:=nodup_le ((fullS rows).map (·.1)) (treeM rows 8 zeroV) (fullS_nodup rows) (fun x hx=>by
  obtain ⟨r,hr,rfl⟩:=List.mem_map.1 hx
  obtain ⟨j,hj,hje⟩:=List.getElem_of_mem hr
  obtain ⟨p1,p2,p3⟩:=path_run (fullS_came rows) (fullS_head rows) j j r (Nat.le_refl _) (by rw [List.getElem?_eq_getElem hj,hje])
  have hlen:=run_len hp _ zeroV [] zero_shape p2
  have a:=hz 0
  have b:=hz 1
  have c:=hz 2
  have:=tree_run 8 _ zeroV [] (show (pathS (fullS rows) j j).length≤8 by omega) p2
  rw [p1] at this
  exact this)
 rw [List.length_map] at hn
 omega
end Go.Proofs.YtifoggpohlegmaaGreatDoor
