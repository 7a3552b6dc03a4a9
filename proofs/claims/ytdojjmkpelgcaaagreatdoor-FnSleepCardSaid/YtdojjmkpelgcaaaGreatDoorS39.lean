/-
  Joined: DelI, FulB, FulD, NrmQ, SlpP, SaI, KeyB, SrcP, SpcP, SpcH.
-/
import Derived.Maps.OwnSet
import Derived.Test.YtdojjmkpelgcaaaGreatDoorS37

namespace Go.Proofs.YtdojjmkpelgcaaaGreatDoor
set_option maxRecDepth 100000
open Go.RowKit
set_option linter.unusedVariables false
set_option linter.unusedSimpArgs false

def IdxV (e:Ending) (b:Bool):Prop:=∃ r:Int,e=.returned (.int .i64 r)∧decide (0≤r)=b
theorem mem_drop7 {Z:List Int} {k:Nat} (h:k<Z.length) (y:Int):decide (y ∈ Z.drop k)=(decide (y=Z.getD k 0) || decide (y ∈ Z.drop (k+1))):=by
 have e:(y ∈ Z.drop k)↔(y=Z.getD k 0∨y ∈ Z.drop (k+1)):=by
  rw [List.drop_eq_getElem_cons h,List.mem_cons]
  simp only [List.getD,List.getElem?_eq_getElem h,Option.getD_some]
 simp only [e,Bool.decide_or]

set_option maxHeartbeats 1000000 in
theorem indexInt_is (a:Option Addr) (n cap:Nat) (Z:List Int) (y:Int) (w:World) (h:Ints .i64 w a n cap Z) (hn:n≤1000000) :
  Calls Tryz.prog 125 #[.slice a n cap,.int .i64 y] w fun e w'=>IdxV e (decide (y ∈ Z))∧w=w':=by
 have hl:=h.1
 obtain ⟨r,hr⟩:∃ r,r=decide (y ∈ Z):=⟨_,rfl⟩
 rw [← hr]
 have HR:Hid (r=decide (y ∈ Z.drop 0)):=by rw [Hid];simpa using hr
 clear hr
 go_enter Tryz.func125,Tryz.ntmps125
 go_wp2_with fail
 go_loopw [8] (fun si wr=>∃ k:Nat,k≤n∧si=.int .i64 k∧Hid (r=decide (y ∈ Z.drop k))∧w=wr) (fun si _=>n - (intOf si).toNat)
 case atStart=>exact ⟨0,by omega,rfl,HR,rfl⟩
 case round =>
  clear HR
  obtain ⟨k,hk,rfl,HR,rfl⟩:=hrel
  by_cases hlt:k<n
  ·have hm:=mem_drop7 (Z:=Z) (k:=k) (by omega) y
   obtain ⟨_,_,_,hcase⟩:=h
   rcases hcase with e0 | ⟨b,off,rfl,hb,hc⟩
   ·omega
   have d0:=hc k hlt
   clear hc hb
   generalize Z.getD k 0=x at d0 hm
   have HM:Hid (decide (y ∈ Z.drop k)=(decide (y=x) || decide (y ∈ Z.drop (k+1)))):=hm
   clear hm
   have hlt':(k:Int)<(n:Int):=by omega
   have hk0:(0:Int)≤(k:Int):=by omega
   by_cases hE:y=x
   ·subst hE
    have HF:Hid (r=true):=by rw [Hid,HR.out,HM.out];simp
    clear HM HR
    have q0:(y == y)=true:=by simp
    go_wp2
    go_ret
    exact ⟨⟨k,rfl,by rw [HF.out];simp⟩,rfl⟩
   ·have HF:Hid (r=decide (y ∈ Z.drop (k+1))):=by rw [Hid,HR.out,HM.out];simp [hE]
    clear HM HR
    have q0:(y == x)=false:=by simp [hE]
    clear hE
    go_wp2
    go_roundw
    case rel=>exact ⟨k+1,by omega,by go_num,HF,by first | rfl | trivial⟩
    case measure=>simp [intOf];omega
  ·obtain rfl:k=n:=by omega
   have HF:Hid (r=false):=by rw [Hid,HR.out,List.drop_of_length_le (by omega)];simp
   clear HR
   go_wp2
   go_ret
   exact ⟨⟨-1,rfl,by rw [HF.out];rfl⟩,rfl⟩

set_option maxHeartbeats 1000000 in
theorem containsInt_is (a:Option Addr) (n cap:Nat) (Z:List Int) (y:Int) (w:World) (h:Ints .i64 w a n cap Z) (hn:n≤1000000) :
  Calls Tryz.prog 78 #[.slice a n cap,.int .i64 y] w fun e w'=>e=.returned (.bool (decide (y ∈ Z)))∧w=w':=by
 have kI:=indexInt_is a n cap Z y w h hn
 clear h
 generalize decide (y ∈ Z)=r at *
 go_enter Tryz.func78,Tryz.ntmps78
 go_wp2_with fail
 refine kI.mono ?_
 rintro e w1 ⟨⟨i,rfl,hi⟩,rfl⟩
 clear kI
 cases r
 ·have q:decide (0≤i)=false:=hi
  have q':¬ (0≤i):=by simpa using hi
  clear hi
  go_wp2
  go_ret
  exact ⟨by simp [q'],rfl⟩
 ·have q:decide (0≤i)=true:=hi
  have q':0≤i:=by simpa using hi
  clear hi
  go_wp2
  go_ret
  exact ⟨by simp [q'],rfl⟩

set_option maxHeartbeats 1000000 in
theorem l07In_is (a:Option Addr) (n cap:Nat) (Z:List Int) (y:Int) (w:World) (h:Ints .i64 w a n cap Z) (hn:n≤1000000) :
  Calls Tryz.prog 162 #[.slice a n cap,.int .i64 y] w fun e w'=>e=.returned (.bool (decide (y ∈ Z)))∧w=w':=by
 have hl:=h.1
 obtain ⟨r,hr⟩:∃ r,r=decide (y ∈ Z):=⟨_,rfl⟩
 rw [← hr]
 have HR:Hid (r=decide (y ∈ Z.drop 0)):=by rw [Hid];simpa using hr
 clear hr
 go_enter Tryz.func162,Tryz.ntmps162
 go_wp2_with fail
 go_loopw [5] (fun si wr=>∃ k:Nat,k≤n∧si=.int .i64 k∧Hid (r=decide (y ∈ Z.drop k))∧w=wr) (fun si _=>n - (intOf si).toNat)
 case atStart=>exact ⟨0,by omega,rfl,HR,rfl⟩
 case round =>
  clear HR
  obtain ⟨k,hk,rfl,HR,rfl⟩:=hrel
  by_cases hlt:k<n
  ·have hm:=mem_drop7 (Z:=Z) (k:=k) (by omega) y
   obtain ⟨_,_,_,hcase⟩:=h
   rcases hcase with e0 | ⟨b,off,rfl,hb,hc⟩
   ·omega
   have d0:=hc k hlt
   clear hc hb
   generalize Z.getD k 0=x at d0 hm
   have HM:Hid (decide (y ∈ Z.drop k)=(decide (y=x) || decide (y ∈ Z.drop (k+1)))):=hm
   clear hm
   have hlt':(k:Int)<(n:Int):=by omega
   have hk0:(0:Int)≤(k:Int):=by omega
   by_cases hE:y=x
   ·subst hE
    have HF:Hid (r=true):=by rw [Hid,HR.out,HM.out];simp
    clear HM HR
    have q0:(y == y)=true:=by simp
    go_wp2
    go_ret
    exact ⟨by rw [HF.out];rfl,rfl⟩
   ·have HF:Hid (r=decide (y ∈ Z.drop (k+1))):=by rw [Hid,HR.out,HM.out];simp [hE]
    clear HM HR
    have q0:(x == y)=false:=by simp;exact fun e=>hE e.symm
    clear hE
    go_wp2
    go_roundw
    case rel=>exact ⟨k+1,by omega,by go_num,HF,by first | rfl | trivial⟩
    case measure=>simp [intOf];omega
  ·obtain rfl:k=n:=by omega
   have HF:Hid (r=false):=by rw [Hid,HR.out,List.drop_of_length_le (by omega)];simp
   clear HR
   go_wp2
   go_ret
   exact ⟨by rw [HF.out];rfl,rfl⟩

def Asks7 (F:Nat) (lb:Array Value) (p:Int→Bool) (w:World) (g:Nat) (Z:List Int):Prop:=∀ W,w.grownBy W (some g)→∀ j ∈ Z,Calls Tryz.prog F (#[.int .i64 j]++lb) W fun e W'=>e=.returned (.bool (p j))∧Below W.heap.size W W'
def Idx7 (e:Ending) (p:Int→Bool) (Z:List Int):Prop:=∃ r:Int,e=.returned (.int .i64 r)∧((r=-1∧Z.filter (fun z=>!p z)=Z)∨∃ k:Nat,r=k∧k<Z.length∧(Z.take (k+1)).filter (fun z=>!p z)=Z.take k)
theorem grown_belowX {w W W':World} {g:Nat} (h:w.grownBy W (some g)) (hb:Below W.heap.size W W'):w.grownBy W' (some g):=
 ⟨hb.os.trans h.os,hb.tape.trans h.tape,hb.output.trans h.output,Nat.le_trans h.size hb.size,fun i hi hr=>(hb.block i (Nat.lt_of_lt_of_le hi h.size)).trans (h.block i hi hr)⟩
theorem take_snoc7 {Z:List Int} {k:Nat} (h:k<Z.length):Z.take (k+1)=Z.take k++[Z.getD k 0]:=by
 rw [List.take_succ_eq_append_getElem h];simp [List.getD,h]

set_option maxHeartbeats 1000000 in
theorem indexFunc_is (F:Nat) (lb:Array Value) (p:Int→Bool) (eg:∀ args w,(callFunc F args).run Tryz.prog w=.ok (.enter F args) w) (B g n cap:Nat) (Z:List Int) (w:World)
  (hq:w.ownsRow B 3 1 (.slice (some ⟨g,0,none⟩) n cap) n (Z.map (Value.int .i64))) (hl:Z.length=n) (hn:n≤1000000) (hf:Asks7 F lb p w g Z) :
  Calls Tryz.prog 156 #[.slice (some ⟨g,0,none⟩) n cap,.func (.func F) #[] lb] w fun e w'=>Idx7 e p Z∧Below w.heap.size w w':=by
 have HF0:Hid ((Z.take 0).filter (fun z=>!p z)=Z.take 0):=by rw [Hid];simp
 have HI:=Ints.of_owns hq
 clear hq
 go_enter Tryz.func156,Tryz.ntmps156
 go_wp2_with fail
 go_loopw [8] (fun si wr=>∃ k:Nat,k≤n∧si=.int .i64 k∧Hid ((Z.take k).filter (fun z=>!p z)=Z.take k)∧Below w.heap.size w wr) (fun si _=>n - (intOf si).toNat)
 case atStart=>exact ⟨0,by omega,rfl,HF0,Below.refl _ _⟩
 case round =>
  clear HF0
  obtain ⟨k,hk,rfl,HF,bw⟩:=hrel
  by_cases hlt:k<n
  ·have hz:Z.getD k 0 ∈ Z:=by simp [List.getD,show k<Z.length by omega]
   have kF:=hf wr ⟨bw.os,bw.tape,bw.output,bw.size,fun i hi _=>bw.block i hi⟩ (Z.getD k 0) hz
   have ht:=take_snoc7 (Z:=Z) (k:=k) (by omega)
   obtain ⟨_,_,_,hcase⟩:=HI.below bw
   rcases hcase with e0 | ⟨b,off,hb9,hb,hc⟩
   ·omega
   cases hb9
   have d0:=hc k hlt
   clear hc hb hz
   generalize Z.getD k 0=x at d0 kF ht
   have HT:Hid (Z.take (k+1)=Z.take k++[x]):=ht
   clear ht
   have hlt':(k:Int)<(n:Int):=by omega
   have hk0:(0:Int)≤(k:Int):=by omega
   have hkl:k<Z.length:=by omega
   rw [Nat.zero_add] at d0
   cases hp:p x with
   | true =>
    have HG:Hid ((Z.take (k+1)).filter (fun z=>!p z)=Z.take k):=by rw [Hid,HT.out,List.filter_append,HF.out];simp [hp]
    rw [hp] at kF
    clear HF HT hp
    go_wp2_with (go_at_fn F;refine kF.mono ?_;rintro e w2 ⟨rfl,hb2⟩)
    go_ret
    exact ⟨⟨k,rfl,.inr ⟨k,rfl,hkl,HG.out⟩⟩,bel_trans bw hb2⟩
   | false =>
    have HG:Hid ((Z.take (k+1)).filter (fun z=>!p z)=Z.take (k+1)):=by rw [Hid,HT.out,List.filter_append,HF.out];simp [hp]
    rw [hp] at kF
    clear HF HT hp
    go_wp2_with (go_at_fn F;refine kF.mono ?_;rintro e w2 ⟨rfl,hb2⟩)
    go_roundw
    case rel=>exact ⟨k+1,by omega,by go_num,HG,bel_trans bw hb2⟩
    case measure=>simp [intOf];omega
  ·obtain rfl:k=n:=by omega
   have HG:Hid (Z.filter (fun z=>!p z)=Z):=by
    have:=HF.out
    rw [List.take_of_length_le (by omega)] at this
    exact this
   clear HF
   go_wp2
   go_ret
   exact ⟨⟨-1,rfl,.inl ⟨rfl,HG.out⟩⟩,bw⟩

def Del7 (e:Ending) (w w':World) (B g cap:Nat) (zs:List Int):Prop:=e=.returned (.slice (some ⟨g,0,none⟩) zs.length cap)∧w'.ownsRow B 3 1 (.slice (some ⟨g,0,none⟩) zs.length cap) zs.length (zs.map (Value.int .i64))∧w.grownBy w' (some g)

set_option maxHeartbeats 2000000 in
theorem deleteFunc_is (F:Nat) (lb:Array Value) (p:Int→Bool) (eg:∀ args w,(callFunc F args).run Tryz.prog w=.ok (.enter F args) w) (B g n cap:Nat) (Z:List Int) (w:World)
  (hq:w.ownsRow B 3 1 (.slice (some ⟨g,0,none⟩) n cap) n (Z.map (Value.int .i64))) (hl:Z.length=n) (hn:n≤1000000) (hf:Asks7 F lb p w g Z) :
  Calls Tryz.prog 127 #[.slice (some ⟨g,0,none⟩) n cap,.func (.func F) #[] lb] w fun e w'=>Del7 e w w' B g cap (Z.filter (fun z=>!p z)):=by
 have hcap:n≤cap∧cap≤maxLen:=by
  rcases hq.2 with ⟨hv,_⟩ | ⟨g',cap',cur,hv,hB,hg,hn,hc,hsz,ht⟩
  ·cases hv
  ·cases hv
   exact ⟨hn,hc⟩
 unfold maxLen at hcap
 have kI:=indexFunc_is F lb p eg B g n cap Z w hq hl hn hf
 go_enter Tryz.func127,Tryz.ntmps127
 go_wp2_with fail
 refine kI.mono ?_
 rintro e w1 ⟨⟨r,rfl,hr⟩,hb1⟩
 clear kI
 have hq1:=owns_below hq hb1
 have gw1:w.grownBy w1 (some g):=⟨hb1.os,hb1.tape,hb1.output,hb1.size,fun i hi _=>hb1.block i hi⟩
 clear hb1 hq
 rcases hr with ⟨rfl,hE⟩ | ⟨k,rfl,hk,hE⟩
 ·have HE:Hid (Z.filter (fun z=>!p z)=Z):=hE
  clear hE hf
  go_wp2
  go_ret
  unfold Del7
  rw [HE.out,hl]
  exact ⟨rfl,hq1,gw1⟩
 ·have HE:Hid ((Z.take (k+1)).filter (fun z=>!p z)=Z.take k):=hE
  clear hE
  have hne:((k:Int) == -1)=false:=beq_eq_false_iff_ne.2 (by omega)
  have hw1:IntKind.i64.wrap ((k:Int)+1)=((k+1:Nat):Int):=by rw [IntWalk.i64_in _ ⟨by omega,by omega⟩];omega
  have Q0:w1.ownsRow B 3 1 (.slice (some ⟨g,0,none⟩) n cap) n ((Z.take k++Z.drop k).map (Value.int .i64)):=by rw [List.take_append_drop];exact hq1
  clear hq1
  go_wp2_with fail
  go_loopw [5,6] (fun si sj wr=>∃ (i j:Nat) (done:List Int),i<j∧j≤n∧si=.int .i64 i∧sj=.int .i64 j∧done.length=i∧Hid ((Z.take j).filter (fun z=>!p z)=done)∧wr.ownsRow B 3 1 (.slice (some ⟨g,0,none⟩) n cap) n ((done++Z.drop i).map (Value.int .i64))∧w.grownBy wr (some g)) (fun _ sj _=>n - (intOf sj).toNat)
  case atStart=>exact ⟨k,k+1,Z.take k,by omega,by omega,rfl,by go_num,by rw [List.length_take];omega,HE,Q0,gw1⟩
  case round =>
   clear Q0 gw1 HE hne hw1
   obtain ⟨i,j,done,hij,hjn,rfl,rfl,hdl,HD,Q,gw⟩:=hrel
   have hlen:(done++Z.drop i).length=n:=by rw [List.length_append,List.length_drop];omega
   by_cases hlt:j<n
   ·have hz:Z.getD j 0 ∈ Z:=by simp [List.getD,show j<Z.length by omega]
    have kF:=hf wr gw (Z.getD j 0) hz
    have ht:=take_snoc7 (Z:=Z) (k:=j) (by omega)
    have cj:wr.cell? ⟨g,j,none⟩=some (.int .i64 (Z.getD j 0)):=by
     rw [Q.cellAt j (by omega),List.getElem?_map,List.getElem?_append_right (by omega),List.getElem?_drop,show i+(j - done.length)=j by omega]
     simp [List.getD,show j<Z.length by omega]
    have hlt':(j:Int)<(n:Int):=by omega
    have hj0:(0:Int)≤(j:Int):=by omega
    have hi0:(0:Int)≤(i:Int):=by omega
    have hin':(i:Int)<(n:Int):=by omega
    have HS:Hid (∀ x:Int,((done++Z.drop i).map (Value.int .i64)).set i (.int .i64 x)=((done++[x])++Z.drop (i+1)).map (Value.int .i64)):=fun x=>by
     rw [← List.map_set,List.set_append_right _ _ (by omega),show i - done.length=0 by omega,List.drop_eq_getElem_cons (show i<Z.length by omega),List.set_cons_zero,List.append_assoc]
     rfl
    clear hz
    generalize Z.getD j 0=x at kF ht cj
    have HT:Hid (Z.take (j+1)=Z.take j++[x]):=ht
    clear ht
    cases hp:p x with
    | true =>
     have HG:Hid ((Z.take (j+1)).filter (fun z=>!p z)=done):=by rw [Hid,HT.out,List.filter_append,HD.out];simp [hp]
     rw [hp] at kF
     clear HD HT hp HS
     go_wp2_with (go_at_fn F;refine kF.mono ?_;rintro e w2 ⟨rfl,hb2⟩)
     have Q2:=owns_below Q hb2
     have g2:=grown_belowX gw hb2
     go_roundw
     case rel=>exact ⟨i,j+1,done,by omega,by omega,rfl,by go_num,hdl,HG,Q2,g2⟩
     case measure=>simp [intOf];omega
    | false =>
     have HG:Hid ((Z.take (j+1)).filter (fun z=>!p z)=done++[x]):=by rw [Hid,HT.out,List.filter_append,HD.out];simp [hp]
     rw [hp] at kF
     clear HD HT hp
     go_wp2_with fail
     go_at_fn F
     refine kF.mono ?_
     rintro e w2 ⟨rfl,hb2⟩
     have Q2:=owns_below Q hb2
     have g2:=grown_belowX gw hb2
     clear Q gw kF hb2 cj
     have fi:=Q2.frozenAt i
     have ci:=Q2.cellAt i (by omega)
     rw [List.getElem?_map,List.getElem?_append_right (by omega),show i - done.length=0 by omega,List.drop_eq_getElem_cons (show i<Z.length by omega)] at ci
     simp only [List.getElem?_cons_zero,Option.map_some] at ci
     obtain ⟨s1,s2⟩:=Q2.stored i (.int .i64 x)
     rw [HS.out] at s1
     have g3:=grownBy_tr g2 s2
     clear HS Q2 g2 s2
     go_wp2
     go_roundw
     case rel=>exact ⟨i+1,j+1,done++[x],by omega,by omega,by go_num,by go_num,by simp [hdl],HG,s1,g3⟩
     case measure=>simp [intOf];omega
   ·obtain rfl:j=n:=by omega
    have HX:Hid (Z.filter (fun z=>!p z)=done):=by
     have:=HD.out
     rw [List.take_of_length_le (by omega)] at this
     exact this
    have hnot:¬ ((j:Int)<(j:Int)):=by omega
    have rC:∀ W,(Instr.slice 27 (.slice (some ⟨g,0,none⟩) j cap) (some (.int .i64 (i:Int))) none none).run Tryz.prog W=.ok (.slice (some ⟨g,i,none⟩) (j - i) (cap - i)) W:=by
     intro W
     have h8:(i:Int)≤(j:Int):=by omega
     have h7:¬ (cap - i=0):=by omega
     go_simp
     omega
    have rH:∀ W,(Instr.slice 27 (.slice (some ⟨g,0,none⟩) j cap) none (some (.int .i64 (i:Int))) none).run Tryz.prog W=.ok (.slice (some ⟨g,0,none⟩) i cap) W:=by
     intro W
     have h8:(i:Int)≤(cap:Int):=by omega
     go_simp
    have hex:∀ k,k<j - i→(wr.cell? ⟨g,i+k,none⟩).isSome=true:=fun k hk=>by
     rw [Q.cellAt (i+k) (by omega)]
     have:=Q.1
     rw [List.getElem?_eq_getElem (by omega)]
     rfl
    have hcl:∀ ty,(Builtin.clear_ #[27] ty #[.slice (some ⟨g,i,none⟩) (j - i) (cap - i)]).run Tryz.prog wr=.ok (.tuple #[]) (wr.setCells g i (List.replicate (j - i) (.int .i64 0))):=fun ty =>
     Lib.run_clear_slice wr _ _ ty _ Tryz.underlying27 Tryz.zeroValue3 rfl rfl g i _ _ (by omega) hex (fun k _=>Q.frozenAt _)
    have hS:=own_shrink Q (show i≤j by omega)
    have hfl:((done++Z.drop i).map (Value.int .i64)).take (i*1)=done.map (Value.int .i64):=by
     rw [List.map_append,List.take_append_of_le_length (by rw [List.length_map];omega),List.take_of_length_le (by rw [List.length_map];omega)]
    rw [hfl] at hS
    have hS2:=own_fars (List.replicate (j - i) (.int .i64 0)) i wr hS (by omega)
    have gw2:=grownBy_tr gw (grown_sets g (List.replicate (j - i) (.int .i64 0)) i wr)
    have HR:Hid (∀ e,e=.returned (.slice (some ⟨g,0,none⟩) i cap)→Del7 e w (wr.setCells g i (List.replicate (j - i) (.int .i64 0))) B g cap (Z.filter (fun z=>!p z))):=fun e he=>by
     unfold Del7
     rw [HX.out,hdl]
     exact ⟨he,hS2,gw2⟩
    clear hS hS2 hfl hex Q HX gw gw2 HD hf
    generalize wr.setCells g i (List.replicate (j - i) (.int .i64 0))=w9 at *
    go_wp2
    go_ret
    exact HR.out _ rfl


theorem nodup_le {α:Type} [DecidableEq α]:∀ (l t:List α),l.Nodup→(∀ x ∈ l,x ∈ t)→l.length≤t.length
 | [],t,_,_=>Nat.zero_le _
 | x::l,t,hn,hs=>by
  have hn':=List.nodup_cons.1 hn
  have hx:x ∈ t:=hs x (by simp)
  have ih:=nodup_le l (t.erase x) hn'.2 (fun y hy=>by
   have hy':y ∈ t:=hs y (by simp [hy])
   have hne:y≠x:=fun e=>hn'.1 (e▸hy)
   exact (List.mem_erase_of_ne hne).2 hy')
  rw [List.length_erase_of_mem hx] at ih
  have:0<t.length:=List.length_pos_of_mem hx
  simp only [List.length_cons]
  omega
def treeN:Nat→Nat→Nat→Nat→Nat
 | 0,_,_,_=>1
 | f+1,a,b,c=>1+(if a=0 then 0 else treeN f (a - 1) b c)+(if b=0 then 0 else treeN f a (b - 1) c)+(if c=0 then 0 else treeN f a b (c - 1))
theorem treeN_mono:∀ (f a b c a' b' c':Nat),a≤a'→b≤b'→c≤c'→treeN f a b c≤treeN f a' b' c'
 | 0,_,_,_,_,_,_,_,_,_=>Nat.le_refl _
 | f+1,a,b,c,a',b',c',h1,h2,h3=>by
  have i1:=treeN_mono f (a - 1) b c (a' - 1) b' c' (by omega) h2 h3
  have i2:=treeN_mono f a (b - 1) c a' (b' - 1) c' h1 (by omega) h3
  have i3:=treeN_mono f a b (c - 1) a' b' (c' - 1) h1 h2 (by omega)
  show 1+(if a=0 then 0 else treeN f (a - 1) b c)+(if b=0 then 0 else treeN f a (b - 1) c)+(if c=0 then 0 else treeN f a b (c - 1))≤1+(if a'=0 then 0 else treeN f (a' - 1) b' c')+(if b'=0 then 0 else treeN f a' (b' - 1) c')+(if c'=0 then 0 else treeN f a' b' (c' - 1))
  have k1:(if a=0 then 0 else treeN f (a - 1) b c)≤(if a'=0 then 0 else treeN f (a' - 1) b' c'):=by
   by_cases e:a=0
   ·rw [if_pos e];exact Nat.zero_le _
   ·rw [if_neg e,if_neg (by omega)];exact i1
  have k2:(if b=0 then 0 else treeN f a (b - 1) c)≤(if b'=0 then 0 else treeN f a' (b' - 1) c'):=by
   by_cases e:b=0
   ·rw [if_pos e];exact Nat.zero_le _
   ·rw [if_neg e,if_neg (by omega)];exact i2
  have k3:(if c=0 then 0 else treeN f a b (c - 1))≤(if c'=0 then 0 else treeN f a' b' (c' - 1)):=by
   by_cases e:c=0
   ·rw [if_pos e];exact Nat.zero_le _
   ·rw [if_neg e,if_neg (by omega)];exact i3
  omega
theorem treeN_332:treeN 8 3 3 2=1749:=by decide
def treeM (rows:List (List I3)):Nat→V4→List V4
 | 0,m=>[m]
 | f+1,m=>m::(nxM rows m).flatMap fun t=>treeM rows f t.2
def remM (rows:List (List I3)) (m:V4) (k:Nat):Nat:=(codeM rows k).length - (m.1.getD k 0).toNat
theorem rem_step {rows:List (List I3)} {m:V4} (hp:progOk rows=true) (hs:shapeOk m=true) {k:Nat} (hk:k<3) (hd:doneM rows m k=false) :
  remM rows (goM rows m k).1 k+1≤remM rows m k∧∀ j,j≠k→remM rows (goM rows m k).1 j=remM rows m j:=by
 have h1:=stepM_own hp hs hk hd
 have hb:=shape_bounds hs
 have hpc:=getD_in hb.1 (by omega) k
 have hlt:m.1.getD k 0<(codeM rows k).length:=by
  unfold doneM at hd
  rw [decide_eq_false_iff_not] at hd
  omega
 rw [goM_natC]
 refine ⟨?_,fun j hj=>?_⟩
 ·unfold remM
  omega
 ·unfold remM
  rw [stepM_other m _ hj]
theorem enab_three {rows:List (List I3)} {m:V4} (F:Int→Nat):((enabM rows m 3).map F).sum=(if canM rows m 0 then F 0 else 0)+(if canM rows m 1 then F 1 else 0)+(if canM rows m 2 then F 2 else 0):=by
 have e:enabM rows m 3=(if canM rows m 2 then (if canM rows m 1 then (if canM rows m 0 then []++[(0:Int)] else [])++[(1:Int)] else (if canM rows m 0 then []++[(0:Int)] else []))++[(2:Int)] else (if canM rows m 1 then (if canM rows m 0 then []++[(0:Int)] else [])++[(1:Int)] else (if canM rows m 0 then []++[(0:Int)] else []))):=rfl
 rw [e]
 cases canM rows m 0<;>cases canM rows m 1<;>cases canM rows m 2<;>simp<;>omega
theorem treeM_len {rows:List (List I3)} (hp:progOk rows=true):∀ (f:Nat) (m:V4),shapeOk m=true→(treeM rows f m).length≤treeN f (remM rows m 0) (remM rows m 1) (remM rows m 2)
 | 0,m,_=>Nat.le_refl _
 | f+1,m,hs=>by
  have key:∀ k:Nat,k<3→canM rows m k=true→(treeM rows f (goM rows m (k:Int)).1).length≤treeN f (remM rows (goM rows m (k:Int)).1 0) (remM rows (goM rows m (k:Int)).1 1) (remM rows (goM rows m (k:Int)).1 2)∧doneM rows m k=false:=fun k hk hc=>by
   have hd:doneM rows m k=false:=by
    unfold canM at hc
    simp at hc
    exact hc.1
   exact ⟨treeM_len hp f _ (goM_shape hp hs (halt_go hk hc)),hd⟩
  have hl:(treeM rows (f+1) m).length=1+((enabM rows m 3).map fun k=>(treeM rows f (goM rows m k).1).length).sum:=by
   show ((m::(nxM rows m).flatMap fun t=>treeM rows f t.2)).length=_
   rw [List.length_cons,List.length_flatMap]
   unfold nxM
   rw [List.map_map]
   simp only [Function.comp_def]
   omega
  rw [hl,enab_three fun k=>(treeM rows f (goM rows m k).1).length]
  have b0:(if canM rows m 0 then (treeM rows f (goM rows m 0).1).length else 0)≤(if remM rows m 0=0 then 0 else treeN f (remM rows m 0 - 1) (remM rows m 1) (remM rows m 2)):=by
   by_cases hc:canM rows m 0=true
   ·obtain ⟨k1,hd⟩:=key 0 (by omega) hc
    obtain ⟨r1,r2⟩:=rem_step hp hs (show 0<3 by omega) hd
    rw [if_pos hc,if_neg (by omega)]
    refine Nat.le_trans k1 (treeN_mono f _ _ _ _ _ _ ?_ ?_ ?_)
    ·have:remM rows (goM rows m ((0:Nat):Int)).1 0+1≤remM rows m 0:=r1
     omega
    ·exact Nat.le_of_eq (r2 1 (by omega))
    ·exact Nat.le_of_eq (r2 2 (by omega))
   ·rw [if_neg hc];exact Nat.zero_le _
  have b1:(if canM rows m 1 then (treeM rows f (goM rows m 1).1).length else 0)≤(if remM rows m 1=0 then 0 else treeN f (remM rows m 0) (remM rows m 1 - 1) (remM rows m 2)):=by
   by_cases hc:canM rows m 1=true
   ·obtain ⟨k1,hd⟩:=key 1 (by omega) hc
    obtain ⟨r1,r2⟩:=rem_step hp hs (show 1<3 by omega) hd
    rw [if_pos hc,if_neg (by omega)]
    refine Nat.le_trans k1 (treeN_mono f _ _ _ _ _ _ ?_ ?_ ?_)
    ·exact Nat.le_of_eq (r2 0 (by omega))
    ·have:remM rows (goM rows m ((1:Nat):Int)).1 1+1≤remM rows m 1:=r1
     omega
    ·exact Nat.le_of_eq (r2 2 (by omega))
   ·rw [if_neg hc];exact Nat.zero_le _
  have b2:(if canM rows m 2 then (treeM rows f (goM rows m 2).1).length else 0)≤(if remM rows m 2=0 then 0 else treeN f (remM rows m 0) (remM rows m 1) (remM rows m 2 - 1)):=by
   by_cases hc:canM rows m 2=true
   ·obtain ⟨k1,hd⟩:=key 2 (by omega) hc
    obtain ⟨r1,r2⟩:=rem_step hp hs (show 2<3 by omega) hd
    rw [if_pos hc,if_neg (by omega)]
    refine Nat.le_trans k1 (treeN_mono f _ _ _ _ _ _ ?_ ?_ ?_)
    ·exact Nat.le_of_eq (r2 0 (by omega))
    ·exact Nat.le_of_eq (r2 1 (by omega))
    ·have:remM rows (goM rows m ((2:Nat):Int)).1 2+1≤remM rows m 2:=r1
     omega
   ·rw [if_neg hc];exact Nat.zero_le _
  show _≤1+(if remM rows m 0=0 then 0 else treeN f (remM rows m 0 - 1) (remM rows m 1) (remM rows m 2))+(if remM rows m 1=0 then 0 else treeN f (remM rows m 0) (remM rows m 1 - 1) (remM rows m 2))+(if remM rows m 2=0 then 0 else treeN f (remM rows m 0) (remM rows m 1) (remM rows m 2 - 1))
  omega
theorem tree_run {rows:List (List I3)}:∀ (f:Nat) (ks:List Int) (m:V4) (fs:List I3),ks.length≤f→(runI rows m fs ks).2.2=0→(runI rows m fs ks).1 ∈ treeM rows f m
 | 0,[],m,fs,_,_=>by simp [treeM,runI]
 | 0,k::ks,m,fs,h,_=>by simp at h
 | f+1,[],m,fs,_,_=>by simp [treeM,runI]
 | f+1,k::ks,m,fs,h,hz=>by
  obtain ⟨hh,he⟩:=runI_cons hz
  rw [he] at hz ⊢
  have ih:=tree_run f ks _ _ (by simpa using h) hz
  show _ ∈ m::(nxM rows m).flatMap fun t=>treeM rows f t.2
  exact List.mem_cons_of_mem _ (List.mem_flatMap.2 ⟨_,nxM_of hh,ih⟩)
theorem run_len {rows:List (List I3)} (hp:progOk rows=true):∀ (ks:List Int) (m:V4) (fs:List I3),shapeOk m=true→(runI rows m fs ks).2.2=0→ks.length≤remM rows m 0+remM rows m 1+remM rows m 2
 | [],_,_,_,_=>Nat.zero_le _
 | k::ks,m,fs,hs,hz=>by
  obtain ⟨hh,he⟩:=runI_cons hz
  rw [he] at hz
  have ih:=run_len hp ks _ _ (goM_shape hp hs hh) hz
  obtain ⟨h0,h2,hd,hc⟩:=halt_can hh
  obtain ⟨q,rfl⟩:∃ q:Nat,k=q:=⟨k.toNat,by omega⟩
  rw [Int.toNat_natCast] at hd
  obtain ⟨r1,r2⟩:=rem_step hp hs (show q<3 by omega) hd
  have hq:q=0∨q=1∨q=2:=by omega
  simp only [List.length_cons]
  rcases hq with rfl | rfl | rfl
  ·have a:=r2 1 (by omega);have b:=r2 2 (by omega);omega
  ·have a:=r2 0 (by omega);have b:=r2 2 (by omega);omega
  ·have a:=r2 0 (by omega);have b:=r2 1 (by omega);omega
theorem small_room {rows:List (List I3)} (hp:progOk rows=true) (h0:(codeM rows 0).length≤3) (h1:(codeM rows 1).length≤3) (h2:(codeM rows 2).length≤2):(fullS rows).length≤1749:=by
 have hz:∀ k,remM rows zeroV k≤(codeM rows k).length:=fun k=>by unfold remM;omega
 have hl:=treeM_len hp 8 zeroV zero_shape
 have hm:=treeN_mono 8 _ _ _ 3 3 2 (Nat.le_trans (hz 0) h0) (Nat.le_trans (hz 1) h1) (Nat.le_trans (hz 2) h2)
 rw [treeN_332] at hm
 have hn:=nodup_le ((fullS rows).map (·.1)) (treeM rows 8 zeroV) (fullS_nodup rows) (fun x hx=>by
  obtain ⟨r,hr,rfl⟩:=List.mem_map.1 hx
  obtain ⟨j,hj,hje⟩:=List.getElem_of_mem hr
  obtain ⟨p1,p2,p3⟩:=path_run (fullS_came rows) (fullS_head rows) j j r (Nat.le_refl _) (by rw [List.getElem?_eq_getElem hj,hje])
  have hlen:=run_len hp _ zeroV [] zero_shape p2
  have a:=hz 0
  have b:=hz 1
  have c:=hz 2
  have:=tree_run 8 _ zeroV [] (show (pathS (fullS rows) j j).length≤8 by omega) p2
  rw [p1] at this
  exact this)
 rw [List.length_map] at hn
 omega


def capN (n:Nat):Nat:=Nat.min n 1000000
def cntF (rows:List (List I3)):Nat→V4→Nat
 | 0,_=>1
 | f+1,m=>if enabM rows m 3=[] then 1 else capN ((enabM rows m 3).map fun k=>cntF rows f (goM rows m k).1).sum
def leftN (rows:List (List I3)) (m:V4):Nat:=remM rows m 0+remM rows m 1+remM rows m 2
def cntM (rows:List (List I3)) (m:V4):Nat:=cntF rows (leftN rows m) m
theorem left_step {rows:List (List I3)} {m:V4} (hp:progOk rows=true) (hs:shapeOk m=true) {k:Int} (h:haltM rows m k=0):leftN rows (goM rows m k).1+1≤leftN rows m:=by
 obtain ⟨h0,h2,hd,hc⟩:=halt_can h
 obtain ⟨q,rfl⟩:∃ q:Nat,k=q:=⟨k.toNat,by omega⟩
 rw [Int.toNat_natCast] at hd
 obtain ⟨r1,r2⟩:=rem_step hp hs (show q<3 by omega) hd
 unfold leftN
 have hq:q=0∨q=1∨q=2:=by omega
 rcases hq with rfl | rfl | rfl
 ·have a:=r2 1 (by omega);have b:=r2 2 (by omega);omega
 ·have a:=r2 0 (by omega);have b:=r2 2 (by omega);omega
 ·have a:=r2 0 (by omega);have b:=r2 1 (by omega);omega
theorem enab_halt {rows:List (List I3)} {m:V4} {k:Int} (h:k ∈ enabM rows m 3):haltM rows m k=0:=(nxM_mem (t:=(k,(goM rows m k).1)) (List.mem_map.2 ⟨k,h,rfl⟩)).1
theorem enab_none {rows:List (List I3)} {m:V4} (hp:progOk rows=true) (hs:shapeOk m=true) (h:leftN rows m=0):enabM rows m 3=[]:=by
 rw [List.eq_nil_iff_forall_not_mem]
 intro k hk
 have:=left_step hp hs (enab_halt hk)
 omega
theorem cntF_more {rows:List (List I3)} (hp:progOk rows=true):∀ (f:Nat) (m:V4),shapeOk m=true→leftN rows m≤f→cntF rows (f+1) m=cntF rows f m
 | 0,m,hs,h=>by
  show (if enabM rows m 3=[] then 1 else _)=1
  rw [if_pos (enab_none hp hs (by omega))]
 | f+1,m,hs,h=>by
  show (if enabM rows m 3=[] then 1 else capN ((enabM rows m 3).map fun k=>cntF rows (f+1) (goM rows m k).1).sum)=(if enabM rows m 3=[] then 1 else capN ((enabM rows m 3).map fun k=>cntF rows f (goM rows m k).1).sum)
  have e:((enabM rows m 3).map fun k=>cntF rows (f+1) (goM rows m k).1)=((enabM rows m 3).map fun k=>cntF rows f (goM rows m k).1):=by
   refine List.map_congr_left (fun k hk=>?_)
   have hz:=enab_halt hk
   exact cntF_more hp f _ (goM_shape hp hs hz) (by have:=left_step hp hs hz;omega)
  rw [e]
theorem cntF_any {rows:List (List I3)} (hp:progOk rows=true) {m:V4} (hs:shapeOk m=true):∀ (d:Nat),cntF rows (leftN rows m+d) m=cntM rows m
 | 0=>rfl
 | d+1=>by
  rw [← Nat.add_assoc,cntF_more hp _ m hs (by omega)]
  exact cntF_any hp hs d
theorem cnt_eq {rows:List (List I3)} (hp:progOk rows=true) {m:V4} (hs:shapeOk m=true):cntM rows m=if enabM rows m 3=[] then 1 else capN ((enabM rows m 3).map fun k=>cntM rows (goM rows m k).1).sum:=by
 have h1:cntM rows m=cntF rows (leftN rows m+1) m:=(cntF_any hp hs 1).symm
 rw [h1]
 show (if enabM rows m 3=[] then 1 else capN ((enabM rows m 3).map fun k=>cntF rows (leftN rows m) (goM rows m k).1).sum)=_
 have e:((enabM rows m 3).map fun k=>cntF rows (leftN rows m) (goM rows m k).1)=((enabM rows m 3).map fun k=>cntM rows (goM rows m k).1):=by
  refine List.map_congr_left (fun k hk=>?_)
  have hz:=enab_halt hk
  have hl:=left_step hp hs hz
  obtain ⟨d,hd⟩:∃ d,leftN rows m=leftN rows (goM rows m k).1+d:=⟨leftN rows m - leftN rows (goM rows m k).1,by omega⟩
  rw [hd]
  exact cntF_any hp (goM_shape hp hs hz) d
 rw [e]
theorem capN_le (n:Nat):capN n≤1000000:=Nat.min_le_right _ _
theorem capN_eq (n:Nat):capN n=min n 1000000:=rfl
theorem cnt_bounds {rows:List (List I3)} (hp:progOk rows=true):∀ (f:Nat) (m:V4),shapeOk m=true→leftN rows m≤f→1≤cntM rows m∧cntM rows m≤1000000
 | 0,m,hs,h=>by
  rw [cnt_eq hp hs,if_pos (enab_none hp hs (by omega))]
  omega
 | f+1,m,hs,h=>by
  rw [cnt_eq hp hs]
  by_cases he:enabM rows m 3=[]
  ·rw [if_pos he];omega
  ·rw [if_neg he]
   refine ⟨?_,capN_le _⟩
   cases hx:enabM rows m 3 with
   | nil=>exact absurd hx he
   | cons k ks =>
    have hk:k ∈ enabM rows m 3:=by rw [hx];simp
    have hz:=enab_halt hk
    have:=(cnt_bounds hp f _ (goM_shape hp hs hz) (by have:=left_step hp hs hz;omega)).1
    rw [List.map_cons,List.sum_cons,capN_eq]
    omega
theorem cap_fold (F:Int→Nat):∀ (ks:List Int) (s:Nat),s≤1000000→ks.foldl (fun s k=>capN (s+F k)) s=capN (s+(ks.map F).sum)
 | [],s,h=>by simp [capN_eq];omega
 | k::ks,s,h=>by
  rw [List.foldl_cons,cap_fold F ks _ (capN_le _),List.map_cons,List.sum_cons]
  simp only [capN_eq]
  omega
def pcsN (m:V4):Int:=m.1.getD 0 0+m.1.getD 1 0+m.1.getD 2 0
theorem pcs_step {rows:List (List I3)} {m:V4} (hp:progOk rows=true) (hs:shapeOk m=true) {k:Int} (h:haltM rows m k=0):pcsN m<pcsN (goM rows m k).1:=by
 obtain ⟨h0,h2,hd,hc⟩:=halt_can h
 obtain ⟨q,rfl⟩:∃ q:Nat,k=q:=⟨k.toNat,by omega⟩
 rw [Int.toNat_natCast] at hd
 have h1:=stepM_own hp hs (show q<3 by omega) hd
 have ho:=fun j (hj:j≠q)=>stepM_other m (insM rows m q) hj
 rw [goM_natC]
 unfold pcsN
 have hq:q=0∨q=1∨q=2:=by omega
 rcases hq with rfl | rfl | rfl
 ·have a:=ho 1 (by omega);have b:=ho 2 (by omega);omega
 ·have a:=ho 0 (by omega);have b:=ho 2 (by omega);omega
 ·have a:=ho 0 (by omega);have b:=ho 1 (by omega);omega
theorem pcs_bounds {m:V4} (hs:shapeOk m=true):0≤pcsN m∧pcsN m≤18:=by
 have hb:=(shape_bounds hs).1
 have a:=getD_in hb (by omega) 0
 have b:=getD_in hb (by omega) 1
 have c:=getD_in hb (by omega) 2
 unfold pcsN
 omega


theorem depM_symm (x y:I4):depM x y=depM y x:=by
 unfold depM
 by_cases h1:x.1=y.1
 ·simp [h1]
 ·have h1':¬ y.1=x.1:=fun e=>h1 e.symm
  by_cases h2:x.2.2.2=y.2.2.2
  ·simp only [h1,h1',h2,decide_false,Bool.false_or,decide_true,Bool.and_true]
   rw [Bool.and_comm (decide (x.2.2.1=1))]
  ·have h2':¬ y.2.2.2=x.2.2.2:=fun e=>h2 e.symm
   simp [h1,h1',h2,h2']
def Sw1 (es es':List I4):Prop:=∃ a x y b,es=a++x::y::b∧es'=a++y::x::b∧depM x y=false
inductive Sw:List I4→List I4→Prop
 | refl (es:List I4):Sw es es
 | step {es es' es'':List I4}:Sw es es'→Sw1 es' es''→Sw es es''
theorem Sw1.symm {es es':List I4} (h:Sw1 es es'):Sw1 es' es:=by
 obtain ⟨a,x,y,b,h1,h2,h3⟩:=h
 exact ⟨a,y,x,b,h2,h1,by rw [depM_symm];exact h3⟩
theorem Sw.trans {a b c:List I4} (h:Sw a b) (g:Sw b c):Sw a c:=by
 induction g with
 | refl=>exact h
 | step _ s ih=>exact .step ih s
theorem Sw.symm {a b:List I4} (h:Sw a b):Sw b a:=by
 induction h with
 | refl=>exact .refl _
 | step _ s ih=>exact (Sw.step (.refl _) s.symm).trans ih
theorem Sw1.cons {es es':List I4} (e:I4) (h:Sw1 es es'):Sw1 (e::es) (e::es'):=by
 obtain ⟨a,x,y,b,h1,h2,h3⟩:=h
 exact ⟨e::a,x,y,b,by rw [h1];rfl,by rw [h2];rfl,h3⟩
theorem Sw.cons {es es':List I4} (e:I4) (h:Sw es es'):Sw (e::es) (e::es'):=by
 induction h with
 | refl=>exact .refl _
 | step _ s ih=>exact .step ih (s.cons e)


def stillM (rows:List (List I3)) (m:V4) (Z:List Int) (k:Int):List Int:=Z.filter fun j=>!depM (eventM rows m k.toNat) (eventM rows m j.toNat)
abbrev St7:=List I3 × Nat × Nat
def slpL (rows:List (List I3)) (m:V4) (rec:V4→List Int→St7→St7):List Int→List Int→St7→St7
 | [],_,st=>st
 | k::ks,Z,st=>if k ∈ Z then slpL rows m rec ks Z st else slpL rows m rec ks (Z++[k]) (rec (goM rows m k).1 (stillM rows m Z k) (st.1++ownM rows m k,st.2))
def inSt (rows:List (List I3)) (m:V4) (st:St7):St7:=(st.1++deadM rows m,st.2.1+(if enabM rows m 3=[] then 1 else 0),st.2.2+1)
def visI (rows:List (List I3)):Nat→V4→List Int→St7→St7
 | 0,_,_,st=>st
 | f+1,m,Z,st=>if 5000<st.2.2+1 then (st.1,st.2.1,st.2.2+1) else slpL rows m (visI rows f) (enabM rows m 3) Z (inSt rows m st)
def schL (rows:List (List I3)) (m:V4) (rec:V4→List Int→St7→St7 × Bool):List Int→List Int→St7→St7 × Bool
 | [],_,o=>(o,true)
 | k::ks,Z,o=>if k ∈ Z then schL rows m rec ks Z o else
   if (rec (goM rows m k).1 (stillM rows m Z k) (mergeB o.1 (foundM rows m k),o.2)).2 then schL rows m rec ks (Z++[k]) (rec (goM rows m k).1 (stillM rows m Z k) (mergeB o.1 (foundM rows m k),o.2)).1
   else ((rec (goM rows m k).1 (stillM rows m Z k) (mergeB o.1 (foundM rows m k),o.2)).1,false)
def schS (rows:List (List I3)):Nat→V4→List Int→St7→St7 × Bool
 | 0,_,_,o=>(o,true)
 | f+1,m,Z,o=>if 5000<o.2.2+1 then ((o.1,o.2.1,o.2.2+1),false) else schL rows m (schS rows f) (enabM rows m 3) Z (o.1,o.2.1+(if enabM rows m 3=[] then 1 else 0),o.2.2+1)

theorem slpL_skip {rows:List (List I3)} {m:V4} {rec:V4→List Int→St7→St7} {k:Int} {ks Z:List Int} {st:St7} (h:k ∈ Z):slpL rows m rec (k::ks) Z st=slpL rows m rec ks Z st:=by
 rw [slpL,if_pos h]
theorem slpL_go {rows:List (List I3)} {m:V4} {rec:V4→List Int→St7→St7} {k:Int} {ks Z:List Int} {st:St7} (h:k ∉ Z):slpL rows m rec (k::ks) Z st=slpL rows m rec ks (Z++[k]) (rec (goM rows m k).1 (stillM rows m Z k) (st.1++ownM rows m k,st.2)):=by
 rw [slpL,if_neg h]
theorem schL_skip {rows:List (List I3)} {m:V4} {rec:V4→List Int→St7→St7 × Bool} {k:Int} {ks Z:List Int} {o:St7} (h:k ∈ Z):schL rows m rec (k::ks) Z o=schL rows m rec ks Z o:=by
 rw [schL,if_pos h]
theorem schL_go {rows:List (List I3)} {m:V4} {rec:V4→List Int→St7→St7 × Bool} {k:Int} {ks Z:List Int} {o:St7} (h:k ∉ Z):schL rows m rec (k::ks) Z o =
  if (rec (goM rows m k).1 (stillM rows m Z k) (mergeB o.1 (foundM rows m k),o.2)).2 then schL rows m rec ks (Z++[k]) (rec (goM rows m k).1 (stillM rows m Z k) (mergeB o.1 (foundM rows m k),o.2)).1
  else ((rec (goM rows m k).1 (stillM rows m Z k) (mergeB o.1 (foundM rows m k),o.2)).1,false):=by
 rw [schL,if_neg h]

theorem slpL_mono {rows:List (List I3)} {m:V4} {rec:V4→List Int→St7→St7} (hr:∀ m Z st,st.2.2≤(rec m Z st).2.2):∀ (ks Z:List Int) (st:St7),st.2.2≤(slpL rows m rec ks Z st).2.2
 | [],_,st=>Nat.le_refl _
 | k::ks,Z,st=>by
  by_cases h:k ∈ Z
  ·rw [slpL_skip h];exact slpL_mono hr ks Z st
  ·rw [slpL_go h]
   exact Nat.le_trans (hr _ _ (st.1++ownM rows m k,st.2)) (slpL_mono hr ks _ _)
theorem visI_mono (rows:List (List I3)):∀ (f:Nat) (m:V4) (Z:List Int) (st:St7),st.2.2≤(visI rows f m Z st).2.2
 | 0,_,_,_=>Nat.le_refl _
 | f+1,m,Z,st=>by
  rw [visI]
  split
  ·exact Nat.le_succ _
  ·exact Nat.le_trans (Nat.le_succ _) (slpL_mono (visI_mono rows f) _ _ (inSt rows m st))

theorem enab_le3 (rows:List (List I3)) (m:V4):(enabM rows m 3).length≤3:=by
 have h:∀ n,(enabM rows m n).length≤n:=fun n=>by
  induction n with
  | zero=>exact Nat.le_refl _
  | succ n ih =>
   rw [enabM]
   split
   ·rw [List.length_append];simp;omega
   ·omega
 exact h 3
def roomT:Nat→Nat
 | 0=>0
 | f+1=>1+3*roomT f
theorem slpL_room {rows:List (List I3)} {m:V4} {rec:V4→List Int→St7→St7} {T:Nat} (hr:∀ m Z st,(rec m Z st).2.2≤st.2.2+T):∀ (ks Z:List Int) (st:St7),(slpL rows m rec ks Z st).2.2≤st.2.2+ks.length*T
 | [],_,st=>by simp [slpL]
 | k::ks,Z,st=>by
  have e:(ks.length+1)*T=ks.length*T+T:=Nat.succ_mul _ _
  rw [List.length_cons,e]
  by_cases h:k ∈ Z
  ·rw [slpL_skip h]
   have:=slpL_room (rows:=rows) (m:=m) hr ks Z st
   omega
  ·rw [slpL_go h]
   have a:=hr (goM rows m k).1 (stillM rows m Z k) (st.1++ownM rows m k,st.2)
   have b:=slpL_room (rows:=rows) (m:=m) hr ks (Z++[k]) (rec (goM rows m k).1 (stillM rows m Z k) (st.1++ownM rows m k,st.2))
   simp only at a
   omega
theorem visI_room (rows:List (List I3)):∀ (f:Nat) (m:V4) (Z:List Int) (st:St7),(visI rows f m Z st).2.2≤st.2.2+roomT f
 | 0,_,_,_=>Nat.le_refl _
 | f+1,m,Z,st=>by
  rw [visI]
  split
  ·simp only [roomT];omega
  ·have a:=slpL_room (rows:=rows) (m:=m) (visI_room rows f) (enabM rows m 3) Z (inSt rows m st)
   have b:=enab_le3 rows m
   have c:(enabM rows m 3).length*roomT f≤3*roomT f:=Nat.mul_le_mul_right _ b
   have d:(inSt rows m st).2.2=st.2.2+1:=rfl
   rw [d] at a
   simp only [roomT]
   omega
theorem own_le1 (rows:List (List I3)) (m:V4) (k:Int):(ownM rows m k).length≤1:=by unfold ownM;split<;>simp
theorem dead_le1 (rows:List (List I3)) (m:V4):(deadM rows m).length≤1:=by unfold deadM;split<;>simp
theorem slpL_size {rows:List (List I3)} {m:V4} {rec:V4→List Int→St7→St7} (hr:∀ m Z st c,st.1.length+c≤4*st.2.2→st.2.1≤st.2.2→(rec m Z st).1.length+c≤4*(rec m Z st).2.2∧(rec m Z st).2.1≤(rec m Z st).2.2) :
  ∀ (ks Z:List Int) (st:St7) (c:Nat),st.1.length+ks.length+c≤4*st.2.2→st.2.1≤st.2.2→(slpL rows m rec ks Z st).1.length+c≤4*(slpL rows m rec ks Z st).2.2∧(slpL rows m rec ks Z st).2.1≤(slpL rows m rec ks Z st).2.2
 | [],_,st,c,h,h'=>⟨by simp only [slpL];simp at h;omega,h'⟩
 | k::ks,Z,st,c,h,h'=>by
  rw [List.length_cons] at h
  by_cases hk:k ∈ Z
  ·rw [slpL_skip hk]
   exact slpL_size hr ks Z st c (by omega) h'
  ·rw [slpL_go hk]
   have o:=own_le1 rows m k
   obtain ⟨a,b⟩:=hr (goM rows m k).1 (stillM rows m Z k) (st.1++ownM rows m k,st.2) (ks.length+c) (by rw [List.length_append];simp only;omega) h'
   exact slpL_size hr ks _ _ c (by omega) b
theorem visI_size (rows:List (List I3)):∀ (f:Nat) (m:V4) (Z:List Int) (st:St7) (c:Nat),st.1.length+c≤4*st.2.2→st.2.1≤st.2.2→(visI rows f m Z st).1.length+c≤4*(visI rows f m Z st).2.2∧(visI rows f m Z st).2.1≤(visI rows f m Z st).2.2
 | 0,_,_,st,c,h,h'=>⟨h,h'⟩
 | f+1,m,Z,st,c,h,h'=>by
  rw [visI]
  split
  ·exact ⟨by simp only;omega,by simp only;omega⟩
  ·have b:=enab_le3 rows m
   have d:=dead_le1 rows m
   refine slpL_size (visI_size rows f) _ _ _ c ?_ ?_
   ·unfold inSt;rw [List.length_append];simp only;omega
   ·unfold inSt;simp only;split<;>omega

def Out7 (st:St7) (o:St7 × Bool):Prop:=(o.2=true→st.2=o.1.2∧Rises o.1.1∧(∀ x,x ∈ o.1.1↔x ∈ st.1)∧st.2.2≤5000)∧(o.2=false→5000<st.2.2)
theorem schL_vis {rows:List (List I3)} {m:V4} {f:Nat} (hp:progOk rows=true) (hs:shapeOk m=true) (hf:leftN rows m≤f)
  (ih:∀ m Z (st o:St7),shapeOk m=true→leftN rows m<f→st.2=o.2→Rises o.1→(∀ x,x ∈ o.1↔x ∈ st.1∨x ∈ deadM rows m)→Out7 (visI rows f m Z st) (schS rows f m Z o)) :
  ∀ (ks Z:List Int) (st o:St7),(∀ k ∈ ks,haltM rows m k=0)→st.2=o.2→Rises o.1→(∀ x,x ∈ o.1↔x ∈ st.1)→st.2.2≤5000→Out7 (slpL rows m (visI rows f) ks Z st) (schL rows m (schS rows f) ks Z o)
 | [],Z,st,o,_,h1,h2,h3,h4=>⟨fun _=>⟨h1,h2,h3,h4⟩,fun h=>by simp [schL] at h⟩
 | k::ks,Z,st,o,hk,h1,h2,h3,h4=>by
  have hk':∀ j ∈ ks,haltM rows m j=0:=fun j hj=>hk j (List.mem_cons_of_mem _ hj)
  by_cases hz:k ∈ Z
  ·rw [slpL_skip hz,schL_skip hz]
   exact schL_vis hp hs hf ih ks Z st o hk' h1 h2 h3 h4
  ·rw [slpL_go hz,schL_go hz]
   have h0:=hk k (List.mem_cons_self ..)
   have hl:=left_step hp hs h0
   obtain ⟨a,b⟩:=ih (goM rows m k).1 (stillM rows m Z k) (st.1++ownM rows m k,st.2) (mergeB o.1 (foundM rows m k),o.2) (goM_shape hp hs h0) (by omega) h1 (mergeB_rises _ _) (fun x=>by
    rw [mem_mergeB,mem_found,h3,List.mem_append,or_assoc])
   generalize visI rows f (goM rows m k).1 (stillM rows m Z k) (st.1++ownM rows m k,st.2)=s' at *
   generalize schS rows f (goM rows m k).1 (stillM rows m Z k) (mergeB o.1 (foundM rows m k),o.2)=o' at *
   obtain ⟨o',ok⟩:=o'
   cases ok
   ·refine ⟨fun h=>by simp at h,fun _=>?_⟩
    exact Nat.lt_of_lt_of_le (b rfl) (slpL_mono (visI_mono rows f) _ _ _)
   ·obtain ⟨c1,c2,c3,c4⟩:=a rfl
    simp only [if_true]
    exact schL_vis hp hs hf ih ks _ _ _ hk' c1 c2 c3 c4
theorem sch_vis {rows:List (List I3)} (hp:progOk rows=true):∀ (f:Nat) (m:V4) (Z:List Int) (st o:St7),shapeOk m=true→leftN rows m<f→st.2=o.2→Rises o.1→(∀ x,x ∈ o.1↔x ∈ st.1∨x ∈ deadM rows m)→Out7 (visI rows f m Z st) (schS rows f m Z o)
 | 0,_,_,_,_,_,h,_,_,_=>absurd h (Nat.not_lt_zero _)
 | f+1,m,Z,st,o,hs,hf,h1,h2,h3=>by
  rw [visI,schS,← h1]
  by_cases h:5000<st.2.2+1
  ·rw [if_pos h,if_pos h]
   exact ⟨fun q=>by simp at q,fun _=>h⟩
  ·rw [if_neg h,if_neg h]
   refine schL_vis hp hs (by omega) (sch_vis hp f) _ _ _ _ (fun k hk=>enab_halt hk) rfl h2 (fun x=>?_) (by unfold inSt;simp only;omega)
   unfold inSt
   rw [h3,List.mem_append]
theorem left_18 {rows:List (List I3)} (hp:progOk rows=true) (m:V4):leftN rows m≤18:=by
 obtain ⟨h1,h2⟩:=progOk_parts hp
 have h:∀ k,(codeM rows k).length≤6:=fun k=>by
  unfold codeM
  rcases Nat.lt_or_ge k rows.length with hk | hk
  ·simp only [List.getD,List.getElem?_eq_getElem hk,Option.getD_some]
   exact (h2 _ (List.getElem_mem hk)).1
  ·simp [List.getD,List.getElem?_eq_none hk]
 unfold leftN remM
 have a:=h 0;have b:=h 1;have c:=h 2
 omega
def slpS (rows:List (List I3)):St7:=visI rows 19 zeroV [] ([],0,0)
def slpO (rows:List (List I3)):St7 × Bool:=schS rows 19 zeroV [] (deadM rows zeroV,0,0)
theorem dead_rises (rows:List (List I3)) (m:V4):Rises (deadM rows m):=by
 unfold deadM
 split
 ·exact List.pairwise_singleton _ _
 ·exact List.Pairwise.nil
theorem slp_same {rows:List (List I3)} (hp:progOk rows=true):Out7 (slpS rows) (slpO rows):=
 sch_vis hp 19 zeroV [] _ _ zero_shape (by have:=left_18 hp zeroV;omega) rfl (dead_rises _ _) (fun x=>by simp)
theorem slp_ok {rows:List (List I3)} (hp:progOk rows=true):(slpO rows).2=decide ((slpS rows).2.2≤5000):=by
 obtain ⟨a,b⟩:=slp_same hp
 cases h:(slpO rows).2
 ·have:=b h
  simp;omega
 ·have:=(a h).2.2.2
  simp [this]
theorem slp_bugs {rows:List (List I3)} (hp:progOk rows=true) (h:(slpS rows).2.2≤5000):(slpO rows).1=(mergeB (slpS rows).1 [],(slpS rows).2):=by
 obtain ⟨a,b⟩:=slp_same hp
 have ho:(slpO rows).2=true:=by rw [slp_ok hp];simp [h]
 obtain ⟨c1,c2,c3,c4⟩:=a ho
 have e:(slpO rows).1.1=mergeB (slpS rows).1 []:=c2.same (mergeB_rises _ _) (fun x=>by rw [c3,mem_mergeB];simp)
 rw [c1,← e]


def RowGot (e:Ending) (w:World) (B:Nat) (ks:List Int):Prop:=∃ v,e=.returned v∧w.ownsRow B 3 1 v ks.length (ks.map (Value.int .i64))
def SlpOk (rows:List (List I3)) (m:V4) (Z:List Int):Prop:=∀ j ∈ Z,∃ q:Nat,j=q∧q<3∧doneM rows m q=false

set_option maxHeartbeats 1000000 in
theorem wakes_is {w:World} {g bx ev:Nat} {cs:Sl × Sl × Sl} {rows:List (List I3)} {m:V4} (h:MachAt w g cs rows m) (hp:progOk rows=true) (hs:shapeOk m=true) (cB:w.cell? ⟨bx,0,none⟩=some (.pointer (some ⟨g,0,none⟩))) (x0 x1 x2 x3:Int)
  (c0:w.cell? ⟨ev,0,none⟩=some (.int .i64 x0)) (c1:w.cell? ⟨ev,1,none⟩=some (.int .i64 x1)) (c2:w.cell? ⟨ev,2,none⟩=some (.int .i64 x2)) (c3:w.cell? ⟨ev,3,none⟩=some (.int .i64 x3)) {j:Nat} (hj:j<3) (hd:doneM rows m j=false) :
  Calls Tryz.prog 126 #[.int .i64 j,.pointer (some ⟨bx,0,none⟩),.pointer (some ⟨ev,0,none⟩)] w fun e w'=>e=.returned (.bool (depM (eventM rows m j) (x0,x1,x2,x3)))∧Below w.heap.size w w':=by
 have kE:=fun (W:World) (b:Below w.heap.size w W)=>event_is (h.below b) hp hs hj hd
 generalize eventM rows m j=y at *
 obtain ⟨y0,y1,y2,y3⟩:=y
 have kD:=fun (W:World)=>implDepends_is (y0,y1,y2,y3) (x0,x1,x2,x3) W
 unfold I4.val at kD
 simp only at kD kE
 have bd:Below w.heap.size w w.drew:=by go_grown
 clear h
 go_enter Tryz.func126,Tryz.ntmps126
 go_wp2_with fail
 refine wp_region_held_drew (S:=(fun w'=>w'.cell? ⟨bx,0,none⟩=some (.pointer (some ⟨g,0,none⟩))∧w'.cell? ⟨ev,0,none⟩=some (.int .i64 x0)∧w'.cell? ⟨ev,1,none⟩=some (.int .i64 x1)∧w'.cell? ⟨ev,2,none⟩=some (.int .i64 x2)∧w'.cell? ⟨ev,3,none⟩=some (.int .i64 x3))) (by kernel_rfl) ⟨cB,c0,c1,c2,c3⟩ (fun hS0=>?_)
 refine tkm 0 5 (.pointer (some ⟨g,0,none⟩)) ?_
 refine tkm 1 6 (.int .i64 (j:Int)) ?_
 refine tkm 3 8 (.agg #[.int .i64 x0,.int .i64 x1,.int .i64 x2,.int .i64 x3]) ?_
 refine tkr 2 7 (fun K hK=>?_)
 go_simp
 refine (kE _ bd).mono ?_
 rintro e w1 ⟨rfl,hb1⟩
 go_wp2_with fail
 refine hK.out _ _ ?_ (fun hS1=>?_)
 ·exact ⟨cells_kept hb1 _ _ hS0.1,cells_kept hb1 _ _ hS0.2.1,cells_kept hb1 _ _ hS0.2.2.1,cells_kept hb1 _ _ hS0.2.2.2.1,cells_kept hb1 _ _ hS0.2.2.2.2⟩
 clear hK
 refine tkr 4 9 (fun K hK=>?_)
 go_simp
 refine (kD _).mono ?_
 rintro e w2 ⟨rfl,hb2⟩
 go_wp2_with fail
 refine hK.out _ _ ?_ (fun hS2=>?_)
 ·exact ⟨cells_kept hb2 _ _ hS1.1,cells_kept hb2 _ _ hS1.2.1,cells_kept hb2 _ _ hS1.2.2.1,cells_kept hb2 _ _ hS1.2.2.2.1,cells_kept hb2 _ _ hS1.2.2.2.2⟩
 clear hK
 refine tkm 5 4 (.bool (depM (y0,y1,y2,y3) (x0,x1,x2,x3))) ?_
 refine wpAnyH_done (by kernel_rfl) ?_ _
 go_wp2
 go_ret
 exact ⟨rfl,bel_trans bd (bel_trans hb1 hb2)⟩

set_option maxHeartbeats 2000000 in
theorem stillAsleep_is {w:World} {g:Nat} {cs:Sl × Sl × Sl} {rows:List (List I3)} {m:V4} (h:MachAt w g cs rows m) (hp:progOk rows=true) (hs:shapeOk m=true) {k:Nat} (hk:k<3) (hd:doneM rows m k=false) (la:Option Addr) (n c:Nat) (Z:List Int) (hL:Ints .i64 w la n c Z) (hn:n≤4096) (hZ:SlpOk rows m Z) :
  Calls Tryz.prog 80 #[.pointer (some ⟨g,0,none⟩),.slice la n c,.int .i64 k] w fun e w'=>RowGot e w' w.heap.size (stillM rows m Z k)∧Below w.heap.size w w':=by
 obtain ⟨i1,hi,hz3,hz4,hz5⟩:=info_parts info_int
 have hll:=hL.1
 have eS:stillM rows m Z (k:Int)=Z.filter (fun z=>!(fun j:Int=>depM (eventM rows m j.toNat) (eventM rows m k)) z):=by
  unfold stillM
  rw [Int.toNat_natCast]
  congr 1
  funext j
  rw [depM_symm]
 rw [eS]
 clear eS
 have kE:=fun (W:World) (b:Below w.heap.size w W)=>event_is (h.below b) hp hs hk hd
 have kW:=fun (W:World) (b:Below w.heap.size w W) (bx ev:Nat) cB x0 x1 x2 x3 c0 c1 c2 c3 (q:Nat) (hq:q<3) hdq=>wakes_is (bx:=bx) (ev:=ev) (h.below b) hp hs cB x0 x1 x2 x3 c0 c1 c2 c3 (j:=q) hq hdq
 have hM:=h.1.lt
 clear h hd hp
 generalize eventM rows m k=y at *
 obtain ⟨y0,y1,y2,y3⟩:=y
 simp only at kE
 have pB:=Blk.new w 167 [.pointer (some ⟨g,0,none⟩)]
 have bw:Below w.heap.size w (w.alloc (.cells #[.pointer (some ⟨g,0,none⟩)] 167)):=by go_grown
 have hsz:(w.alloc (.cells #[.pointer (some ⟨g,0,none⟩)] 167)).heap.size=w.heap.size+1:=by simp
 replace hL:=hL.below bw
 go_enter Tryz.func80,Tryz.ntmps80
 go_wp2_with (at_make;refine wpList_make_full _ rfl _ _ 27 rfl w.heap.size 3 i1 (.int .i64 0) 1 Tryz.underlying27 hi hz3 hz4 _ _ _ _ n rfl rfl rfl rfl ?b2 ?b3 ?b4 ?_)
 case b2=>first | omega | (rw [hz5];omega)
 case b3=>unfold maxLen;omega
 case b4=>simp
 intro W1 hown hgrow
 generalize (w.alloc (.cells #[.pointer (some ⟨g,0,none⟩)] 167))=W0 at *
 obtain ⟨g1,hg1⟩:∃ g1,g1=w.heap.size+1:=⟨_,rfl⟩
 rw [← hg1] at hown hsz ⊢
 have hg1w:W0.heap.size≤g1:=by omega
 obtain ⟨bx,hbx⟩:∃ bx,bx=w.heap.size:=⟨_,rfl⟩
 have hbw:w.heap.size≤bx:=by omega
 rw [← hbx] at pB
 have b1:Below W0.heap.size W0 W1:=⟨hgrow.os,hgrow.tape,hgrow.output,hgrow.size,fun k hk=>hgrow.block k hk (by simp)⟩
 replace hL:=hL.below b1
 clear hgrow
 have hne:bx≠g1:=by omega
 have hbg:w.heap.size≤g1:=by omega
 try rw [← hbx]
 clear hbx hsz hg1
 have HO:Hid (∃ cur:List Value,cur.length=n∧W1.heap[g1]?=some (.cells cur.toArray 3 (0,0))∧∀ (W:World) (cs:List Value),cs.length=n→W.heap[g1]?=some (.cells cs.toArray 3 (0,0))→W.ownsRow w.heap.size 3 1 (.slice (some ⟨g1,0,none⟩) n n) n cs):=by
  rcases hown.2 with ⟨hv,_⟩ | ⟨g',cap',cur,hv,hB,hg,hn9,hc9,hsz9,ht9⟩
  ·cases hv
  ·cases hv
   refine ⟨cur.toList,by simpa using hsz9,by simpa using hg,fun W cs hcs hW=>⟨by omega,.inr ⟨g1,n,cs.toArray,rfl,hbg,hW,Nat.le_refl _,hc9,by simp [hcs],?_⟩⟩⟩
   simp [hcs]
   exact List.take_of_length_le (by omega)
 clear hown
 obtain ⟨cur,hcl,hcur,HOW⟩:=HO.out
 have HOW:Hid _:=HOW
 clear HO
 have hcs1:(Z.map (Value.int .i64)).length=Nat.min n n:=by rw [List.length_map,hll];exact (Nat.min_self n).symm
 have HP:Hid (0<(Z.map (Value.int .i64)).length→(some (⟨g1,0,none⟩:Addr))=some ⟨g1,0,none⟩∧∃ ad,la=some ad∧∀ j v,(Z.map (Value.int .i64))[j]?=some v→W1.cell? (ad.add j)=some v):=by
  intro hpos
  rw [List.length_map] at hpos
  obtain ⟨_,_,_,hcase⟩:=hL
  rcases hcase with e0 | ⟨b,off,rfl,hb,hc⟩
  ·omega
  ·refine ⟨rfl,_,rfl,fun j v hj=>?_⟩
   rw [List.getElem?_map] at hj
   obtain ⟨z,hz,rfl⟩:=Option.map_eq_some_iff.1 hj
   have hjl:=(List.getElem?_eq_some_iff.1 hz).1
   have h9:=hc j (by omega)
   rw [List.getD,hz,Option.getD_some] at h9
   by_cases e0:j=0
   ·subst e0;simpa [Addr.add] using h9
   ·simpa [Addr.add,e0] using h9
 go_wp2_with (refine wpList_copy_splice rfl _ _ 27 27 rfl 3 Tryz.underlying27 (by kernel_rfl) _ _ _ _ _ _ rfl rfl g1 0 cur 3 hcur (Z.map (Value.int .i64)) hcs1 HP.out (by rw [List.length_map];omega) (fun v hv=>by obtain ⟨z,_,rfl⟩:=List.mem_map.1 hv;rfl) W0.heap.size W0 b1 hg1w ?_)
 intro W2 HC b2
 have hC:=HC.out
 have hsp:splice cur 0 (Z.map (Value.int .i64))=Z.map (Value.int .i64):=by
  unfold splice
  rw [List.drop_of_length_le (by rw [List.length_map];omega)]
  simp
 rw [hsp] at hC
 have Q:=HOW.out W2 _ (by rw [List.length_map];exact hll) hC
 replace bw:=bel_trans bw b2
 replace pB:=pB.below b2
 clear HC hC hsp hcur hcl HOW cur b1 b2 hL hcs1
 have cB:W2.cell? ⟨bx,0,none⟩=some (.pointer (some ⟨g,0,none⟩)):=by simpa using pB.cell 0
 have kEx:=kE W2 bw
 clear kE
 go_wp2_with fail
 refine kEx.mono ?_
 rintro e W3 ⟨rfl,hb3⟩
 replace bw:=bel_trans bw hb3
 replace pB:=pB.below hb3
 have Q3:=owns_below Q hb3
 clear cB kEx Q hb3
 have b4:Below W3.heap.size W3 (W3.alloc (.cells #[.int .i64 0,.int .i64 0,.int .i64 0,.int .i64 0] 38)):=by go_grown
 have pE:=Blk.new W3 38 [.int .i64 0,.int .i64 0,.int .i64 0,.int .i64 0]
 have hb9:=pB.lt
 have hg9:=(Q3.lt g1 rfl).2
 obtain ⟨ev,hev⟩:∃ ev,ev=W3.heap.size:=⟨_,rfl⟩
 rw [← hev] at pE hb9 hg9
 have hwe:w.heap.size≤ev:=by rw [hev];exact bw.size
 have HV:Hid (ev=W3.heap.size):=hev
 clear hev
 go_wp2_with (rw [← HV.out];refine wpList_store_blk rfl 38 _ _ rfl ev [.int .i64 y0,.int .i64 y1,.int .i64 y2,.int .i64 y3] rfl rfl pE (by kernel_rfl) rfl rfl ?_)
 intro W4 pE4 g4
 have Q4:=(owns_below Q3 b4).kept g4 (.inr (by simp [Value.ownBlock];omega))
 have pB4:=(pB.below b4).kept g4 (by simp;omega)
 have bw4:=(bel_trans bw b4).grown g4 (Nat.le_trans bw.size b4.size) (fun x hx=>by cases hx;exact hwe)
 have pE5:=pE4.out
 clear pE g4 b4 Q3 pB bw pE4
 have eg:∀ args w,(callFunc 126 args).run Tryz.prog w=.ok (.enter 126 args) w:=enters_of Tryz.func126 (by kernel_rfl) rfl
 have hA:Asks7 126 #[.pointer (some ⟨bx,0,none⟩),.pointer (some ⟨ev,0,none⟩)] (fun j:Int=>depM (eventM rows m j.toNat) (y0,y1,y2,y3)) W4 g1 Z:=fun W gW j hj=>by
  obtain ⟨q,rfl,hq3,hqd⟩:=hZ j hj
  have bW:=bw4.grown gW bw4.size (fun x hx=>by cases hx;exact hbg)
  have pBW:=pB4.kept gW (by simp;omega)
  have pEW:=pE5.kept gW (by simp;omega)
  simp only [Int.toNat_natCast]
  exact kW W bW bx ev (by simpa using pBW.cell 0) y0 y1 y2 y3 (by simpa using pEW.cell 0) (by simpa using pEW.cell 1) (by simpa using pEW.cell 2) (by simpa using pEW.cell 3) q hq3 hqd
 obtain ⟨R,hR⟩:∃ R,R=Z.filter (fun z=>!depM (eventM rows m z.toNat) (y0,y1,y2,y3)):=⟨_,rfl⟩
 have kD:Calls Tryz.prog 127 #[.slice (some ⟨g1,0,none⟩) n n,.func (.func 126) #[] #[.pointer (some ⟨bx,0,none⟩),.pointer (some ⟨ev,0,none⟩)]] W4 fun e w'=>Del7 e W4 w' w.heap.size g1 n R:=by
  rw [hR]
  exact deleteFunc_is 126 #[.pointer (some ⟨bx,0,none⟩),.pointer (some ⟨ev,0,none⟩)] (fun j:Int=>depM (eventM rows m j.toNat) (y0,y1,y2,y3)) eg w.heap.size g1 n n Z W4 Q4 hll (by omega) hA
 have HR:Hid (R=Z.filter (fun z=>!depM (eventM rows m z.toNat) (y0,y1,y2,y3))):=hR
 clear hA eg kW Q4 pB4 pE5 hZ hR
 go_wp2_with fail
 refine kD.mono ?_
 rintro e W5 ⟨rfl,Q5,g5⟩
 have bw5:=bw4.grown g5 bw4.size (fun x hx=>by cases hx;exact hbg)
 clear kD g5 bw4
 go_wp2
 go_ret
 exact ⟨⟨.slice (some ⟨g1,0,none⟩) R.length n,rfl,by rw [← HR.out];exact Q5⟩,bw5⟩


theorem btV_str6 (xs:List Int) (h:∀ x ∈ xs,0≤x∧x≤255) (i:Nat) (hi:i<xs.length):btV (strOfNums xs) i=xs.getD i 0:=by
 have hx:=h xs[i] (List.getElem_mem hi)
 unfold btV
 simp [strOfNums,List.getD,List.getElem?_eq_getElem hi]
 omega
theorem keyT_size6 {m:V4} (h:shapeOk m=true):(keyT m).size=15:=by
 obtain ⟨l0,l1,l2,l3,_⟩:=shape_parts h
 unfold keyT
 rw [strOfNums_size,List.length_map]
 unfold allOf
 simp [l0,l1,l2,l3]
theorem key_back6 {m:V4} (h:shapeOk m=true):bytesV (keyT m)=m:=by
 obtain ⟨l0,l1,l2,l3,hd⟩:=shape_parts h
 have hb:∀ i,i<15→btV (keyT m) i - 48=(allOf m).getD i 0:=fun i hi=>by
  have hl:(allOf m).length=15:=by unfold allOf;simp [l0,l1,l2,l3]
  unfold keyT
  rw [btV_str6 _ (fun x hx=>by obtain ⟨z,hz,rfl⟩:=List.mem_map.1 hx;have:=hd z hz;omega) i (by rw [List.length_map];omega)]
  have e:((allOf m).map fun z=>48+z).getD i 0=48+(allOf m).getD i 0:=by
   have hi':i<(allOf m).length:=by omega
   simp [List.getD,List.getElem?_eq_getElem hi']
  rw [e]
  omega
 have b0:=hb 0 (by omega)
 have b1:=hb 1 (by omega)
 have b2:=hb 2 (by omega)
 have b3:=hb 3 (by omega)
 have b4:=hb 4 (by omega)
 have b5:=hb 5 (by omega)
 have b6:=hb 6 (by omega)
 have b7:=hb 7 (by omega)
 have b8:=hb 8 (by omega)
 have b9:=hb 9 (by omega)
 have b10:=hb 10 (by omega)
 have b11:=hb 11 (by omega)
 have b12:=hb 12 (by omega)
 have b13:=hb 13 (by omega)
 have b14:=hb 14 (by omega)
 clear hb hd l0 l1 l2 l3
 obtain ⟨p0,p1,p2,v0,v1,v2,v3,h0,h1,x0,y0,x1,y1,x2,y2,rfl⟩:=shape_lists h
 unfold bytesV partV fillL
 simp [List.range_succ,b0,b1,b2,b3,b4,b5,b6,b7,b8,b9,b10,b11,b12,b13,b14]
 simp [allOf]
theorem key_inj6 {m q:V4} (h:shapeOk m=true) (h':shapeOk q=true) (e:keyT m=keyT q):m=q:=by rw [← key_back6 h,e,key_back6 h']


theorem has_key {S:List (Rec6 V4)} {x:V4} (hS:Shaped S) (hx:shapeOk x=true):hasS S x=true↔keyT x ∈ keysL S:=by
 rw [hasS_iff]
 unfold keysL
 constructor
 ·intro h
  obtain ⟨r,hr,rfl⟩:=List.mem_map.1 h
  exact List.mem_map.2 ⟨r,hr,rfl⟩
 ·intro h
  obtain ⟨r,hr,e⟩:=List.mem_map.1 h
  exact List.mem_map.2 ⟨r,hr,key_inj6 (hS r hr) hx e⟩
theorem nx_at {rows:List (List I3)} {m:V4} {j:Nat} {k:Int} (h:(enabM rows m 3)[j]?=some k):(nxM rows m).drop j=(k,(goM rows m k).1)::(nxM rows m).drop (j+1):=by
 obtain ⟨hj,e⟩:=List.getElem?_eq_some_iff.1 h
 have hj':j<(nxM rows m).length:=by unfold nxM;simpa using hj
 have e2:(nxM rows m)[j]'hj'=(k,(goM rows m k).1):=by simp only [nxM,List.getElem_map,e]
 rw [List.drop_eq_getElem_cons hj',e2]
structure Out6 (rows:List (List I3)) (i:Nat) (S:List (Rec6 V4)):Prop where
 at9:i≤S.length
 pos:S≠[]
 len:S.length≤2000
 shp:Shaped S
 run:srch (nxM rows) (2000 - i) i S=fullS rows
structure In6 (rows:List (List I3)) (i j:Nat) (m:V4) (S:List (Rec6 V4)):Prop where
 at9:i<S.length
 len:S.length≤2000
 shp:Shaped S
 run:srch (nxM rows) (1999 - i) (i+1) (onS i S ((nxM rows m).drop j))=fullS rows
theorem Out6.start (rows:List (List I3)):Out6 rows 0 [(zeroV,0,0)]:=⟨by simp,by simp,by simp,fun r hr=>by simp at hr;subst hr;exact zero_shape,rfl⟩
theorem Out6.go {rows:List (List I3)} {i:Nat} {S:List (Rec6 V4)} (h:Out6 rows i S) (hi:i<S.length):In6 rows i 0 (S[i]'hi).1 S:=by
 refine ⟨hi,h.len,h.shp,?_⟩
 have e:=h.run
 have hl:=h.len
 rw [show 2000 - i=(1999 - i)+1 by omega,srch_go hi] at e
 exact e
theorem Out6.fin {rows:List (List I3)} {i:Nat} {S:List (Rec6 V4)} (h:Out6 rows i S) (hi:S.length≤i):fullS rows=S:=by rw [← h.run,srch_end hi]
theorem In6.fin {rows:List (List I3)} {i j:Nat} {m:V4} {S:List (Rec6 V4)} (h:In6 rows i j m S) (hj:(enabM rows m 3).length≤j):Out6 rows (i+1) S:=by
 refine ⟨h.at9,fun e=>by have:=h.at9;rw [e] at this;simp at this,h.len,h.shp,?_⟩
 have e:=h.run
 rw [List.drop_eq_nil_of_le (by unfold nxM;simpa using hj)] at e
 rw [show 2000 - (i+1)=1999 - i by omega]
 exact e
theorem In6.old {rows:List (List I3)} {i j:Nat} {m:V4} {S:List (Rec6 V4)} (h:In6 rows i j m S) {k:Int} (hk:(enabM rows m 3)[j]?=some k) (hx:shapeOk (goM rows m k).1=true) (hh:keyT (goM rows m k).1 ∈ keysL S):In6 rows i (j+1) m S:=by
 refine ⟨h.at9,h.len,h.shp,?_⟩
 have e:=h.run
 rw [nx_at hk,onS_cons] at e
 unfold putS at e
 rw [if_pos ((has_key h.shp hx).2 hh)] at e
 exact e
theorem In6.new {rows:List (List I3)} {i j:Nat} {m:V4} {S:List (Rec6 V4)} (h:In6 rows i j m S) {k:Int} (hk:(enabM rows m 3)[j]?=some k) (hx:shapeOk (goM rows m k).1=true) (hh:keyT (goM rows m k).1 ∉ keysL S) (hl:S.length≠2000):In6 rows i (j+1) m (S++[((goM rows m k).1,i,k)]):=by
 have h1:=h.len
 refine ⟨by have:=h.at9;simp;omega,by simp;omega,?_,?_⟩
 ·intro r hr
  rcases List.mem_append.1 hr with hr | hr
  ·exact h.shp r hr
  ·simp at hr;subst hr;exact hx
 ·have e:=h.run
  rw [nx_at hk,onS_cons] at e
  unfold putS at e
  rw [if_neg (fun h2=>hh ((has_key h.shp hx).1 h2))] at e
  exact e
theorem In6.full {rows:List (List I3)} {i j:Nat} {m:V4} {S:List (Rec6 V4)} (h:In6 rows i j m S) {k:Int} (hk:(enabM rows m 3)[j]?=some k) (hx:shapeOk (goM rows m k).1=true) (hh:keyT (goM rows m k).1 ∉ keysL S) (hl:S.length=2000):2000<(fullS rows).length:=by
 have e:=h.run
 rw [nx_at hk,onS_cons] at e
 unfold putS at e
 rw [if_neg (fun h2=>hh ((has_key h.shp hx).1 h2))] at e
 rw [← e]
 show 2000<(srch (nxM rows) (1999 - i) (i+1) (onS i (S++[((goM rows m k).1,i,k)]) ((nxM rows m).drop (j+1)))).length
 have h1:=(onS_pre i ((nxM rows m).drop (j+1)) (S++[((goM rows m k).1,i,k)])).length_le
 have h2:=(srch_pre (nxM rows) (1999 - i) (i+1) (onS i (S++[((goM rows m k).1,i,k)]) ((nxM rows m).drop (j+1)))).length_le
 simp at h1
 omega


def ixS:List (Rec6 V4)→V4→Nat
 | [],_=>0
 | r::S,x=>if r.1=x then 0 else ixS S x+1
theorem ixS_app:∀ {S:List (Rec6 V4)} {x:V4} (T:List (Rec6 V4)),x ∈ S.map (·.1)→ixS (S++T) x=ixS S x
 | [],_,_,h=>by simp at h
 | r::S,x,T,h=>by
  show (if r.1=x then 0 else ixS (S++T) x+1)=if r.1=x then 0 else ixS S x+1
  split
  ·rfl
  ·rename_i hne
   have h2:x ∈ S.map (·.1):=by
    rcases List.mem_cons.1 (by simpa using h:x ∈ r.1::S.map (·.1)) with h3 | h3
    ·exact absurd h3.symm hne
    ·exact h3
   rw [ixS_app T h2]
theorem ixS_pre {S T:List (Rec6 V4)} {x:V4} (h:S <+: T) (hx:x ∈ S.map (·.1)):ixS T x=ixS S x:=by
 obtain ⟨U,rfl⟩:=h
 exact ixS_app U hx
theorem ixS_new:∀ {S:List (Rec6 V4)} {x:V4} (i:Nat) (k:Int),x ∉ S.map (·.1)→ixS (S++[(x,i,k)]) x=S.length
 | [],x,i,k,_=>by simp [ixS]
 | r::S,x,i,k,h=>by
  have h1:r.1≠x:=fun e=>h (by simp [e])
  have h2:x ∉ S.map (·.1):=fun e=>h (by simpa using Or.inr e)
  show (if r.1=x then 0 else ixS (S++[(x,i,k)]) x+1)=_
  rw [if_neg h1,ixS_new i k h2]
  rfl
theorem ixS_get:∀ {S:List (Rec6 V4)} {x:V4},x ∈ S.map (·.1)→∃ r,S[ixS S x]?=some r∧r.1=x
 | [],_,h=>by simp at h
 | r::S,x,h=>by
  by_cases h1:r.1=x
  ·exact ⟨r,by simp [ixS,h1],h1⟩
  ·have h2:x ∈ S.map (·.1):=by
    rcases List.mem_cons.1 (by simpa using h:x ∈ r.1::S.map (·.1)) with h3 | h3
    ·exact absurd h3.symm h1
    ·exact h3
   obtain ⟨q,hq,he⟩:=ixS_get h2
   exact ⟨q,by simp [ixS,h1,hq],he⟩
def mvOf (rows:List (List I3)) (S:List (Rec6 V4)) (m:V4) (k:Int):I4:=((goM rows m k).2,k,m.1.getD k.toNat 0,(ixS S (goM rows m k).1:Int))
def mvsOf (rows:List (List I3)) (S:List (Rec6 V4)) (m:V4):List I4:=(enabM rows m 3).map (mvOf rows S m)
structure NumD (D:DataW Unit) (S:List (Rec6 V4)):Prop where
 has:∀ t:ByteArray,Maps.has D (.string t.data.toList)=true↔t ∈ keysL S
 at9:∀ x,x ∈ S.map (·.1)→∀ z,D.atKey (.string (keyT x).data.toList) z=.lit (.int .i64 (ixS S x))
theorem NumD.start:NumD (.map []) []:=⟨fun t=>by simp [keysL,Maps.has],fun x hx=>by simp at hx⟩
theorem lit_ne {s t:ByteArray} (h:s≠t):(Lit.string s.data.toList)≠Lit.string t.data.toList:=fun e=>by
 injection e with e
 exact h (ByteArray.ext (Array.ext' e))
theorem NumD.put {D:DataW Unit} {S:List (Rec6 V4)} (h:NumD D S) (hm:Maps.IsMap D) (hS:Shaped S) {x:V4} (hx:shapeOk x=true) (hn:x ∉ S.map (·.1)) (i:Nat) (k:Int) :
  NumD (D.put (.string (keyT x).data.toList) (.lit (.int .i64 S.length))) (S++[(x,i,k)]):=by
 have hkl:WideAt.IsKeyLit (.string (keyT x).data.toList):=trivial
 refine ⟨fun t=>?_,fun y hy z=>?_⟩
 ·rw [keysL_app]
  by_cases e:t=keyT x
  ·subst e
   rw [Maps.has_put_same hm hkl]
   simp
  ·rw [Maps.has_put_other (lit_ne e),h.has]
   simp [e]
 ·by_cases e:y=x
  ·subst e
   rw [Maps.atKey_put_same hm hkl,ixS_new i k hn]
  ·have hy2:y ∈ S.map (·.1):=by
    rcases List.mem_append.1 (by simpa using hy:y ∈ S.map (·.1)++[x]) with h3 | h3
    ·exact h3
    ·exact absurd (by simpa using h3) e
   obtain ⟨r,hr,rfl⟩:=List.mem_map.1 hy2
   have hk:keyT r.1≠keyT x:=fun e2=>e (key_inj6 (hS r hr) hx e2)
   rw [Maps.atKey_put_other (lit_ne hk),h.at9 _ hy2,ixS_app _ hy2]

/-! The records of states: 22 cells each. -/
def rcC (cs:Sl × Sl × Sl) (r:Rec6 V4) (mv:Value):List Value:=.string (keyT r.1)::(machCells cs.1.val cs.2.1.val cs.2.2.val r.1++[.int .i64 r.2.1,.int .i64 r.2.2,mv])
theorem rcC_len (cs:Sl × Sl × Sl) (r:Rec6 V4) (mv:Value):(rcC cs r mv).length=22:=rfl
def rcF (cs:Sl × Sl × Sl) (L:List (Rec6 V4 × Value)):List Value:=L.flatMap fun x=>rcC cs x.1 x.2
theorem rcF_app (cs:Sl × Sl × Sl) (L:List (Rec6 V4 × Value)) (x:Rec6 V4 × Value):rcF cs (L++[x])=rcF cs L++rcC cs x.1 x.2:=by simp [rcF]
theorem rcF_at (cs:Sl × Sl × Sl):∀ (L:List (Rec6 V4 × Value)) (i j:Nat) (x:Rec6 V4 × Value),L[i]?=some x→j<22→(rcF cs L)[i*22+j]?=(rcC cs x.1 x.2)[j]?
 | [],_,_,_,h,_=>by simp at h
 | y::L,0,j,x,h,hj=>by
  simp at h
  subst h
  show (rcC cs y.1 y.2++rcF cs L)[0*22+j]?=_
  rw [List.getElem?_append_left (by rw [rcC_len];omega)]
  congr 1
  omega
 | y::L,i+1,j,x,h,hj=>by
  have ih:=rcF_at cs L i j x (by simpa using h) hj
  show (rcC cs y.1 y.2++rcF cs L)[(i+1)*22+j]?=_
  rw [List.getElem?_append_right (by rw [rcC_len];omega),rcC_len,← ih]
  congr 1
  omega
theorem rcC_set (cs:Sl × Sl × Sl) (r:Rec6 V4) (mv mv':Value):(rcC cs r mv).set 21 mv'=rcC cs r mv':=rfl
theorem rcF_set (cs:Sl × Sl × Sl):∀ (L:List (Rec6 V4 × Value)) (i:Nat) (r:Rec6 V4) (mv mv':Value),L[i]?=some (r,mv)→(rcF cs L).set (i*22+21) mv'=rcF cs (L.set i (r,mv'))
 | [],_,_,_,_,h=>by simp at h
 | y::L,0,r,mv,mv',h=>by
  simp at h
  subst h
  show (rcC cs r mv++rcF cs L).set (0*22+21) mv'=rcC cs r mv'++rcF cs L
  rw [List.set_append_left _ _ (by rw [rcC_len];omega)]
  rw [show 0*22+21=21 by omega,rcC_set]
 | y::L,i+1,r,mv,mv',h=>by
  have ih:=rcF_set cs L i r mv mv' (by simpa using h)
  show (rcC cs y.1 y.2++rcF cs L).set ((i+1)*22+21) mv'=rcC cs y.1 y.2++rcF cs (L.set i (r,mv'))
  rw [List.set_append_right _ _ (by rw [rcC_len];omega),rcC_len,← ih]
  congr 2
  omega


theorem law_str6:Maps.Keyed Tryz.prog 9:=Maps.string_keyed Tryz.underlying9
theorem zero_int6 (w:World):(zeroValue 3).run Tryz.prog w=.ok (.int .i64 0) w:=by kernel_rfl
structure SpcD (w:World) (B nb:Nat) (vs:Value) (cs:Sl × Sl × Sl) (M:V4→List I4) (L:List (Rec6 V4 × Value)) (d:Nat):Prop where
 row:w.ownsRow B 116 22 vs L.length (rcF cs L)
 map:∃ D:DataW Unit,w.ownsMap Tryz.prog 9 (plainElem Tryz.prog 3) nb L.length D∧NumD D (L.map (·.1))
 mvs:∀ i r mv,i<d→L[i]?=some (r,mv)→w.ownsRow B 198 4 mv (M r.1).length (flat4 (M r.1))
 nil:∀ i r mv,d≤i→L[i]?=some (r,mv)→mv=.slice none 0 0
 low:B≤nb
structure KeptS (w w':World) (X nb:Nat) (vs:Value):Prop where
 os:w'.os=w.os
 tape:w'.tape=w.tape
 output:w'.output=w.output
 size:w.heap.size≤w'.heap.size
 block:∀ k,k<w.heap.size→k≠X→k≠nb→vs.ownBlock≠some k→w'.heap[k]?=w.heap[k]?
def MovedS (w:World) (vs vs':Value):Prop:=vs'.ownBlock=vs.ownBlock∨∃ g,w.heap.size≤g∧vs'.ownBlock=some g
theorem MovedS.refl (w:World) (vs:Value):MovedS w vs vs:=.inl rfl
theorem MovedS.trans {w w':World} {a b c:Value} (h:MovedS w a b) (hs:w.heap.size≤w'.heap.size) (k:MovedS w' b c):MovedS w a c:=by
 rcases k with k | ⟨g,hg,k⟩
 ·unfold MovedS
  rw [k]
  exact h
 ·exact .inr ⟨g,Nat.le_trans hs hg,k⟩
theorem KeptS.refl (w:World) (X nb:Nat) (vs:Value):KeptS w w X nb vs:=⟨rfl,rfl,rfl,Nat.le_refl _,fun _ _ _ _ _=>rfl⟩
theorem KeptS.trans {a b c:World} {X nb:Nat} {v v':Value} (h:KeptS a b X nb v) (hm:MovedS a v v') (k:KeptS b c X nb v'):KeptS a c X nb v:=
 ⟨k.os.trans h.os,k.tape.trans h.tape,k.output.trans h.output,Nat.le_trans h.size k.size,fun j hj h1 h2 h3=>(k.block j (Nat.lt_of_lt_of_le hj h.size) h1 h2 (fun e=>by
  rcases hm with hm | ⟨g,hg,hm⟩
  ·exact h3 (hm▸e)
  ·rw [hm] at e;cases e;omega)).trans (h.block j hj h1 h2 h3)⟩
theorem KeptS.belowR {a b c:World} {X nb:Nat} {v:Value} (h:KeptS a b X nb v) (k:Below b.heap.size b c):KeptS a c X nb v:=
 ⟨k.os.trans h.os,k.tape.trans h.tape,k.output.trans h.output,Nat.le_trans h.size k.size,fun j hj h1 h2 h3=>(k.block j (Nat.lt_of_lt_of_le hj h.size)).trans (h.block j hj h1 h2 h3)⟩
theorem KeptS.of_below {a b:World} (X nb:Nat) (v:Value) (k:Below a.heap.size a b):KeptS a b X nb v:=(KeptS.refl a X nb v).belowR k
theorem KeptS.below {a b:World} {X nb B:Nat} {v:Value} (h:KeptS a b X nb v) (hX:B≤X) (hn:B≤nb) (hv:∀ k,v.ownBlock=some k→B≤k) (hB:B≤a.heap.size):Below B a b:=
 ⟨h.os,h.tape,h.output,h.size,fun k hk=>h.block k (by omega) (by omega) (by omega) (fun e=>by have:=hv k e;omega)⟩
theorem map_blk {w:World} {nb n g t:Nat} {D:DataW Unit} {cs:List Value} (h:w.ownsMap Tryz.prog 9 (plainElem Tryz.prog 3) nb n D) (hB:Blk w g t cs):g≠nb:=by
 rintro rfl
 obtain ⟨es,clock,hb,_⟩:=h
 unfold Blk at hB
 rw [hb] at hB
 simp at hB
theorem map_own {w:World} {nb n B e s k:Nat} {v:Value} {xs:List Value} {D:DataW Unit} (h:w.ownsMap Tryz.prog 9 (plainElem Tryz.prog 3) nb n D) (ho:w.ownsRow B e s v k xs):v.ownBlock≠some nb:=by
 intro e2
 obtain ⟨es,clock,hb,_⟩:=h
 rcases ho.2 with ⟨rfl,_⟩ | ⟨g,cap,cur,rfl,_,hg,_⟩
 ·simp [Value.ownBlock] at e2
 ·simp [Value.ownBlock] at e2
  subst e2
  rw [hb] at hg
  simp at hg
section
variable {w w' : World} {B X nb d : Nat} {vs : Value} {cs : Sl × Sl × Sl} {M : V4 → List I4} {L : List (Rec6 V4 × Value)}
theorem SpcD.below (h:SpcD w B nb vs cs M L d) (hb:Below w.heap.size w w'):SpcD w' B nb vs cs M L d:=by
 obtain ⟨D,hm,hn⟩:=h.map
 exact ⟨owns_below h.row hb,⟨D,hm.kept (row:=none) ⟨hb.os,hb.tape,hb.output,hb.size,fun k hk _=>hb.block k hk⟩ (by simp),hn⟩,fun i r mv hi hr=>owns_below (h.mvs i r mv hi hr) hb,h.nil,h.low⟩
theorem SpcD.grown {g t:Nat} {cs':List Value} (h:SpcD w B nb vs cs M L d) (hg:w.grownBy w' (some g)) (hB:Blk w g t cs') (h1:116≠t) (h2:198≠t):SpcD w' B nb vs cs M L d:=by
 obtain ⟨D,hm,hn⟩:=h.map
 refine ⟨h.row.kept hg (.inr (own_ne_blk9 h.row hB h1)),⟨D,hm.kept hg (fun e=>map_blk hm hB (by cases e;rfl)),hn⟩,fun i r mv hi hr=>?_,h.nil,h.low⟩
 have:=h.mvs i r mv hi hr
 exact this.kept hg (.inr (own_ne_blk9 this hB h2))
theorem KeptS.row (k:KeptS w w' X nb vs) (h:SpcD w B nb vs cs M L d) {t:Nat} {cs':List Value} (hX:Blk w X t cs') {B' e s n:Nat} {v:Value} {xs:List Value} (ho:w.ownsRow B' e s v n xs) (h1:e≠116) (h2:e≠t):w'.ownsRow B' e s v n xs:=by
 obtain ⟨D,hm,_⟩:=h.map
 have hlt:=fun g hg=>(own_lt3 ho (g:=g) hg).2
 have hnX:=own_ne_blk9 ho hX h2
 have hnm:=map_own hm ho
 have hap:=Ap3.types ho h.row h1
 refine ⟨ho.1,?_⟩
 rcases ho.2 with hn | ⟨g,cap,cur,rfl,hb,hgg,rest⟩
 ·exact .inl hn
 ·refine .inr ⟨g,cap,cur,rfl,hb,(k.block g (hlt g rfl) (fun e=>hnX (by rw [← e];rfl)) (fun e=>hnm (by rw [← e];rfl)) (hap g rfl)).trans hgg,rest⟩
theorem KeptS.blk (k:KeptS w w' X nb vs) (h:SpcD w B nb vs cs M L d) {t:Nat} {cs':List Value} (hX:Blk w X t cs') {g e:Nat} {xs:List Value} (p:Blk w g e xs) (h1:116≠e) (h2:t≠e):Blk w' g e xs:=by
 obtain ⟨D,hm,_⟩:=h.map
 exact (k.block g p.lt (fun e2=>blk_ne hX p h2 e2.symm) (map_blk hm p) (own_ne_blk9 h.row p h1)).trans p
theorem KeptS.ownI (k:KeptS w w' X nb vs) (h:SpcD w B nb vs cs M L d) {cs':List Value} (hX:Blk w X 111 cs') {B':Nat} {s:Sl} {zs:List Int} (ho:OwnI w B' s zs):OwnI w' B' s zs:=k.row h hX ho (by decide) (by decide)
theorem SpcD.at9 (h:SpcD w B nb vs cs M L d) {i:Nat} {r:Rec6 V4} {mv:Value} (hr:L[i]?=some (r,mv)):∃ g c,vs=.slice (some ⟨g,0,none⟩) L.length c∧g<w.heap.size∧w.rangeAt g (i*22) (rcC cs r mv):=by
 have hl:=(List.getElem?_eq_some_iff.1 hr).1
 rcases h.row.2 with ⟨_,h0⟩ | ⟨g,c,cur,hv,_⟩
 ·omega
 ·refine ⟨g,c,hv,(own_lt3 h.row (by rw [hv];rfl)).2,fun j v hj=>?_⟩
  have hj2:j<22:=(List.getElem?_eq_some_iff.1 hj).1
  have h9:=h.row
  rw [hv] at h9
  rw [h9.cellAt (i*22+j) (by omega),rcF_at cs L i j _ hr hj2]
  exact hj
end
end Go.Proofs.YtdojjmkpelgcaaaGreatDoor
