/-
  Joined: DelI, EvA.
-/
import Derived.Test.YtifoggpohlegmaaGreatDoorE23
import Derived.Test.YtifoggpohlegmaaGreatDoorE26

namespace Go.Proofs.YtifoggpohlegmaaGreatDoor
set_option maxRecDepth 100000
set_option maxHeartbeats 16000000
open Go.RowKit
set_option linter.unusedVariables false
set_option linter.unusedSimpArgs false

def F8 (e:Ending) (b:Bool):Prop:=∃ r:Int,e=.returned (.int .i64 r)∧decide (0≤r)=b
theorem KZ {Z:List Int} {k:Nat} (h:k<Z.length) (y:Int):decide (y ∈ Z.drop k)=(decide (y=Z.getD k 0) || decide (y ∈ Z.drop (k+1))):=by
 have e:(y ∈ Z.drop k)↔(y=Z.getD k 0∨y ∈ Z.drop (k+1)):=by
  rw [List.drop_eq_getElem_cons h,List.mem_cons]
  simp only [List.getD,List.getElem?_eq_getElem h,Option.getD_some]
 simp only [e,Bool.decide_or]

theorem Nz (a:Option Addr) (n cap:Nat) (Z:List Int) (y:Int) (w:World) (h:YV .i64 w a n cap Z) (hn:n≤1000000) :
  Calls Tryz.prog 146 #[.slice a n cap,.int .i64 y] w fun e w'=>F8 e (decide (y ∈ Z))∧w=w':=by
 have hl:=h.1
 obtain ⟨r,hr⟩:∃ r,r=decide (y ∈ Z):=⟨_,rfl⟩
 rw [← hr]
 have HR:Hid (r=decide (y ∈ Z.drop 0)):=by rw [Hid];simpa using hr
 clear hr
 go_enter Tryz.func146,Tryz.ntmps146
 go_wp2_with fail
 go_loopw [8] (fun si wr=>∃ k:Nat,k≤n∧si=.int .i64 k∧Hid (r=decide (y ∈ Z.drop k))∧w=wr) (fun si _=>n - (intOf si).toNat)
 case atStart=>exact ⟨0,by omega,rfl,HR,rfl⟩
 case round =>
  clear HR
  obtain ⟨k,hk,rfl,HR,rfl⟩:=hrel
  by_cases hlt:k<n
  ·have hm:=KZ (Z:=Z) (k:=k) (by omega) y
   obtain ⟨_,_,_,hcase⟩:=h
   rcases hcase with e0 | ⟨b,off,rfl,hb,hc⟩
   ·omega
   have d0:=hc k hlt
   clear hc hb
   generalize Z.getD k 0=x at d0 hm
   have HM:Hid (decide (y ∈ Z.drop k)=(decide (y=x) || decide (y ∈ Z.drop (k+1)))):=hm
   clear hm
   have hlt':(k:Int)<(n:Int):=by omega
   have hk0:(0:Int)≤(k:Int):=by omega
   by_cases hE:y=x
   ·subst hE
    have HF:Hid (r=true):=by rw [Hid,HR.out,HM.out];simp
    clear HM HR
    have q0:(y == y)=true:=by simp
    go_wp2
    go_ret
    exact ⟨⟨k,rfl,by rw [HF.out];simp⟩,rfl⟩
   have HF:Hid (r=decide (y ∈ Z.drop (k+1))):=by rw [Hid,HR.out,HM.out];simp [hE]
   clear HM HR
   have q0:(y == x)=false:=by simp [hE]
   clear hE
   go_wp2
   go_roundw
   case rel=>exact ⟨k+1,by omega,by go_num,HF,by first | rfl | trivial⟩
   case measure=>simp [intOf];omega
  obtain rfl:k=n:=by omega
  have HF:Hid (r=false):=by rw [Hid,HR.out,List.drop_of_length_le (by omega)];simp
  clear HR
  go_wp2
  go_ret
  exact ⟨⟨-1,rfl,by rw [HF.out];rfl⟩,rfl⟩

theorem RB (a:Option Addr) (n cap:Nat) (Z:List Int) (y:Int) (w:World) (h:YV .i64 w a n cap Z) (hn:n≤1000000) :
  Calls Tryz.prog 92 #[.slice a n cap,.int .i64 y] w fun e w'=>e=.returned (.bool (decide (y ∈ Z)))∧w=w':=by
 have kI:=Nz a n cap Z y w h hn
 clear h
 generalize decide (y ∈ Z)=r at *
 go_enter Tryz.func92,Tryz.ntmps92
 go_wp2_with fail
 refine kI.mono ?_
 rintro e w1 ⟨⟨i,rfl,hi⟩,rfl⟩
 clear kI
 cases r
 ·have q:decide (0≤i)=false:=hi
  have q':¬ (0≤i):=by simpa using hi
  clear hi
  go_wp2
  go_ret
  exact ⟨by simp [q'],rfl⟩
 have q:decide (0≤i)=true:=hi
 have q':0≤i:=by simpa using hi
 clear hi
 go_wp2
 go_ret
 exact ⟨by simp [q'],rfl⟩

def Jy (F:Nat) (lb:Array Value) (p:Int→Bool) (w:World) (g:Nat) (Z:List Int):Prop:=∀ W,w.grownBy W (some g)→∀ j ∈ Z,Calls Tryz.prog F (#[.int .i64 j]++lb) W fun e W'=>e=.returned (.bool (p j))∧Below W.heap.size W W'
def F7 (e:Ending) (p:Int→Bool) (Z:List Int):Prop:=∃ r:Int,e=.returned (.int .i64 r)∧((r=-1∧Z.filter (fun z=>!p z)=Z)∨∃ k:Nat,r=k∧k<Z.length∧(Z.take (k+1)).filter (fun z=>!p z)=Z.take k)
theorem TD {w W W':World} {g:Nat} (h:w.grownBy W (some g)) (hb:Below W.heap.size W W'):w.grownBy W' (some g):=
 ⟨hb.os.trans h.os,hb.tape.trans h.tape,hb.output.trans h.output,Nat.le_trans h.size hb.size,fun i hi hr=>(hb.block i (Nat.lt_of_lt_of_le hi h.size)).trans (h.block i hi hr)⟩
theorem Qp {Z:List Int} {k:Nat} (h:k<Z.length):Z.take (k+1)=Z.take k++[Z.getD k 0]:=by
 rw [List.take_succ_eq_append_getElem h];simp [List.getD,h]

theorem PI (F:Nat) (lb:Array Value) (p:Int→Bool) (eg:∀ args w,(callFunc F args).run Tryz.prog w=.ok (.enter F args) w) (B g n cap:Nat) (Z:List Int) (w:World)
  (hq:w.ownsRow B 3 1 (.slice (some ⟨g,0,none⟩) n cap) n (Z.map (Value.int .i64))) (hl:Z.length=n) (hn:n≤1000000) (hf:Jy F lb p w g Z) :
  Calls Tryz.prog 175 #[.slice (some ⟨g,0,none⟩) n cap,.func (.func F) #[] lb] w fun e w'=>F7 e p Z∧Below w.heap.size w w':=by
 have HF0:Hid ((Z.take 0).filter (fun z=>!p z)=Z.take 0):=by rw [Hid];simp
 have HI:=YV.of_owns hq
 clear hq
 go_enter Tryz.func175,Tryz.ntmps175
 go_wp2_with fail
 go_loopw [8] (fun si wr=>∃ k:Nat,k≤n∧si=.int .i64 k∧Hid ((Z.take k).filter (fun z=>!p z)=Z.take k)∧Below w.heap.size w wr) (fun si _=>n - (intOf si).toNat)
 case atStart=>exact ⟨0,by omega,rfl,HF0,Below.refl _ _⟩
 case round =>
  clear HF0
  obtain ⟨k,hk,rfl,HF,bw⟩:=hrel
  by_cases hlt:k<n
  ·have hz:Z.getD k 0 ∈ Z:=by simp [List.getD,show k<Z.length by omega]
   have kF:=hf wr ⟨bw.os,bw.tape,bw.output,bw.size,fun i hi _=>bw.block i hi⟩ (Z.getD k 0) hz
   have ht:=Qp (Z:=Z) (k:=k) (by omega)
   obtain ⟨_,_,_,hcase⟩:=HI.below bw
   rcases hcase with e0 | ⟨b,off,hb9,hb,hc⟩
   ·omega
   cases hb9
   have d0:=hc k hlt
   clear hc hb hz
   generalize Z.getD k 0=x at d0 kF ht
   have HT:Hid (Z.take (k+1)=Z.take k++[x]):=ht
   clear ht
   have hlt':(k:Int)<(n:Int):=by omega
   have hk0:(0:Int)≤(k:Int):=by omega
   have hkl:k<Z.length:=by omega
   rw [Nat.zero_add] at d0
   cases hp:p x with
   | true =>
    have HG:Hid ((Z.take (k+1)).filter (fun z=>!p z)=Z.take k):=by rw [Hid,HT.out,List.filter_append,HF.out];simp [hp]
    rw [hp] at kF
    clear HF HT hp
    go_wp2_with (go_at_fn F;refine kF.mono ?_;rintro e w2 ⟨rfl,hb2⟩)
    go_ret
    exact ⟨⟨k,rfl,.inr ⟨k,rfl,hkl,HG.out⟩⟩,Zb bw hb2⟩
   | false =>
    have HG:Hid ((Z.take (k+1)).filter (fun z=>!p z)=Z.take (k+1)):=by rw [Hid,HT.out,List.filter_append,HF.out];simp [hp]
    rw [hp] at kF
    clear HF HT hp
    go_wp2_with (go_at_fn F;refine kF.mono ?_;rintro e w2 ⟨rfl,hb2⟩)
    go_roundw
    case rel=>exact ⟨k+1,by omega,by go_num,HG,Zb bw hb2⟩
    case measure=>simp [intOf];omega
  obtain rfl:k=n:=by omega
  have HG:Hid (Z.filter (fun z=>!p z)=Z):=by
   have:=HF.out
   rw [List.take_of_length_le (by omega)] at this
   exact this
  clear HF
  go_wp2
  go_ret
  exact ⟨⟨-1,rfl,.inl ⟨rfl,HG.out⟩⟩,bw⟩

def JB (e:Ending) (w w':World) (B g cap:Nat) (zs:List Int):Prop:=e=.returned (.slice (some ⟨g,0,none⟩) zs.length cap)∧w'.ownsRow B 3 1 (.slice (some ⟨g,0,none⟩) zs.length cap) zs.length (zs.map (Value.int .i64))∧w.grownBy w' (some g)

theorem Qw (F:Nat) (lb:Array Value) (p:Int→Bool) (eg:∀ args w,(callFunc F args).run Tryz.prog w=.ok (.enter F args) w) (B g n cap:Nat) (Z:List Int) (w:World)
  (hq:w.ownsRow B 3 1 (.slice (some ⟨g,0,none⟩) n cap) n (Z.map (Value.int .i64))) (hl:Z.length=n) (hn:n≤1000000) (hf:Jy F lb p w g Z) :
  Calls Tryz.prog 148 #[.slice (some ⟨g,0,none⟩) n cap,.func (.func F) #[] lb] w fun e w'=>JB e w w' B g cap (Z.filter (fun z=>!p z)):=by
 have hcap:n≤cap∧cap≤maxLen:=by
  rcases hq.2 with ⟨hv,_⟩ | ⟨g',cap',cur,hv,hB,hg,hn,hc,hsz,ht⟩
  ·cases hv
  cases hv
  exact ⟨hn,hc⟩
 unfold maxLen at hcap
 have kI:=PI F lb p eg B g n cap Z w hq hl hn hf
 go_enter Tryz.func148,Tryz.ntmps148
 go_wp2_with fail
 refine kI.mono ?_
 rintro e w1 ⟨⟨r,rfl,hr⟩,hb1⟩
 clear kI
 have hq1:=Zf hq hb1
 have gw1:w.grownBy w1 (some g):=⟨hb1.os,hb1.tape,hb1.output,hb1.size,fun i hi _=>hb1.block i hi⟩
 clear hb1 hq
 rcases hr with ⟨rfl,hE⟩ | ⟨k,rfl,hk,hE⟩
 ·have HE:Hid (Z.filter (fun z=>!p z)=Z):=hE
  clear hE hf
  go_wp2
  go_ret
  unfold JB
  rw [HE.out,hl]
  exact ⟨rfl,hq1,gw1⟩
 have HE:Hid ((Z.take (k+1)).filter (fun z=>!p z)=Z.take k):=hE
 clear hE
 have hne:((k:Int) == -1)=false:=beq_eq_false_iff_ne.2 (by omega)
 have hw1:IntKind.i64.wrap ((k:Int)+1)=((k+1:Nat):Int):=by rw [IntWalk.i64_in _ ⟨by omega,by omega⟩];omega
 have Q0:w1.ownsRow B 3 1 (.slice (some ⟨g,0,none⟩) n cap) n ((Z.take k++Z.drop k).map (Value.int .i64)):=by rw [List.take_append_drop];exact hq1
 clear hq1
 go_wp2_with fail
 go_loopw [5,6] (fun si sj wr=>∃ (i j:Nat) (done:List Int),i<j∧j≤n∧si=.int .i64 i∧sj=.int .i64 j∧done.length=i∧Hid ((Z.take j).filter (fun z=>!p z)=done)∧wr.ownsRow B 3 1 (.slice (some ⟨g,0,none⟩) n cap) n ((done++Z.drop i).map (Value.int .i64))∧w.grownBy wr (some g)) (fun _ sj _=>n - (intOf sj).toNat)
 case atStart=>exact ⟨k,k+1,Z.take k,by omega,by omega,rfl,by go_num,by rw [List.length_take];omega,HE,Q0,gw1⟩
 case round =>
  clear Q0 gw1 HE hne hw1
  obtain ⟨i,j,done,hij,hjn,rfl,rfl,hdl,HD,Q,gw⟩:=hrel
  have hlen:(done++Z.drop i).length=n:=by rw [List.length_append,List.length_drop];omega
  by_cases hlt:j<n
  ·have hz:Z.getD j 0 ∈ Z:=by simp [List.getD,show j<Z.length by omega]
   have kF:=hf wr gw (Z.getD j 0) hz
   have ht:=Qp (Z:=Z) (k:=j) (by omega)
   have cj:wr.cell? ⟨g,j,none⟩=some (.int .i64 (Z.getD j 0)):=by
    rw [Q.cellAt j (by omega),List.getElem?_map,List.getElem?_append_right (by omega),List.getElem?_drop,show i+(j - done.length)=j by omega]
    simp [List.getD,show j<Z.length by omega]
   have hlt':(j:Int)<(n:Int):=by omega
   have hj0:(0:Int)≤(j:Int):=by omega
   have hi0:(0:Int)≤(i:Int):=by omega
   have hin':(i:Int)<(n:Int):=by omega
   have HS:Hid (∀ x:Int,((done++Z.drop i).map (Value.int .i64)).set i (.int .i64 x)=((done++[x])++Z.drop (i+1)).map (Value.int .i64)):=fun x=>by
    rw [← List.map_set,List.set_append_right _ _ (by omega),show i - done.length=0 by omega,List.drop_eq_getElem_cons (show i<Z.length by omega),List.set_cons_zero,List.append_assoc]
    rfl
   clear hz
   generalize Z.getD j 0=x at kF ht cj
   have HT:Hid (Z.take (j+1)=Z.take j++[x]):=ht
   clear ht
   cases hp:p x with
   | true =>
    have HG:Hid ((Z.take (j+1)).filter (fun z=>!p z)=done):=by rw [Hid,HT.out,List.filter_append,HD.out];simp [hp]
    rw [hp] at kF
    clear HD HT hp HS
    go_wp2_with (go_at_fn F;refine kF.mono ?_;rintro e w2 ⟨rfl,hb2⟩)
    have Q2:=Zf Q hb2
    have g2:=TD gw hb2
    go_roundw
    case rel=>exact ⟨i,j+1,done,by omega,by omega,rfl,by go_num,hdl,HG,Q2,g2⟩
    case measure=>simp [intOf];omega
   | false =>
    have HG:Hid ((Z.take (j+1)).filter (fun z=>!p z)=done++[x]):=by rw [Hid,HT.out,List.filter_append,HD.out];simp [hp]
    rw [hp] at kF
    clear HD HT hp
    go_wp2_with fail
    go_at_fn F
    refine kF.mono ?_
    rintro e w2 ⟨rfl,hb2⟩
    have Q2:=Zf Q hb2
    have g2:=TD gw hb2
    clear Q gw kF hb2 cj
    have fi:=Q2.frozenAt i
    have ci:=Q2.cellAt i (by omega)
    rw [List.getElem?_map,List.getElem?_append_right (by omega),show i - done.length=0 by omega,List.drop_eq_getElem_cons (show i<Z.length by omega)] at ci
    simp only [List.getElem?_cons_zero,Option.map_some] at ci
    obtain ⟨s1,s2⟩:=Q2.stored i (.int .i64 x)
    rw [HS.out] at s1
    have g3:=Zz g2 s2
    clear HS Q2 g2 s2
    go_wp2
    go_roundw
    case rel=>exact ⟨i+1,j+1,done++[x],by omega,by omega,by go_num,by go_num,by simp [hdl],HG,s1,g3⟩
    case measure=>simp [intOf];omega
  obtain rfl:j=n:=by omega
  have HX:Hid (Z.filter (fun z=>!p z)=done):=by
   have:=HD.out
   rw [List.take_of_length_le (by omega)] at this
   exact this
  have hnot:¬ ((j:Int)<(j:Int)):=by omega
  have rC:∀ W,(Instr.slice 27 (.slice (some ⟨g,0,none⟩) j cap) (some (.int .i64 (i:Int))) none none).run Tryz.prog W=.ok (.slice (some ⟨g,i,none⟩) (j - i) (cap - i)) W:=by
   intro W
   have h8:(i:Int)≤(j:Int):=by omega
   have h7:¬ (cap - i=0):=by omega
   go_simp
   omega
  have rH:∀ W,(Instr.slice 27 (.slice (some ⟨g,0,none⟩) j cap) none (some (.int .i64 (i:Int))) none).run Tryz.prog W=.ok (.slice (some ⟨g,0,none⟩) i cap) W:=by
   intro W
   have h8:(i:Int)≤(cap:Int):=by omega
   go_simp
  have hex:∀ k,k<j - i→(wr.cell? ⟨g,i+k,none⟩).isSome=true:=fun k hk=>by
   rw [Q.cellAt (i+k) (by omega)]
   have:=Q.1
   rw [List.getElem?_eq_getElem (by omega)]
   rfl
  have hcl:∀ ty,(Builtin.clear_ #[27] ty #[.slice (some ⟨g,i,none⟩) (j - i) (cap - i)]).run Tryz.prog wr=.ok (.tuple #[]) (wr.setCells g i (List.replicate (j - i) (.int .i64 0))):=fun ty =>
   Lib.run_clear_slice wr _ _ ty _ Tryz.underlying27 Tryz.zeroValue3 rfl rfl g i _ _ (by omega) hex (fun k _=>Q.frozenAt _)
  have hS:=R8 Q (show i≤j by omega)
  have hfl:((done++Z.drop i).map (Value.int .i64)).take (i*1)=done.map (Value.int .i64):=by
   rw [List.map_append,List.take_append_of_le_length (by rw [List.length_map];omega),List.take_of_length_le (by rw [List.length_map];omega)]
  rw [hfl] at hS
  have hS2:=R7 (List.replicate (j - i) (.int .i64 0)) i wr hS (by omega)
  have gw2:=Zz gw (UY g (List.replicate (j - i) (.int .i64 0)) i wr)
  have HR:Hid (∀ e,e=.returned (.slice (some ⟨g,0,none⟩) i cap)→JB e w (wr.setCells g i (List.replicate (j - i) (.int .i64 0))) B g cap (Z.filter (fun z=>!p z))):=fun e he=>by
   unfold JB
   rw [HX.out,hdl]
   exact ⟨he,hS2,gw2⟩
  clear hS hS2 hfl hex Q HX gw gw2 HD hf
  generalize wr.setCells g i (List.replicate (j - i) (.int .i64 0))=w9 at *
  go_wp2
  go_ret
  exact HR.out _ rfl


def X8 (x:I3):Int:=if x.1=1 then x.2.2 else if x.1=2 then x.2.1 else if x.1=5∨x.1=6 then 4+x.2.1 else -1
def ZB (rows:List (List I3)) (m:V4) (k:Nat):Int × Int × Int × Int:=(k,m.1.getD k 0,(Ys rows m k).1,X8 (Ys rows m k))

theorem Hu (x0 x1 x2:Int) (hx:-1000≤x1∧x1≤1000) (w:World):Calls Tryz.prog 120 #[.agg #[.int .i64 x0,.int .i64 x1,.int .i64 x2]] w fun e w'=>e=.returned (.int .i64 (X8 (x0,x1,x2)))∧Below w.heap.size w w':=by
 obtain ⟨r,hr⟩:∃ r,r=X8 (x0,x1,x2):=⟨_,rfl⟩
 rw [← hr]
 unfold X8 at hr
 simp only at hr
 have HR:Hid (r=if x0=1 then x2 else if x0=2 then x1 else if x0=5∨x0=6 then 4+x1 else -1):=hr
 clear hr
 have h4:IntKind.i64.wrap (4+x1)=4+x1:=IntWalk.i64_in _ (by omega)
 by_cases q1:x0=1
 ·have HF:Hid (r=x2):=by rw [Hid,HR.out];simp [q1]
  subst q1
  clear HR 
  go_enter Tryz.func120,Tryz.ntmps120
  go_wp2
  go_ret
  exact ⟨by rw [HF.out];rfl,by go_grown⟩
 by_cases q2:x0=2
 ·have HF:Hid (r=x1):=by rw [Hid,HR.out];simp [q2]
  subst q2
  clear HR q1
  go_enter Tryz.func120,Tryz.ntmps120
  go_wp2
  go_ret
  exact ⟨by rw [HF.out];rfl,by go_grown⟩
 by_cases q5:x0=5
 ·have HF:Hid (r=4+x1):=by rw [Hid,HR.out];simp [q5]
  subst q5
  clear HR q1 q2
  go_enter Tryz.func120,Tryz.ntmps120
  go_wp2
  go_ret
  exact ⟨by rw [HF.out];rfl,by go_grown⟩
 by_cases q6:x0=6
 ·have HF:Hid (r=4+x1):=by rw [Hid,HR.out];simp [q6]
  subst q6
  clear HR q1 q2 q5
  go_enter Tryz.func120,Tryz.ntmps120
  go_wp2
  go_ret
  exact ⟨by rw [HF.out];rfl,by go_grown⟩
 have HF:Hid (r=-1):=by rw [Hid,HR.out,if_neg q1,if_neg q2,if_neg (by omega)]
 have r1:(x0 == 1)=false:=by simp [q1]
 have r2:(x0 == 2)=false:=by simp [q2]
 have r5:(x0 == 5)=false:=by simp [q5]
 have r6:(x0 == 6)=false:=by simp [q6]
 clear HR q1 q2 q5 q6
 go_enter Tryz.func120,Tryz.ntmps120
 go_wp2
 go_ret
 exact ⟨by rw [HF.out];rfl,by go_grown⟩

theorem KI (x0 x1 x2:Int) (hx:-1000≤x1∧x1≤1000) (w:World):Calls Tryz.prog 168 #[.agg #[.int .i64 x0,.int .i64 x1,.int .i64 x2]] w fun e w'=>e=.returned (.int .i64 (X8 (x0,x1,x2)))∧Below w.heap.size w w':=by
 obtain ⟨r,hr⟩:∃ r,r=X8 (x0,x1,x2):=⟨_,rfl⟩
 rw [← hr]
 unfold X8 at hr
 simp only at hr
 have HR:Hid (r=if x0=1 then x2 else if x0=2 then x1 else if x0=5∨x0=6 then 4+x1 else -1):=hr
 clear hr
 have h4:IntKind.i64.wrap (4+x1)=4+x1:=IntWalk.i64_in _ (by omega)
 by_cases q1:x0=1
 ·have HF:Hid (r=x2):=by rw [Hid,HR.out];simp [q1]
  subst q1
  clear HR 
  go_enter Tryz.func168,Tryz.ntmps168
  go_wp2
  go_ret
  exact ⟨by rw [HF.out];rfl,by go_grown⟩
 by_cases q2:x0=2
 ·have HF:Hid (r=x1):=by rw [Hid,HR.out];simp [q2]
  subst q2
  clear HR q1
  go_enter Tryz.func168,Tryz.ntmps168
  go_wp2
  go_ret
  exact ⟨by rw [HF.out];rfl,by go_grown⟩
 by_cases q5:x0=5
 ·have HF:Hid (r=4+x1):=by rw [Hid,HR.out];simp [q5]
  subst q5
  clear HR q1 q2
  go_enter Tryz.func168,Tryz.ntmps168
  go_wp2
  go_ret
  exact ⟨by rw [HF.out];rfl,by go_grown⟩
 by_cases q6:x0=6
 ·have HF:Hid (r=4+x1):=by rw [Hid,HR.out];simp [q6]
  subst q6
  clear HR q1 q2 q5
  go_enter Tryz.func168,Tryz.ntmps168
  go_wp2
  go_ret
  exact ⟨by rw [HF.out];rfl,by go_grown⟩
 have HF:Hid (r=-1):=by rw [Hid,HR.out,if_neg q1,if_neg q2,if_neg (by omega)]
 have r1:(x0 == 1)=false:=by simp [q1]
 have r2:(x0 == 2)=false:=by simp [q2]
 have r5:(x0 == 5)=false:=by simp [q5]
 have r6:(x0 == 6)=false:=by simp [q6]
 clear HR q1 q2 q5 q6
 go_enter Tryz.func168,Tryz.ntmps168
 go_wp2
 go_ret
 exact ⟨by rw [HF.out];rfl,by go_grown⟩

theorem Kl (g k p b off n c:Nat) (x0 x1 x2:Int) (w:World) (hk:k<3) (hp:p<n) (hp6:p≤6) (hx:-1000≤x1∧x1≤1000)
  (e0:w.cell? ⟨g,k*4,none⟩=some (.slice (some ⟨b,off,none⟩) n c)) (e1:w.cell? ⟨g,k*4+1,none⟩=some (.int .i64 p)) (q0:w.cell? ⟨b,off+p*3,none⟩=some (.int .i64 x0)) (q1:w.cell? ⟨b,off+p*3+1,none⟩=some (.int .i64 x1)) (q2:w.cell? ⟨b,off+p*3+2,none⟩=some (.int .i64 x2)) :
  Calls Tryz.prog 56 #[.pointer (some ⟨g,0,none⟩),.int .i64 k] w fun e w'=>e=.returned (.agg #[.int .i64 k,.int .i64 p,.int .i64 x0,.int .i64 (X8 (x0,x1,x2))])∧Below w.heap.size w w':=by
 have hgl:g<w.heap.size:=World.block_lt_of_cell? _ _ e1
 have hk3:(k:Int)<3:=by omega
 have hpn:(p:Int)<(n:Int):=by omega
 have kO:=Hu x0 x1 x2 hx
 generalize X8 (x0,x1,x2)=ob at *
 have bw:Below w.heap.size w (w.alloc (.cells #[.int .i64 0,.int .i64 0,.int .i64 0,.int .i64 0] 38)):=by go_grown
 have pR:Blk (w.alloc (.cells #[.int .i64 0,.int .i64 0,.int .i64 0,.int .i64 0] 38)) w.heap.size 38 [.int .i64 0,.int .i64 0,.int .i64 0,.int .i64 0]:=Zp _ _ _ rfl
 replace e0:=Za bw _ _ e0
 replace e1:=Za bw _ _ e1
 replace q0:=Za bw _ _ q0
 replace q1:=Za bw _ _ q1
 replace q2:=Za bw _ _ q2
 go_enter Tryz.func56,Tryz.ntmps56
 go_wp2_with fail
 have hX9:w.heap.size<(w.alloc (.cells #[.int .i64 0,.int .i64 0,.int .i64 0,.int .i64 0] 38)).heap.size:=pR.lt
 generalize (w.alloc (.cells #[.int .i64 0,.int .i64 0,.int .i64 0,.int .i64 0] 38))=W at *
 refine wp_region_held_drew (S:=(fun w'=>w'.cell? ⟨g,k*4,none⟩=some (.slice (some ⟨b,off,none⟩) n c)∧w'.cell? ⟨g,k*4+1,none⟩=some (.int .i64 p)∧w'.cell? ⟨b,off+p*3,none⟩=some (.int .i64 x0)∧w'.cell? ⟨b,off+p*3+1,none⟩=some (.int .i64 x1)∧w'.cell? ⟨b,off+p*3+2,none⟩=some (.int .i64 x2))) (by kernel_rfl) ⟨e0,e1,q0,q1,q2⟩ (fun hS0=>?_)
 refine tkm 0 12 (.pointer (some ⟨g,k*4,none⟩)) ?_
 refine tkm 1 13 (.pointer (some ⟨g,k*4,none⟩)) ?_
 refine tkm 2 14 (.pointer (some ⟨g,k*4,none⟩)) ?_
 refine tkm 3 15 (.slice (some ⟨b,off,none⟩) n c) ?_
 refine tkm 4 16 (.pointer (some ⟨g,k*4,none⟩)) ?_
 refine tkm 5 17 (.pointer (some ⟨g,k*4,none⟩)) ?_
 refine tkm 6 18 (.pointer (some ⟨g,k*4+1,none⟩)) ?_
 refine tkm 7 19 (.int .i64 p) ?_
 refine tkm 8 20 (.pointer (some ⟨b,off+p*3,none⟩)) ?_
 refine tkm 9 21 (.agg #[.int .i64 x0,.int .i64 x1,.int .i64 x2]) ?_
 refine tkr 10 6 (fun K hK=>?_)
 have hal:Below W.drew.heap.size W.drew (W.drew.alloc (.cells #[.int .i64 0,.int .i64 0,.int .i64 0] 159)):=by go_grown
 go_simp
 refine hK.out _ _ ?_ (fun hS1=>?_)
 ·exact ⟨Za hal _ _ hS0.1,Za hal _ _ hS0.2.1,Za hal _ _ hS0.2.2.1,Za hal _ _ hS0.2.2.2.1,Za hal _ _ hS0.2.2.2.2⟩
 clear hK
 try simp only [Act.put,tka,tkb,tkc]
 refine tkz 11 (fun K hK=>?_)
 have hal2:Below W.drew.heap.size W.drew (W.drew.alloc (.cells #[.int .i64 x0,.int .i64 x1,.int .i64 x2] 159)):=by go_grown
 go_simp
 refine hK.out _ _ ?_ (fun hS2=>?_)
 ·exact ⟨Za hal2 _ _ hS0.1,Za hal2 _ _ hS0.2.1,Za hal2 _ _ hS0.2.2.1,Za hal2 _ _ hS0.2.2.2.1,Za hal2 _ _ hS0.2.2.2.2⟩
 clear hK
 try simp only [Act.put,tka,tkb,tkc]
 refine wpAnyH_done (by kernel_rfl) ?_ _
 have hb:Below W.heap.size W (W.alloc (.cells #[.int .i64 x0,.int .i64 x1,.int .i64 x2] 159)).drew:=by go_grown
 have pX:Blk (W.alloc (.cells #[.int .i64 x0,.int .i64 x1,.int .i64 x2] 159)).drew W.heap.size 159 [.int .i64 x0,.int .i64 x1,.int .i64 x2]:=Zp _ _ _ rfl
 replace bw:=Zb bw hb
 replace pR:=pR.below hb
 replace e1:=Za hb _ _ e1
 skip
 clear hal hal2 hS0 hS1 hS2 e0 q0 q1 q2 hb
 go_wp2_with fail
 generalize (W.alloc (.cells #[.int .i64 x0,.int .i64 x1,.int .i64 x2] 159)).drew=V at *
 generalize W.heap.size=X at *
 have c0:=pX.cell 0
 have c1:=pX.cell 1
 have c2:=pX.cell 2
 simp only [List.getElem?_cons_zero,List.getElem?_cons_succ] at c0 c1 c2
 have hdr:Below V.heap.size V V.drew:=by go_grown
 refine wp_region_held_drew (S:=(fun w'=>w'.cell? ⟨g,k*4+1,none⟩=some (.int .i64 p)∧w'.cell? ⟨X,0,none⟩=some (.int .i64 x0)∧w'.cell? ⟨X,1,none⟩=some (.int .i64 x1)∧w'.cell? ⟨X,2,none⟩=some (.int .i64 x2))) (by kernel_rfl) ⟨e1,c0,c1,c2⟩ (fun hS0=>?_)
 refine tkm 0 22 (.int .i64 (k:Int)) ?_
 refine tkm 1 23 (.pointer (some ⟨g,k*4,none⟩)) ?_
 refine tkm 2 24 (.pointer (some ⟨g,k*4,none⟩)) ?_
 refine tkm 3 25 (.pointer (some ⟨g,k*4+1,none⟩)) ?_
 refine tkm 4 26 (.int .i64 p) ?_
 refine tkm 5 27 (.pointer (some ⟨X,0,none⟩)) ?_
 refine tkm 6 28 (.int .i64 x0) ?_
 refine tkm 7 29 (.agg #[.int .i64 x0,.int .i64 x1,.int .i64 x2]) ?_
 refine tkr 8 30 (fun K hK=>?_)
 go_simp
 refine (kO _).mono ?_
 rintro e U ⟨rfl,hb8⟩
 go_wp2_with fail
 refine hK.out _ _ ?_ (fun hS1=>?_)
 ·exact ⟨Za hb8 _ _ hS0.1,Za hb8 _ _ hS0.2.1,Za hb8 _ _ hS0.2.2.1,Za hb8 _ _ hS0.2.2.2⟩
 clear hK
 refine tkm 9 31 (.agg #[.int .i64 (k:Int),.int .i64 p,.int .i64 x0,.int .i64 ob]) ?_
 replace pR:=pR.below (Zb hdr hb8)
 replace bw:=Zb bw (Zb hdr hb8)
 refine tkz 10 (fun K hK=>?_)
 refine Zw rfl 38 _ _ rfl w.heap.size [.int .i64 (k:Int),.int .i64 p,.int .i64 x0,.int .i64 ob] rfl rfl pR (by kernel_rfl) rfl rfl ?_
 intro U2 pR2 g2
 have bz:=bw.grown g2 bw.size (fun j hj=>by cases hj;omega)
 have n1:(some g:Option Nat)≠some w.heap.size:=by simp;omega
 have n2:(some X:Option Nat)≠some w.heap.size:=by simp;omega
 refine hK.out _ _ ⟨Zd g2 hS1.1 n1,Zd g2 hS1.2.1 n2,Zd g2 hS1.2.2.1 n2,Zd g2 hS1.2.2.2 n2⟩ (fun hS2=>?_)
 clear hK
 try simp only [Act.put,tka,tkb,tkc]
 refine wpAnyH_done (by kernel_rfl) ?_ _
 clear hS0 hS1 hS2 n1 n2 g2 bw pR hdr hb8 kO c0 c1 c2 e1 pX
 go_wp2_with fail
 refine bodyPost_ret (XX Tryz.results56 _ _ _ _ _ _ rfl pR2.out Tryz.underlying38 rfl (by kernel_rfl)) rfl ?_
 exact ⟨rfl,bz⟩

theorem Lx {x:I3} (h:okI x=true):-1000≤x.2.1∧x.2.1≤1000:=by
 rcases So h with ⟨a,q,rfl,ha,hq⟩ | ⟨q,a,rfl,hq,ha⟩ | ⟨a,z,rfl,ha⟩ | ⟨a,z,rfl,ha,hz⟩ | ⟨a,z,rfl,ha⟩ | ⟨a,z,rfl,ha⟩ | ⟨a,z,rfl,ha,hz⟩ | ⟨a,z,rfl,ha⟩<;>(simp only;omega)
theorem RE {w:World} {g:Nat} {cs:Sl × Sl × Sl} {rows:List (List I3)} {m:V4} (h:Yk w g cs rows m) (hp:Zn rows=true) (hs:Zk m=true) {k:Nat} (hk:k<3) (hd:Z2 rows m k=false) :
  Calls Tryz.prog 56 #[.pointer (some ⟨g,0,none⟩),.int .i64 k] w fun e w'=>e=.returned (.agg #[.int .i64 (ZB rows m k).1,.int .i64 (ZB rows m k).2.1,.int .i64 (ZB rows m k).2.2.1,.int .i64 (ZB rows m k).2.2.2])∧Below w.heap.size w w':=by
 obtain ⟨p,ep,hlt,hi,hok⟩:=X4 hp hs hk hd
 have hl6:=(WD hp hk).1
 have e0:=h.code hk
 have e1:=h.pc hk
 rw [ep] at e1
 obtain ⟨b,off,ea,hpn,q0,q1,q2⟩:=Sg (h.2 k hk) hlt
 rw [← hi] at q0 q1 q2
 rw [ea] at e0
 have hm:=Lx hok
 unfold ZB
 rw [ep]
 generalize Ys rows m k=x at *
 obtain ⟨x0,x1,x2⟩:=x
 exact Kl g k p b off _ _ x0 x1 x2 w hk hpn (by omega) hm e0 e1 q0 q1 q2

end Go.Proofs.YtifoggpohlegmaaGreatDoor
