/-
  Joined: ChkU, PackNum0, PackList, Lists, PackRead, NumbersPlain, TxeP, ChkW, Vj2P, CkcI, Cn3I.
-/
import Derived.Test.YtnffeclgboomoaaGreatDoorT40

namespace Go.Proofs.YtnffeclgboomoaaGreatDoor
set_option maxRecDepth 100000
set_option maxHeartbeats 16000000
open Go.RowKit
set_option linter.unusedVariables false
set_option linter.unusedSimpArgs false

theorem JK {m:V4} {x:I3} {k:Nat} (h:(ZH m x k).2≠0):(ZH m x k).2=if x.1=6 then 13 else 12:=by
 by_cases h1:x.1=1
 ·exact absurd (by unfold ZH;rw [if_pos h1]) h
 by_cases h2:x.1=2
 ·exact absurd (by unfold ZH;rw [if_neg h1,if_pos h2]) h
 by_cases h3:x.1=3
 ·exact absurd (by unfold ZH;rw [if_neg h1,if_neg h2,if_pos h3]) h
 by_cases h4:x.1=4
 ·exact absurd (by unfold ZH;rw [if_neg h1,if_neg h2,if_neg h3,if_pos h4]) h
 by_cases h5:x.1=5
 ·exact absurd (by unfold ZH;rw [if_neg h1,if_neg h2,if_neg h3,if_neg h4,if_pos h5]) h
 by_cases h6:x.1=6
 ·rw [if_pos h6]
  by_cases hh:m.2.2.1.getD x.2.1.toNat 0=k+1
  ·exact absurd (by unfold ZH;rw [if_neg h1,if_neg h2,if_neg h3,if_neg h4,if_neg h5,if_pos h6,if_pos hh]) h
  unfold ZH
  rw [if_neg h1,if_neg h2,if_neg h3,if_neg h4,if_neg h5,if_pos h6,if_neg hh]
 rw [if_neg h6]
 by_cases h7:x.1=7
 ·by_cases hh:m.2.2.2.getD (k*2+x.2.1.toNat) 0=0
  ·exact absurd (by unfold ZH;rw [if_neg h1,if_neg h2,if_neg h3,if_neg h4,if_neg h5,if_neg h6,if_pos h7,if_pos hh]) h
  exact absurd (by unfold ZH;rw [if_neg h1,if_neg h2,if_neg h3,if_neg h4,if_neg h5,if_neg h6,if_pos h7,if_neg hh]) h
 by_cases hh:m.2.2.2.getD (k*2+x.2.1.toNat) 0=x.2.2
 ·exact absurd (by unfold ZH;rw [if_neg h1,if_neg h2,if_neg h3,if_neg h4,if_neg h5,if_neg h6,if_neg h7,if_pos hh]) h
 unfold ZH
 rw [if_neg h1,if_neg h2,if_neg h3,if_neg h4,if_neg h5,if_neg h6,if_neg h7,if_neg hh]
def Qj (rows:List (List I3)) (x:I3):Prop:=x=(14,0,0)∨∃ k p:Nat,k<3∧p<6∧x=((if ((Xn rows k).getD p (0,0,0)).1=6 then 13 else 12),(k:Int),(p:Int))
theorem PQ {rows:List (List I3)} {m:V4} {k:Int} (hp:Zj rows=true) (hs:Zd m=true) (hz:VS rows m k=0) {x:I3} (hx:x ∈ XO rows m k):Qj rows x:=by
 obtain ⟨h0,h2,hd,_⟩:=X6 hz
 obtain ⟨q,rfl⟩:∃ q:Nat,k=q:=⟨k.toNat,by omega⟩
 rw [Int.toNat_natCast] at hd
 obtain ⟨p,e1,e2,e3,_⟩:=VL hp hs (show q<3 by omega) hd
 have hl:=(Wv hp (show q<3 by omega)).1
 unfold XO at hx
 rw [Int.toNat_natCast] at hx
 by_cases h9:(goM rows m (q:Int)).2=0
 ·rw [if_pos h9] at hx
  cases hx
 rw [if_neg h9] at hx
 have hx2:=List.mem_singleton.1 hx
 refine .inr ⟨q,p,by omega,by omega,?_⟩
 rw [hx2,e1]
 unfold goM at h9 ⊢
 rw [Int.toNat_natCast] at h9 ⊢
 rw [JK h9,e3]
theorem VP {rows:List (List I3)} {m:V4} {x:I3} (hx:x ∈ ZB rows m):Qj rows x:=by
 unfold ZB at hx
 split at hx
 ·exact .inl (List.mem_singleton.1 hx)
 cases hx
theorem Ja {rows:List (List I3)} {m:V4} (hp:Zj rows=true) (hs:Zd m=true) {x:I3} (hx:x ∈ ZA rows m):Qj rows x:=by
 rcases RE.1 hx with h | ⟨k,hk,h⟩
 ·exact VP h
 rcases US.1 h with h | h
 ·exact PQ hp hs (Xi hk) h
 exact VP h
def SQ (x:I3):Int:=if x.1=14 then 0 else 1+x.2.1*6+x.2.2
theorem LR (c:Prop) [Decidable c]:¬ (if c then (13:Int) else 12)=14:=by split<;>omega
theorem GS {rows:List (List I3)} {x y:I3} (hx:Qj rows x) (hy:Qj rows y) (h:SQ x=SQ y):x=y:=by
 rcases hx with rfl | ⟨k,p,hk,hp,rfl⟩<;>rcases hy with rfl | ⟨k',p',hk',hp',rfl⟩
 ·rfl
 ·exfalso
  rw [show SQ (14,0,0)=0 from rfl] at h
  unfold SQ at h
  rw [if_neg (LR _)] at h
  simp only at h
  omega
 ·exfalso
  rw [show SQ (14,0,0)=0 from rfl] at h
  unfold SQ at h
  rw [if_neg (LR _)] at h
  simp only at h
  omega
 unfold SQ at h
 rw [if_neg (LR _),if_neg (LR _)] at h
 simp only at h
 obtain rfl:k=k':=by omega
 obtain rfl:p=p':=by omega
 rfl
theorem FB {rows:List (List I3)} {x:I3} (hx:Qj rows x):0≤SQ x∧SQ x≤18:=by
 rcases hx with rfl | ⟨k,p,hk,hp,rfl⟩
 ·unfold SQ;simp
 have h1:∀ (c:Prop) [Decidable c],(if c then (13:Int) else 12)≠14:=by intro c _;split<;>omega
 unfold SQ
 simp only [if_neg (h1 _)]
 omega
theorem QY {rows:List (List I3)}:∀ {xs:List I3},xs.Nodup→(∀ x ∈ xs,Qj rows x)→(xs.map SQ).Nodup
 | [],_,_=>List.nodup_nil
 | x::xs,hn,hc=>by
  obtain ⟨h1,h2⟩:=List.nodup_cons.1 hn
  rw [List.map_cons,List.nodup_cons]
  refine ⟨fun hm=>?_,QY h2 (fun y hy=>hc y (List.mem_cons_of_mem _ hy))⟩
  obtain ⟨y,hy,e⟩:=List.mem_map.1 hm
  have:=GS (hc x (List.mem_cons_self ..)) (hc y (List.mem_cons_of_mem _ hy)) e.symm
  subst this
  exact h1 hy
theorem Ys.nodup9 {xs:List I3} (h:Ys xs):xs.Nodup:=h.imp (fun h e=>by subst e;rw [WE] at h;cases h)
theorem GA {rows:List (List I3)} {xs:List I3} (h:Ys xs) (hc:∀ x ∈ xs,Qj rows x):xs.length≤19:=by
 have h1:=QX (QY h.nodup9 hc) (a:=0) (b:=18) (fun y hy=>by
  obtain ⟨x,hx,rfl⟩:=List.mem_map.1 hy
  exact FB (hc x hx))
 rw [List.length_map] at h1
 omega
theorem Uq {rows:List (List I3)} {x:I3} (hx:Qj rows x):okB x=true:=by
 rcases hx with rfl | ⟨k,p,hk,hp,rfl⟩
 ·rfl
 unfold okB inB
 split<;>simp<;>omega
theorem R6 {rows:List (List I3)} (hp:Zj rows=true) {f:Nat} {m:V4} (hs:Zd m=true):∀ x ∈ Xf rows f m,Zd x=true:=
 TT (fun x=>Zd x=true) (fun x hx t ht=>(Wl hp hx t ht).1) f m hs
theorem LE {rows:List (List I3)} (hp:Zj rows=true) {f:Nat} {m:V4} (hs:Zd m=true):∀ x ∈ cmB rows f m,Qj rows x:=fun x hx=>by
 obtain ⟨s,h1,h2⟩:=Ts.1 hx
 exact Ja hp (R6 hp hs s h1) h2
theorem Fs {rows:List (List I3)} (hp:Zj rows=true) {f:Nat} {m:V4} (hs:Zd m=true):∀ y ∈ cmF rows f m,Y7 y=true:=fun y hy=>by
 obtain ⟨s,h1,h2⟩:=Tt.1 hy
 exact look_ok (R6 hp hs s h1) y h2
theorem LG {rows:List (List I3)} (hp:Zj rows=true) {f:Nat} {m:V4} (hs:Zd m=true):ZS (YU rows f m)=true:=by
 have h1:=GA (Ur rows f m) (LE hp hs)
 unfold ZS YU YP
 simp only [Bool.and_eq_true,decide_eq_true_eq]
 refine ⟨⟨Vt hs,by rw [Vd hs];exact hs⟩,H3 (fun x hx=>Uq (LE hp hs x hx)) (Ur rows f m),Jx (Fs hp hs) (T1 rows f m),by omega⟩
theorem Mn {rows:List (List I3)} (hp:Zj rows=true) {f:Nat} {m:V4} {st:Zv} (hs:Zd m=true) (hf:ZU rows m<f) (ht:XZ rows st.1) (hk:(ZF rows f m st).2.2=true):(ZF rows f m st).1=YU rows 18 m∧YV rows (ZU rows m+1) st (ZF rows f m st).2.1∧YU rows 18 m ∈ (ZF rows f m st).2.1.1:=
 FQ hp (fun s hs=>LG hp hs) hs hf ht hk


theorem WU (n:Nat) (w:World) (hn:n≤999999999) :
  Calls Tryz.prog 221 #[.int .i64 n] w fun e w'=>e=.returned (.string (strOfNums (YY n)))∧Below w.heap.size w w':=by
 obtain ⟨i0,hi,hz0,hz1,hz2⟩:=info_parts PD
 go_enter Tryz.func221,Tryz.ntmps221
 go_wp2
 go_loopw [0,3] (fun si sv wr=>∃ (k:Nat) (ys:List Int),k≤999999999∧si=.int .i64 k∧wr.ownsRow w.heap.size 5 1 sv ys.length (u8s ys)∧Hid (ys++YY k=YY n)∧Below w.heap.size w wr) (fun si _ _=>(intOf si).toNat)
 case atStart=>exact ⟨n,[],hn,rfl,World.ownsRow_lit w #[] 0 (Nat.le_refl _) (by unfold maxLen;omega) rfl,by simp [Hid],(Below.refl _ _).alloc (Nat.le_refl _) _⟩
 case round =>
  obtain ⟨k,ys,hk,rfl,ho,HY,hbel⟩:=hrel
  have hlen:ys.length≤4:=by
   have h1:=congrArg List.length HY.out
   have h2:=Vi k
   have h3:=Vi n
   simp at h1;omega
  have hbw:w.heap.size≤wr.heap.size:=hbel.size
  by_cases hlt:128≤k
  ·go_wp2_with (at_builtin;refine wpList_append_own _ rfl _ _ 22 rfl w.heap.size 5 i0 (.int .u8 0) 1 1 Tryz.underlying22 hi hz0 hz1 hz2 rfl (by decide) _ _ _ rfl (ho.alloc _) ⟨wr.heap.size,0,none⟩ 1 1 [.int .u8 (128+(k:Int) % 128)] rfl rfl (cell_one_new _ _ _) (UU _) ?c3 ?c4 ?c5 ?_)
   case c3=>unfold maxLen;omega
   case c4=>omega
   case c5=>simp;omega
   intro v' w1 hown' hgrow _
   have hcomm:(128+(k:Int) % 128)=(k:Int) % 128+128:=by omega
   rw [hcomm] at hown'
   clear hcomm
   have R:w1.ownsRow w.heap.size 5 1 v' (ys++[(k:Int) % 128+128]).length (u8s (ys++[(k:Int) % 128+128])):=by simpa [Nat.add_assoc] using hown'
   have hb1:Below w.heap.size w w1:=(hbel.alloc hbw _).grown hgrow (by simp;omega) (fun j hj=>(ho.lt _ hj).1)
   clear hown' hgrow ho
   go_wp2
   go_roundw
   case rel=>exact ⟨k / 128,ys++[(k:Int) % 128+128],by omega,by go_num,R,by rw [Hid,List.append_assoc,List.singleton_append,← Jr hlt (by omega)];exact HY.out,hb1⟩
   case measure=>simp [intOf];omega
  go_wp2_with (at_builtin;refine wpList_append_own _ rfl _ _ 22 rfl w.heap.size 5 i0 (.int .u8 0) 1 1 Tryz.underlying22 hi hz0 hz1 hz2 rfl (by decide) _ _ _ rfl (ho.alloc _) ⟨wr.heap.size,0,none⟩ 1 1 [.int .u8 (k:Int)] rfl rfl (cell_one_new _ _ _) (UU _) ?d3 ?d4 ?d5 ?_)
  case d3=>unfold maxLen;omega
  case d4=>omega
  case d5=>simp;omega
  intro v' w1 hown' hgrow _
  have hb1:Below w.heap.size w w1:=(hbel.alloc hbw _).grown hgrow (by simp;omega) (fun j hj=>(ho.lt _ hj).1)
  have hp:YY n=ys++[(k:Int)]:=by rw [← HY.out,UY (by omega)]
  have R:w1.ownsRow w.heap.size 5 1 v' (ys.length+1) (u8s (YY n)):=by rw [hp];simpa [Nat.add_assoc] using hown'
  have hcv:=UO R
  clear hown' hgrow ho hp HY R
  go_wp2
  go_ret
  exact ⟨rfl,hb1⟩


def LB (zs:List Int):Prop:=∀ z ∈ zs,0≤z∧z≤999999999
def WO (zs:List Int):List Int:=zs.flatMap fun z=>YY z.toNat
def UK (zs:List Int):List Int:=YY zs.length++WO zs

theorem Sg:∀ zs:List Int,(WO zs).length≤5*zs.length
 | []=>by simp [WO]
 | z::zs=>by
  have h:=Sg zs
  have h2:=(Vi z.toNat).2
  simp only [WO,List.flatMap_cons,List.length_append,List.length_cons] at h ⊢
  omega
theorem M6 (zs:List Int) (k:Nat) (h:k<zs.length):WO (zs.take (k+1))=WO (zs.take k)++YY (zs.getD k 0).toNat:=by
 have g:zs.getD k 0=zs[k]:=by simp [List.getElem?_eq_getElem h]
 rw [g,List.take_succ_eq_append_getElem h]
 unfold WO
 rw [List.flatMap_append]
 simp only [List.flatMap_cons,List.flatMap_nil,List.append_nil]
theorem Hf {zs:List Int} {k:Nat} (h:k<zs.length):zs.getD k 0 ∈ zs:=by
 simp [List.getElem?_eq_getElem h]
theorem Ny (a:Option Addr) (len cap:Nat) (zs:List Int) (w:World) (h:Z2 .i64 w a len cap zs) (hlen:len≤4096) (hok:LB zs) :
  Calls Tryz.prog 195 #[.slice a len cap] w fun e w'=>e=.returned (.string (strOfNums (UK zs)))∧Below w.heap.size w w':=by
 obtain ⟨hl,hlc,hcm,hcase⟩:=h
 unfold maxLen at hcm
 rcases hcase with h0 | ⟨b,off,rfl,hblt,hcell⟩
 ·subst h0
  have hz:zs=[]:=by simpa using hl
  subst hz
  go_enter Tryz.func195,Tryz.ntmps195
  go_wp2_with fail
  refine (WU 0 _ (by omega)).mono ?_
  rintro e w1 ⟨rfl,hb1⟩
  go_wp2
  refine wp_loop_rounds 1 ?_
  rw [rounds_succ]
  go_wp2
  go_ret
  exact ⟨rfl,hb1⟩
 go_enter Tryz.func195,Tryz.ntmps195
 go_wp2_with fail
 refine (WU len _ (by omega)).mono ?_
 rintro e w1 ⟨rfl,hb1⟩
 go_wp2
 go_loopw [3,4] (fun st si wr=>∃ k:Nat,k≤len∧si=.int .i64 k∧st=.string (strOfNums (YY len++WO (zs.take k)))∧Below w.heap.size w wr) (fun _ si _=>len - (intOf si).toNat)
 case atStart=>exact ⟨0,by omega,rfl,by simp [WO],hb1⟩
 case round =>
  obtain ⟨k,hk,rfl,rfl,hbel⟩:=hrel
  by_cases hlt:k<len
  ·have hc:wr.cell? ⟨b,off+k,none⟩=some (.int .i64 (zs.getD k 0)):=by rw [hbel.cell (p:=⟨b,off+k,none⟩) hblt];exact hcell k hlt
   have hx:=hok _ (Hf (k:=k) (by omega))
   have hsn:=M6 zs k (by omega)
   have hpl:=Sg (zs.take k)
   have hp5:=(Vi len).2
   have hq5:=(Vi (zs.getD k 0).toNat).2
   have htl:(zs.take k).length≤4096:=by simp;omega
   generalize zs.getD k 0=x at hc hx hsn hq5
   obtain ⟨n,rfl⟩:=Int.eq_ofNat_of_zero_le hx.1
   have hn:n≤999999999:=by omega
   rw [Int.toNat_natCast] at hsn hq5
   have R:Hid (strOfNums (YY len++WO (zs.take k))++strOfNums (YY n)=strOfNums (YY len++WO (zs.take (k+1)))):=by
    rw [Hid,hsn,← Lc,List.append_assoc]
   have hsum:(strOfNums (YY len++WO (zs.take k))).size+(strOfNums (YY n)).size≤9223372036854775807:=by
    rw [strOfNums_size,strOfNums_size,List.length_append];omega
   have hadd:=fun W=>run_string_add_sum (P:=Tryz.prog) W _ _ hsum
   clear hsn hpl hp5 hq5 htl hsum hx
   generalize strOfNums (YY len++WO (zs.take k))=sk at hadd R
   go_wp2_with (go_at_call 221;refine (WU n _ hn).mono ?_;rintro e w2 ⟨rfl,hb2⟩)
   go_roundw
   case rel=>exact ⟨k+1,by omega,by go_num,by rw [R.out],hbel.trans (hb2.mono hbel.size)⟩
   case measure=>simp [intOf];omega
  obtain rfl:k=len:=by omega
  go_wp2
  go_ret
  exact ⟨by unfold UK;rw [List.take_of_length_le (Nat.le_of_eq hl),hl];rfl,hbel⟩


def VJ (s:ByteArray):Nat→List Nat→Nat→Prop
 | p,[],q=>q=p
 | p,z::zs,q=>∃ k,Num s p z k∧VJ s (p+k) zs q
theorem UJ {s:ByteArray}:∀ {zs ys:List Nat} {p q r:Nat},VJ s p zs q→VJ s p ys r→zs.length≤ys.length→∃ rest,ys=zs++rest∧VJ s q rest r
 | [],ys,p,q,r,h,g,_=>by
  obtain rfl:q=p:=h
  exact ⟨ys,rfl,g⟩
 | z::zs,[],_,_,_,_,_,hl=>by simp at hl
 | z::zs,y::ys,p,q,r,h,g,hl=>by
  obtain ⟨j,hj,hr⟩:=h
  obtain ⟨k,hk,gr⟩:=g
  obtain ⟨rfl,rfl⟩:=hj.only hk
  obtain ⟨rest,rfl,h'⟩:=UJ hr gr (by simpa using hl)
  exact ⟨rest,rfl,h'⟩
def S7 (s:ByteArray) (zs:List Nat):Prop:=∃ k,Num s 0 zs.length k∧zs.length≤4096∧VJ s k zs s.size
theorem S7.only {s:ByteArray} {zs ys:List Nat} (h:S7 s zs) (g:S7 s ys):zs=ys:=by
 obtain ⟨k,hk,_,hz⟩:=h
 obtain ⟨j,hj,_,hy⟩:=g
 obtain ⟨hl,rfl⟩:=hk.only hj
 obtain ⟨rest,rfl,_⟩:=UJ hz hy (by omega)
 have:rest=[]:=by
  have e:=hl
  simp at e
  exact e
 rw [this,List.append_nil]
theorem K8 {s:ByteArray} {n k q:Nat} {zs:List Nat} (h:Num s 0 n k) (hn:n≤4096) (hz:VJ s k zs q) (hl:zs.length=n) (hq:q=s.size):S7 s zs:=by
 subst hl hq
 exact ⟨k,h,hn,hz⟩


def Vq (s:ByteArray) (p:Nat) (xs:List Int):Prop:=p+xs.length≤s.size∧∀ i,i<xs.length→(bt s (p+i):Int)=xs.getD i 0
theorem Te {s:ByteArray} {p:Nat} {xs ys:List Int} (h:Vq s p (xs++ys)):Vq s p xs:=by
 obtain ⟨h1,h2⟩:=h
 rw [List.length_append] at h1
 refine ⟨by omega,fun i hi=>?_⟩
 rw [h2 i (by rw [List.length_append];omega)]
 simp [List.getD,List.getElem?_append_left hi]
theorem UH {s:ByteArray} {p:Nat} {xs ys:List Int} (h:Vq s p (xs++ys)):Vq s (p+xs.length) ys:=by
 obtain ⟨h1,h2⟩:=h
 rw [List.length_append] at h1
 refine ⟨by omega,fun i hi=>?_⟩
 have:=h2 (xs.length+i) (by rw [List.length_append];omega)
 rw [show p+xs.length+i=p+(xs.length+i) by omega,this]
 simp [List.getD,List.getElem?_append_right (show xs.length≤xs.length+i by omega)]

theorem Tu {s:ByteArray} {p n:Nat} (hn:n≤999999999) (h:Vq s p (YY n)):Num s p n (YY n).length:=by
 obtain ⟨hs,hb⟩:=h
 by_cases h1:n<128
 ·rw [UY h1] at hs hb ⊢
  have b0:=hb 0 (by simp)
  simp at b0 hs
  refine ⟨⟨by simp,by simp,by simpa using hs,fun i hi=>by simp at hi,by simp;omega⟩,by simp,?_,hn⟩
  simp only [List.length_cons,List.length_nil,val]
  omega
 by_cases h2:n<16384
 ·rw [Hx (by omega) h2] at hs hb ⊢
  have b0:=hb 0 (by simp)
  have b1:=hb 1 (by simp)
  simp at b0 b1 hs
  refine ⟨⟨by simp,by simp,by simpa using hs,fun i hi=>?_,?_⟩,?_,?_,hn⟩
  ·simp at hi;obtain rfl:i=0:=by omega
   simp;omega
  ·simp only [List.length_cons,List.length_nil,show p+(0+1+1) - 1=p+1 by omega];omega
  ·simp only [List.length_cons,List.length_nil,show p+(0+1+1) - 1=p+1 by omega];omega
  simp only [List.length_cons,List.length_nil,val];omega
 by_cases h3:n<2097152
 ·rw [Hy (by omega) h3] at hs hb ⊢
  have b0:=hb 0 (by simp)
  have b1:=hb 1 (by simp)
  have b2:=hb 2 (by simp)
  simp at b0 b1 b2 hs
  refine ⟨⟨by simp,by simp,by simpa using hs,fun i hi=>?_,?_⟩,?_,?_,hn⟩
  ·simp at hi
   have:i=0∨i=1:=by omega
   rcases this with rfl | rfl
   ·simp;omega
   omega
  ·simp only [List.length_cons,List.length_nil,show p+(0+1+1+1) - 1=p+2 by omega];omega
  ·simp only [List.length_cons,List.length_nil,show p+(0+1+1+1) - 1=p+2 by omega];omega
  simp only [List.length_cons,List.length_nil,val];omega
 by_cases h4:n<268435456
 ·rw [Hz (by omega) h4] at hs hb ⊢
  have b0:=hb 0 (by simp)
  have b1:=hb 1 (by simp)
  have b2:=hb 2 (by simp)
  have b3:=hb 3 (by simp)
  simp at b0 b1 b2 b3 hs
  refine ⟨⟨by simp,by simp,by simpa using hs,fun i hi=>?_,?_⟩,?_,?_,hn⟩
  ·simp at hi
   have:i=0∨i=1∨i=2:=by omega
   rcases this with rfl | rfl | rfl
   ·simp;omega
   ·omega
   omega
  ·simp only [List.length_cons,List.length_nil,show p+(0+1+1+1+1) - 1=p+3 by omega];omega
  ·simp only [List.length_cons,List.length_nil,show p+(0+1+1+1+1) - 1=p+3 by omega];omega
  simp only [List.length_cons,List.length_nil,val];omega
 rw [Fh (by omega)] at hs hb ⊢
 have b0:=hb 0 (by simp)
 have b1:=hb 1 (by simp)
 have b2:=hb 2 (by simp)
 have b3:=hb 3 (by simp)
 have b4:=hb 4 (by simp)
 simp at b0 b1 b2 b3 b4 hs
 refine ⟨⟨by simp,by simp,by simpa using hs,fun i hi=>?_,?_⟩,?_,?_,hn⟩
 ·simp at hi
  have:i=0∨i=1∨i=2∨i=3:=by omega
  rcases this with rfl | rfl | rfl | rfl
  ·simp;omega
  ·omega
  ·omega
  omega
 ·simp only [List.length_cons,List.length_nil,show p+(0+1+1+1+1+1) - 1=p+4 by omega];omega
 ·simp only [List.length_cons,List.length_nil,show p+(0+1+1+1+1+1) - 1=p+4 by omega];omega
 simp only [List.length_cons,List.length_nil,val];omega

def WH (zs:List Nat):List Int:=zs.flatMap fun z=>YY z
theorem VD {s:ByteArray}:∀ {zs:List Nat} {p:Nat},(∀ z ∈ zs,z≤999999999)→Vq s p (WH zs)→VJ s p zs (p+(WH zs).length)
 | [],p,_,_=>by simp [WH,VJ]
 | z::zs,p,hz,h=>by
  have e:WH (z::zs)=YY z++WH zs:=by simp [WH]
  rw [e] at h ⊢
  refine ⟨_,Tu (hz z (by simp)) (Te h),?_⟩
  have:=VD (fun y hy=>hz y (by simp [hy])) (UH h)
  rw [List.length_append,← Nat.add_assoc]
  exact this

theorem Fr (xs:List Int) (h:∀ x ∈ xs,0≤x∧x≤255) (i:Nat) (hi:i<xs.length):(bt (strOfNums xs) i:Int)=xs.getD i 0:=by
 have hs:i<(strOfNums xs).size:=by rw [strOfNums_size];exact hi
 unfold bt
 rw [dif_pos hs]
 have hx:=h xs[i] (List.getElem_mem hi)
 have e:((strOfNums xs)[i]'hs)=UInt8.ofNat xs[i].toNat:=by
  show (strOfNums xs).data[i]'(by simpa using hs)=_
  simp [strOfNums]
 rw [e]
 simp [List.getElem?_eq_getElem hi]
 omega
theorem Na (xs:List Int) (h:∀ x ∈ xs,0≤x∧x≤255):Vq (strOfNums xs) 0 xs:=
 ⟨by rw [strOfNums_size];omega,fun i hi=>by rw [Nat.zero_add];exact Fr xs h i hi⟩


theorem LQ {zs:List Int} (h:∀ z ∈ zs,0≤z∧z≤999999999):∃ ns:List Nat,zs=ns.map (fun z:Nat=>(z:Int))∧∀ n ∈ ns,n≤999999999:=by
 refine ⟨zs.map Int.toNat,?_,?_⟩
 ·rw [List.map_map]
  conv=>lhs;rw [← List.map_id zs]
  apply List.map_congr_left
  intro z hz
  have:=h z hz
  simp only [id,Function.comp]
  omega
 intro n hn
 obtain ⟨z,hz,rfl⟩:=List.mem_map.1 hn
 have:=h z hz
 omega
theorem RL (ns:List Nat):UK (ns.map (fun z:Nat=>(z:Int)))=YY ns.length++WH ns:=by
 unfold UK WO WH
 rw [List.length_map]
 congr 1
 induction ns with
 | nil=>rfl
 | cons n ns ih=>simp [List.flatMap_cons,ih]
theorem NV {ns:List Nat} (h:∀ n ∈ ns,n≤999999999):∀ x ∈ WH ns,0≤x∧x≤255:=by
 intro x hx
 obtain ⟨n,hn,hx⟩:=List.mem_flatMap.1 hx
 exact Q1 n (by have:=h n hn;omega) x hx
theorem M4 {ns:List Nat} (h:∀ n ∈ ns,n≤999999999) (hl:ns.length≤4096):∀ x ∈ YY ns.length++WH ns,0≤x∧x≤255:=by
 intro x hx
 rcases List.mem_append.1 hx with hx | hx
 ·exact Q1 _ (by omega) x hx
 exact NV h x hx
theorem Sx {ns:List Nat} (h:∀ n ∈ ns,n≤999999999) (hl:ns.length≤4096):S7 (strOfNums (YY ns.length++WH ns)) ns:=by
 have hb:=Na _ (M4 h hl)
 have hn:=Tu (by omega) (Te hb)
 refine K8 hn hl (VD h ?_) rfl ?_
 ·simpa using UH hb
 rw [strOfNums_size,List.length_append]


def Qx (e:E3):List Int:=((e.2.1.length:Int)::ZT e.2.1)++e.2.2
def Qw (e:E3):ByteArray:=e.1++strOfNums (UK (Qx e))
theorem Q6 {xs:List I3} (h:Wi xs=true):∀ x ∈ xs,okB x=true:=by
 intro x hx
 obtain ⟨t,ht,rfl⟩:=List.getElem_of_mem hx
 have:=Vp h ht
 simp only [Tc,Bool.and_eq_true] at this
 simpa [List.getD,List.getElem?_eq_getElem ht] using this.1
theorem Jk {x:I3} (h:okB x=true):(0≤x.1∧x.1≤14)∧(0≤x.2.1∧x.2.1≤2)∧0≤x.2.2∧x.2.2≤5:=by
 unfold okB at h
 split at h
 ·simp only [Bool.and_eq_true,decide_eq_true_eq] at h
  omega
 split at h
 ·simp only [Bool.and_eq_true,inB,decide_eq_true_eq] at h
  omega
 cases h
theorem M7 {xs:List Int} (h:Wm xs=true):∀ x ∈ xs,0≤x∧x≤22:=by
 intro x hx
 obtain ⟨t,ht,rfl⟩:=List.getElem_of_mem hx
 have:=(TN h t ht).2
 simp only [List.getD,List.getElem?_eq_getElem ht,Option.getD_some,Y7,decide_eq_true_eq] at this
 omega
theorem X0 {e:E3} (h:ZS e=true):YP e.1=true∧Wi e.2.1=true∧Wm e.2.2=true∧e.2.1.length≤30:=by
 simp only [ZS,Bool.and_eq_true,decide_eq_true_eq] at h
 exact h
theorem P2 {e:E3} (h:ZS e=true):LB (Qx e):=by
 obtain ⟨_,h1,h2,h3⟩:=X0 h
 intro z hz
 unfold Qx at hz
 rcases List.mem_append.1 hz with hz | hz
 ·rcases List.mem_cons.1 hz with rfl | hz
  ·omega
  unfold ZT at hz
  obtain ⟨x,hx,hz⟩:=List.mem_flatMap.1 hz
  have:=Jk (Q6 h1 x hx)
  simp only [List.mem_cons,List.not_mem_nil,or_false] at hz
  omega
 have:=M7 h2 z hz
 omega
theorem R8 {e:E3} (h:ZS e=true):(Qx e).length≤114:=by
 have h1:=Ri h
 have h2:=Rj h
 unfold Qx
 rw [List.length_append,List.length_cons,Xd]
 omega
theorem Jq {xs ys:List Int} (hx:LB xs) (hy:LB ys) (lx:xs.length≤4096) (ly:ys.length≤4096) (h:strOfNums (UK xs)=strOfNums (UK ys)):xs=ys:=by
 obtain ⟨na,ea,ma⟩:=LQ hx
 obtain ⟨nb,eb,mb⟩:=LQ hy
 have la':na.length=xs.length:=by rw [ea];simp
 have lb':nb.length=ys.length:=by rw [eb];simp
 have La:=Sx ma (by omega)
 have Lb:=Sx mb (by omega)
 rw [← RL,← ea] at La
 rw [← RL,← eb,← h] at Lb
 have hn:=La.only Lb
 rw [ea,eb,hn]
theorem TO:∀ {xs ys:List I3},ZT xs=ZT ys→xs=ys
 | [],[],_=>rfl
 | [],y::ys,h=>by simp [ZT] at h
 | x::xs,[],h=>by simp [ZT] at h
 | x::xs,y::ys,h=>by
  simp only [ZT,List.flatMap_cons,List.cons_append,List.nil_append,List.cons.injEq] at h
  obtain ⟨h0,h1,h2,h3⟩:=h
  rw [TO (show ZT xs=ZT ys from h3)]
  obtain ⟨x0,x1,x2⟩:=x
  obtain ⟨y0,y1,y2⟩:=y
  simp only at h0 h1 h2
  rw [h0,h1,h2]
theorem Gr {e e':E3} (h:Qx e=Qx e'):e.2=e'.2:=by
 unfold Qx at h
 simp only [List.cons_append,List.cons.injEq] at h
 have hl:e.2.1.length=e'.2.1.length:=by omega
 obtain ⟨h2,h3⟩:=List.append_inj h.2 (by rw [Xd,Xd,hl])
 obtain ⟨_,b,f⟩:=e
 obtain ⟨_,b',f'⟩:=e'
 simp only at h2 h3
 rw [TO h2,h3]
theorem J1 {a b c d:ByteArray} (hl:a.size=c.size) (h:a++b=c++d):a=c∧b=d:=by
 have h1:a.data.toList++b.data.toList=c.data.toList++d.data.toList:=by
  have:=congrArg (fun x:ByteArray=>x.data.toList) h
  simpa [ByteArray.data_append] using this
 obtain ⟨h2,h3⟩:=List.append_inj h1 (by rw [Array.length_toList,Array.length_toList];exact hl)
 refine ⟨ByteArray.ext (Array.ext' h2),ByteArray.ext (Array.ext' h3)⟩
theorem Gq {e e':E3} (h:ZS e=true) (h':ZS e'=true) (ht:Qw e=Qw e'):e=e':=by
 obtain ⟨h1,h2⟩:=J1 (by rw [T4 h,T4 h']) ht
 have:=Gr (Jq (P2 h) (P2 h') (by have:=R8 h;omega) (by have:=R8 h';omega) h2)
 obtain ⟨k,r⟩:=e
 obtain ⟨k',r'⟩:=e'
 simp only at h1 this
 rw [h1,this]
theorem M5 {zs:List Int}:(strOfNums (UK zs)).size≤5+5*zs.length:=by
 rw [strOfNums_size]
 unfold UK
 rw [List.length_append]
 have:=Sg zs
 have:=Vi zs.length
 omega


def YL (e:E3):Prop:=Ys e.2.1∧(∀ x ∈ e.2.1,okB x=true)∧e.2.2.Pairwise (· < ·)∧∀ y ∈ e.2.2,Y7 y=true
theorem XJ:YL e3d:=⟨List.Pairwise.nil,by simp [e3d],List.Pairwise.nil,by simp [e3d]⟩
def nmB (x:I3):Int:=if x.1=14 then 0 else (x.1 - 12)*18+(x.2.1*6+x.2.2+1)
theorem FA {x:I3} (h:okB x=true):0≤nmB x∧nmB x≤36:=by
 unfold okB inB at h
 unfold nmB
 split at h
 ·rename_i h1;rw [if_pos h1];omega
 rename_i h1
 rw [if_neg h1]
 split at h
 ·simp at h;omega
 cases h
theorem GR {x y:I3} (h:okB x=true) (h':okB y=true) (e:nmB x=nmB y):x=y:=by
 obtain ⟨a,b,c⟩:=x
 obtain ⟨a',b',c'⟩:=y
 unfold okB inB at h h'
 unfold nmB at e
 simp only at h h' e
 by_cases h1:a=14<;>by_cases h2:a'=14
 ·rw [if_pos h1] at h;rw [if_pos h2] at h'
  simp at h h'
  obtain ⟨rfl,rfl⟩:=h
  obtain ⟨rfl,rfl⟩:=h'
  rw [h1,h2]
 ·rw [if_pos h1] at h e;rw [if_neg h2] at h' e
  split at h'
  ·simp at h';exfalso;omega
  cases h'
 ·rw [if_neg h1] at h e;rw [if_pos h2] at h' e
  split at h
  ·simp at h;exfalso;omega
  cases h
 rw [if_neg h1] at h e;rw [if_neg h2] at h' e
 split at h
 ·split at h'
  ·simp at h h'
   have e1:a=a':=by omega
   have e2:b=b':=by omega
   have e3:c=c':=by omega
   rw [e1,e2,e3]
  cases h'
 cases h
theorem RF {f:I3→Int}:∀ {xs:List I3},xs.Nodup→(∀ x ∈ xs,∀ y ∈ xs,f x=f y→x=y)→(xs.map f).Nodup
 | [],_,_=>List.nodup_nil
 | x::xs,hn,hc=>by
  obtain ⟨h1,h2⟩:=List.nodup_cons.1 hn
  rw [List.map_cons,List.nodup_cons]
  refine ⟨fun hm=>?_,RF h2 (fun y hy z hz=>hc y (List.mem_cons_of_mem _ hy) z (List.mem_cons_of_mem _ hz))⟩
  obtain ⟨y,hy,e⟩:=List.mem_map.1 hm
  have:=hc x (List.mem_cons_self ..) y (List.mem_cons_of_mem _ hy) e.symm
  subst this
  exact h1 hy
theorem Ys.nodup11 {xs:List I3} (h:Ys xs):xs.Nodup:=h.imp (fun h e=>by subst e;rw [WE] at h;cases h)
theorem YL.bugs {e:E3} (h:YL e):e.2.1.length≤37:=by
 have h1:=QX (RF h.1.nodup11 (f:=nmB) (fun x hx y hy=>GR (h.2.1 x hx) (h.2.1 y hy))) (a:=0) (b:=36) (fun y hy=>by
  obtain ⟨x,hx,rfl⟩:=List.mem_map.1 hy
  exact FA (h.2.1 x hx))
 rw [List.length_map] at h1
 omega
theorem YL.foot {e:E3} (h:YL e):e.2.2.length≤23:=by
 have h1:=RT e.2.2 0 22 h.2.2.1 (fun x hx=>by
  have:=h.2.2.2 x hx
  unfold Y7 at this
  simp only [decide_eq_true_eq] at this
  omega)
 omega
theorem YL.merge {e f:E3} (h:YL e) (h':YL f) (k:ByteArray):YL (k,ZD e.2.1 f.2.1,Yh (e.2.2++f.2.2)):=
 ⟨YK _ _,fun x hx=>by
  rcases YM.1 hx with h9 | h9
  ·exact h.2.1 x h9
  ·exact h'.2.1 x h9,YN _,fun y hy=>by
  rcases List.mem_append.1 ((XE _ y).1 hy) with h9 | h9
  ·exact h.2.2.2 y h9
  exact h'.2.2.2 y h9⟩
theorem Rl {rows:List (List I3)} (hp:Zj rows=true) {m:V4} (hs:Zd m=true) (k:ByteArray):YL (k,ZA rows m,Zr m):=⟨Vu rows m,(GN hp hs).1,VY hs,look_ok hs⟩
theorem Q5 {xs:List I3} (h:Wi xs=true):∀ {j i:Nat},i<j→j<xs.length→ltB (xs.getD i (0,0,0)) (xs.getD j (0,0,0))=true
 | 0,i,hi,_=>by omega
 | j+1,i,hi,hj=>by
  have hn:=Vp h hj
  simp only [Tc,Bool.and_eq_true,Bool.or_eq_true,decide_eq_true_eq] at hn
  have hn2:ltB (xs.getD j (0,0,0)) (xs.getD (j+1) (0,0,0))=true:=by
   rcases hn.2 with h0 | h1
   ·omega
   simpa using h1
  by_cases e:i=j
  ·rw [e];exact hn2
  exact Ve (Q5 h (j:=j) (i:=i) (by omega) (by omega)) hn2
theorem Q7 {xs:List Int} (h:Wm xs=true):∀ {j i:Nat},i<j→j<xs.length→xs.getD i 0<xs.getD j 0
 | 0,i,hi,_=>by omega
 | j+1,i,hi,hj=>by
  have hn:=Vp h hj
  simp only [UI,Bool.and_eq_true,Bool.or_eq_true,decide_eq_true_eq] at hn
  have hn2:xs.getD j 0<xs.getD (j+1) 0:=by
   rcases hn.2 with h0 | h1
   ·omega
   simpa using h1
  by_cases e:i=j
  ·rw [e];exact hn2
  exact Int.lt_trans (Q7 h (j:=j) (i:=i) (by omega) (by omega)) hn2
theorem HJ {xs:List I3} (h:Wi xs=true):Ys xs:=by
 refine List.pairwise_iff_getElem.2 (fun i j hi hj hij=>?_)
 have:=Q5 h hij hj
 simpa [List.getD,List.getElem?_eq_getElem hi,List.getElem?_eq_getElem hj] using this
theorem HU {xs:List Int} (h:Wm xs=true):xs.Pairwise (· < ·):=by
 refine List.pairwise_iff_getElem.2 (fun i j hi hj hij=>?_)
 have:=Q7 h hij hj
 simpa [List.getD,List.getElem?_eq_getElem hi,List.getElem?_eq_getElem hj] using this
theorem Jv {xs:List Int} (h:Wm xs=true):∀ x ∈ xs,Y7 x=true:=by
 intro x hx
 obtain ⟨t,ht,rfl⟩:=List.getElem_of_mem hx
 have:=(TN h t ht).2
 simpa [List.getD,List.getElem?_eq_getElem ht] using this
theorem GH {e:E3} (h:ZS e=true):YL e:=by
 obtain ⟨_,h2,h3,_⟩:=X0 h
 refine ⟨?_,Q6 h2,?_,?_⟩
 ·exact HJ h2
 ·exact HU h3
 exact Jv h3
theorem Mm {rows:List (List I3)} {rec:V4→Zv→E3 × Zv × Bool}:∀ (ts:List (Int × V4)) (e:E3) (st:Zv),(∀ t ∈ ts,∀ st:Zv,(∀ x ∈ st.1,YL x)→YL (rec t.2 st).1∧∀ x ∈ (rec t.2 st).2.1.1,YL x)→(∀ x ∈ st.1,YL x)→YL e→YL (Yj rec ts e st).1∧∀ x ∈ (Yj rec ts e st).2.1.1,YL x
 | [],e,st,hr,ht,he=>⟨he,ht⟩
 | t::ts,e,st,hr,ht,he=>by
  obtain ⟨h1,h2⟩:=hr t (List.mem_cons_self ..) st ht
  unfold Yj
  split
  ·exact Mm (rows:=rows) ts _ _ (fun t' ht'=>hr t' (List.mem_cons_of_mem _ ht')) h2 (he.merge h1 _)
  exact ⟨XJ,h2⟩
theorem Ki {rows:List (List I3)} (hp:Zj rows=true):∀ (f:Nat) (m:V4) (st:Zv),Zd m=true→(∀ x ∈ st.1,YL x)→YL (ZF rows f m st).1∧∀ x ∈ (ZF rows f m st).2.1.1,YL x
 | 0,m,st,hs,ht=>by unfold ZF;exact ⟨XJ,ht⟩
 | f+1,m,st,hs,ht=>by
  obtain ⟨k1,k2⟩:=Mm (rows:=rows) (rec:=ZF rows f) (nxM rows m) (Zs m,ZA rows m,Zr m) (st.1,st.2+1) (fun t htm st' ht'=>Ki hp f t.2 st' (Wl hp hs t htm).1 ht') ht (Rl hp hs _)
  unfold ZF
  by_cases h1:isE st.1 (Zs m)=true
  ·rw [if_pos h1]
   refine ⟨?_,ht⟩
   have hi:=h1
   simp only [isE,Bool.and_eq_true,decide_eq_true_eq] at hi
   show YL (WS st.1 (Zs m))
   unfold WS
   rw [if_pos h1,Y0 hi.1]
   exact ht _ (List.getElem_mem _)
  rw [if_neg h1]
  by_cases h2:st.1.length=2000
  ·rw [if_pos h2]
   exact ⟨XJ,ht⟩
  rw [if_neg h2]
  generalize Yj (ZF rows f) (nxM rows m) (Zs m,ZA rows m,Zr m) (st.1,st.2+1)=R at *
  by_cases h3:R.2.2=true
  ·rw [if_pos h3]
   by_cases h4:R.2.1.1.length=2000
   ·rw [if_pos h4]
    exact ⟨XJ,k2⟩
   rw [if_neg h4]
   refine ⟨k1,fun x hx=>?_⟩
   rcases Vk hx with h9 | h9
   ·rw [h9];exact k1
   exact k2 x h9
  rw [if_neg h3]
  exact ⟨XJ,k2⟩


def Pk (n:Nat) (a:List I3 × List Int):Prop:=(∀ x ∈ a.1,okB x=true)∧(∀ y ∈ a.2,Y7 y=true)∧a.1.length≤1+n*39∧a.2.length≤3+n*23
theorem VO (rows:List (List I3)) (m:V4):(ZB rows m).length≤1:=by
 unfold ZB
 split<;>simp
theorem RI (rows:List (List I3)) (m:V4) (k:Int):(XO rows m k).length≤1:=by
 unfold XO
 split<;>simp
theorem Ra {rows:List (List I3)} {m:V4} (hs:Zd m=true):Pk 0 (ZB rows m,Zr m):=⟨fun x hx=>Uq (VP (rows:=rows) hx),look_ok hs,VO rows m,by simp [Zr]⟩
theorem Pk.step {rows:List (List I3)} {n:Nat} {a:List I3 × List Int} (h:Pk n a) (hp:Zj rows=true) {m:V4} (hs:Zd m=true) {t:Int × V4} (ht:t ∈ nxM rows m) {e:E3} (he:YL e):Pk (n+1) (((a.1++XO rows m t.1)++ZB rows t.2)++e.2.1,a.2++e.2.2):=by
 obtain ⟨h1,h2,h3,h4⟩:=h
 have hk:t.1 ∈ Zn rows m 3:=by
  unfold nxM at ht
  obtain ⟨k,hk,rfl⟩:=List.mem_map.1 ht
  exact hk
 refine ⟨fun x hx=>?_,fun y hy=>?_,?_,?_⟩
 ·simp only [List.mem_append] at hx
  rcases hx with ((hx | hx) | hx) | hx
  ·exact h1 x hx
  ·exact Uq (PQ hp hs (Xi hk) hx)
  ·exact Uq (VP (rows:=rows) hx)
  exact he.2.1 x hx
 ·rcases List.mem_append.1 hy with hy | hy
  ·exact h2 y hy
  exact he.2.2.2 y hy
 ·have:=he.bugs
  have:=RI rows m t.1
  have:=VO rows t.2
  simp only [List.length_append]
  omega
 have:=he.foot
 simp only [List.length_append]
 omega
theorem Pk.ent {n:Nat} {a:List I3 × List Int} (h:Pk n a) (m:V4) (st:Zv):YL (Vc m (a,st)):=by
 refine ⟨YK _ _,fun x hx=>?_,YN _,fun y hy=>h.2.1 y ((XE _ y).1 hy)⟩
 rcases YM.1 hx with h9 | h9
 ·exact h.1 x h9
 cases h9
theorem Pe {rows:List (List I3)} {m:V4} {rec:V4→Zv→E3 × Zv} (t:Int × V4):∀ (ts:List (Int × V4)) (acc:List I3 × List Int) (st:Zv),
  Xx rows m rec (ts++[t]) acc st=(((((Xx rows m rec ts acc st).1.1++XO rows m t.1)++ZB rows t.2)++(rec t.2 (Xx rows m rec ts acc st).2).1.2.1,(Xx rows m rec ts acc st).1.2++(rec t.2 (Xx rows m rec ts acc st).2).1.2.2),(rec t.2 (Xx rows m rec ts acc st).2).2)
 | [],acc,st=>rfl
 | s::ts,acc,st=>by
  show Xx rows m rec (ts++[t]) _ _=_
  rw [Pe t ts]
  rfl
theorem Qc {rows:List (List I3)} (hp:Zj rows=true) {m:V4} (hs:Zd m=true) {rec:V4→Zv→E3 × Zv}:∀ (ts:List (Int × V4)) (n:Nat) (acc:List I3 × List Int) (st:Zv),(∀ t ∈ ts,t ∈ nxM rows m)→(∀ t ∈ ts,∀ st:Zv,(∀ x ∈ st.1,YL x)→YL (rec t.2 st).1∧∀ x ∈ (rec t.2 st).2.1,YL x)→Pk n acc→(∀ x ∈ st.1,YL x) →
  Pk (n+ts.length) (Xx rows m rec ts acc st).1∧∀ x ∈ (Xx rows m rec ts acc st).2.1,YL x
 | [],n,acc,st,hn,hr,ha,ht=>⟨ha,ht⟩
 | t::ts,n,acc,st,hn,hr,ha,ht=>by
  obtain ⟨h1,h2⟩:=hr t (List.mem_cons_self ..) st ht
  have h3:=Qc hp hs ts (n+1) _ (rec t.2 st).2 (fun s h=>hn s (List.mem_cons_of_mem _ h)) (fun s h=>hr s (List.mem_cons_of_mem _ h)) (ha.step hp hs (hn t (List.mem_cons_self ..)) h1) h2
  rw [List.length_cons,show n+(ts.length+1)=n+1+ts.length by omega]
  exact h3
theorem Qb {rows:List (List I3)} (hp:Zj rows=true) {g:Nat}:∀ (f:Nat) (m:V4) (st:Zv),Zd m=true→(∀ x ∈ st.1,YL x)→YL (Z3 rows g f m st).1∧∀ x ∈ (Z3 rows g f m st).2.1,YL x
 | 0,m,st,hs,ht=>⟨XJ,ht⟩
 | f+1,m,st,hs,ht=>by
  unfold Z3
  by_cases h1:isE st.1 (Zs m)=true
  ·rw [if_pos h1]
   refine ⟨?_,ht⟩
   have hi:=h1
   simp only [isE,Bool.and_eq_true,decide_eq_true_eq] at hi
   show YL (WS st.1 (Zs m))
   unfold WS
   rw [if_pos h1,Y0 hi.1]
   exact ht _ (List.getElem_mem _)
  rw [if_neg h1]
  by_cases h2:2000<g+(st.2+1)
  ·rw [if_pos h2]
   exact ⟨XJ,ht⟩
  rw [if_neg h2]
  obtain ⟨k1,k2⟩:=Qc hp hs (rec:=Z3 rows g f) (nxM rows m) 0 (ZB rows m,Zr m) (st.1,st.2+1) (fun t h=>h) (fun t htm st' ht'=>Qb hp f t.2 st' (Wl hp hs t htm).1 ht') (Ra hs) ht
  have k3:=k1.ent m (Xx rows m (Z3 rows g f) (nxM rows m) (ZB rows m,Zr m) (st.1,st.2+1)).2
  refine ⟨k3,fun x hx=>?_⟩
  rcases Vk hx with h9 | h9
  ·rw [h9];exact k3
  exact k2 x h9
def ZV (rows:List (List I3)) (g f:Nat) (m:V4) (st:Zv) (i:Nat):(List I3 × List Int) × Zv:=Xx rows m (Z3 rows g f) ((nxM rows m).take i) (ZB rows m,Zr m) st
theorem Lr (rows:List (List I3)) (g f:Nat) (m:V4) (st:Zv):ZV rows g f m st 0=((ZB rows m,Zr m),st):=rfl
theorem Lq {rows:List (List I3)} {g f:Nat} {m:V4} {st:Zv} {i:Nat} {k:Int} (h:(Zn rows m 3)[i]?=some k):ZV rows g f m st (i+1)=(((((ZV rows g f m st i).1.1++XO rows m k)++ZB rows (goM rows m k).1)++(Z3 rows g f (goM rows m k).1 (ZV rows g f m st i).2).1.2.1,(ZV rows g f m st i).1.2++(Z3 rows g f (goM rows m k).1 (ZV rows g f m st i).2).1.2.2),(Z3 rows g f (goM rows m k).1 (ZV rows g f m st i).2).2):=by
 unfold ZV
 have h9:(nxM rows m)[i]?=some (k,(goM rows m k).1):=by unfold nxM;rw [List.getElem?_map,h];rfl
 rw [List.take_add_one,h9]
 exact Pe (k,(goM rows m k).1) _ _ _
theorem Sk {rows:List (List I3)} {g f:Nat} {m:V4} {st:Zv} {i:Nat} (h:(Zn rows m 3).length≤i):ZV rows g f m st i=Xx rows m (Z3 rows g f) (nxM rows m) (ZB rows m,Zr m) st:=by
 unfold ZV
 rw [List.take_of_length_le (by unfold nxM;rw [List.length_map];exact h)]
theorem JS {rows:List (List I3)} (hp:Zj rows=true) {m:V4} (hs:Zd m=true) {g f:Nat} {st:Zv} (ht:∀ x ∈ st.1,YL x) (i:Nat):Pk 3 (ZV rows g f m st i).1∧∀ x ∈ (ZV rows g f m st i).2.1,YL x:=by
 obtain ⟨h1,h2⟩:=Qc hp hs (rec:=Z3 rows g f) ((nxM rows m).take i) 0 (ZB rows m,Zr m) st (fun t h=>List.mem_of_mem_take h) (fun t htm st' ht'=>Qb hp f t.2 st' (Wl hp hs t (List.mem_of_mem_take htm)).1 ht') (Ra hs) ht
 have hl:=LS rows m
 have hl2:((nxM rows m).take i).length≤3:=by rw [List.length_take];omega
 exact ⟨⟨h1.1,h1.2.1,by have:=h1.2.2.1;unfold ZV;omega,by have:=h1.2.2.2;unfold ZV;omega⟩,h2⟩
theorem Pd {rows:List (List I3)} {g f:Nat} {m:V4} {st:Zv} (i:Nat) (hi:i≤3):(ZV rows g f m st i).2.2≤st.2+i*VI f:=by
 have h:=Qd (rows:=rows) (m:=m) (B:=VI f) (fun x st=>TU (rows:=rows) (g:=g) f x st) ((nxM rows m).take i) (ZB rows m,Zr m) st
 have h2:=Nat.mul_le_mul_right (VI f) (show ((nxM rows m).take i).length≤i by rw [List.length_take];omega)
 unfold ZV
 omega
theorem JR {rows:List (List I3)} {g f:Nat} {m:V4} {st:Zv} (i:Nat):st.2≤(ZV rows g f m st i).2.2:=TV (fun x st=>Qa (rows:=rows) (g:=g) f x st) _ _ _


def SlB (s:Sl) (j:Nat):Prop:=s.2.1≠0∧∃ o,s.1=some ⟨j,o,none⟩
def EnB (s:Sl2) (j:Nat):Prop:=SlB s.1 j∨SlB s.2 j
theorem Tl (w:World) (b i:Nat) (v:Value):w.grownBy (w.setCell ⟨b,i,none⟩ v) (some b):=⟨rfl,rfl,rfl,by simp [World.setCell],fun k _ hk=>Below.heap_setCell w _ v k (fun e=>hk (by rw [e]))⟩
theorem Wo {w:World} {B:Nat} {v:Value} {xs:List I3} (h:w.ownsRow B 127 3 v xs.length (Zm xs)) (hf:∀ x ∈ xs,I3.fits x):∃ a cap,v=.slice a xs.length cap∧Zl w a xs.length cap xs∧Ta a cap∧∀ j,SlB (a,xs.length,cap) j→v.ownBlock=some j:=by
 rcases h.2 with ⟨rfl,h0⟩ | ⟨g,cap,cur,hv,_⟩
 ·exact ⟨none,0,by rw [h0],⟨rfl,by omega,Nat.zero_le _,hf,.inl h0⟩,⟨fun _=>rfl,fun x hx=>by cases hx⟩,fun j hj=>absurd h0 hj.1⟩
 subst hv
 exact ⟨_,_,rfl,Zl.of_owns h rfl hf rfl,⟨fun h=>(by cases h),fun x hx=>by cases hx;rfl⟩,fun j hj=>by obtain ⟨_,o,e⟩:=hj;cases e;rfl⟩
theorem To {w:World} {B:Nat} {v:Value} {xs:List Int} (h:w.ownsRow B 3 1 v xs.length (xs.map (Value.int .i64))):∃ a cap,v=.slice a xs.length cap∧Z2 .i64 w a xs.length cap xs∧Ta a cap∧∀ j,SlB (a,xs.length,cap) j→v.ownBlock=some j:=by
 rcases h.2 with ⟨rfl,h0⟩ | ⟨g,cap,cur,hv,_⟩
 ·exact ⟨none,0,by rw [h0],⟨rfl,by omega,Nat.zero_le _,.inl h0⟩,⟨fun _=>rfl,fun x hx=>by cases hx⟩,fun j hj=>absurd h0 hj.1⟩
 subst hv
 exact ⟨_,_,rfl,QI h,⟨fun h=>(by cases h),fun x hx=>by cases hx;rfl⟩,fun j hj=>by obtain ⟨_,o,e⟩:=hj;cases e;rfl⟩
theorem Z2.same11 {k:IntKind} {w w':World} {a:Option Addr} {n c:Nat} {zs:List Int} (h:Z2 k w a n c zs) (hz:w.heap.size≤w'.heap.size) (hb:∀ j,SlB (a,n,c) j→w'.heap[j]?=w.heap[j]?):Z2 k w' a n c zs:=by
 obtain ⟨h1,h2,h3,h4⟩:=h
 refine ⟨h1,h2,h3,?_⟩
 rcases h4 with h4 | ⟨b,off,rfl,hlt,hc⟩
 ·exact .inl h4
 by_cases hn:n=0
 ·exact .inl hn
 exact .inr ⟨b,off,rfl,by omega,fun t ht=>by rw [World.cell?_of_block (w:=w) (a:=⟨b,off+t,none⟩) (hb b ⟨hn,off,rfl⟩)];exact hc t ht⟩
theorem Zl.same11 {w w':World} {a:Option Addr} {n c:Nat} {xs:List I3} (h:Zl w a n c xs) (hz:w.heap.size≤w'.heap.size) (hb:∀ j,SlB (a,n,c) j→w'.heap[j]?=w.heap[j]?):Zl w' a n c xs:=by
 obtain ⟨h1,h2,h3,hf,h4⟩:=h
 refine ⟨h1,h2,h3,hf,?_⟩
 rcases h4 with h4 | ⟨b,off,rfl,hlt,hc⟩
 ·exact .inl h4
 by_cases hn:n=0
 ·exact .inl hn
 refine .inr ⟨b,off,rfl,by omega,fun t ht=>?_⟩
 have e:=hb b ⟨hn,off,rfl⟩
 rw [World.cell?_of_block (w:=w) (a:=⟨b,off+t*3,none⟩) e,World.cell?_of_block (w:=w) (a:=⟨b,off+t*3+1,none⟩) e,World.cell?_of_block (w:=w) (a:=⟨b,off+t*3+2,none⟩) e]
 exact hc t ht
theorem Z1.same11 {w w':World} {s:Sl2} {e:E3} (h:Z1 w s e) (hz:w.heap.size≤w'.heap.size) (hb:∀ j,EnB s j→w'.heap[j]?=w.heap[j]?):Z1 w' s e:=
 ⟨h.1,h.2.1.same11 hz (fun j hj=>hb j (.inl hj)),h.2.2.1.same11 hz (fun j hj=>hb j (.inr hj)),h.2.2.2⟩
theorem Z2.blk11 {k:IntKind} {w:World} {a:Option Addr} {n c:Nat} {zs:List Int} (h:Z2 k w a n c zs) {j:Nat} (hj:SlB (a,n,c) j):j<w.heap.size∧∀ es clock,w.heap[j]?≠some (.map es clock):=by
 obtain ⟨h1,h2,h3,h4⟩:=h
 obtain ⟨hn,o,e⟩:=hj
 rcases h4 with h4 | ⟨b,off,rfl,hlt,hc⟩
 ·exact absurd h4 hn
 cases e
 refine ⟨hlt,fun es clock e9=>?_⟩
 have h9:=hc 0 (Nat.pos_of_ne_zero hn)
 simp only [World.cell?] at h9
 rw [e9] at h9
 simp at h9
theorem Zl.blk11 {w:World} {a:Option Addr} {n c:Nat} {xs:List I3} (h:Zl w a n c xs) {j:Nat} (hj:SlB (a,n,c) j):j<w.heap.size∧∀ es clock,w.heap[j]?≠some (.map es clock):=by
 obtain ⟨h1,h2,h3,hf,h4⟩:=h
 obtain ⟨hn,o,e⟩:=hj
 rcases h4 with h4 | ⟨b,off,rfl,hlt,hc⟩
 ·exact absurd h4 hn
 cases e
 refine ⟨hlt,fun es clock e9=>?_⟩
 have h9:=(hc 0 (Nat.pos_of_ne_zero hn)).1
 simp only [World.cell?] at h9
 rw [e9] at h9
 simp at h9
theorem Z1.blk11 {w:World} {s:Sl2} {e:E3} (h:Z1 w s e) {j:Nat} (hj:EnB s j):j<w.heap.size∧∀ es clock,w.heap[j]?≠some (.map es clock):=by
 rcases hj with hj | hj
 ·exact h.2.1.blk11 hj
 exact h.2.2.1.blk11 hj
theorem Z2.int11 {w:World} {a:Option Addr} {n c:Nat} {zs:List Int} (h:Z2 .i64 w a n c zs) {j:Nat} (hj:SlB (a,n,c) j):∃ o v,w.cell? ⟨j,o,none⟩=some (.int .i64 v):=by
 obtain ⟨h1,h2,h3,h4⟩:=h
 obtain ⟨hn,o,e⟩:=hj
 rcases h4 with h4 | ⟨b,off,rfl,hlt,hc⟩
 ·exact absurd h4 hn
 cases e
 exact ⟨_,_,hc 0 (Nat.pos_of_ne_zero hn)⟩
theorem Zl.int11 {w:World} {a:Option Addr} {n c:Nat} {xs:List I3} (h:Zl w a n c xs) {j:Nat} (hj:SlB (a,n,c) j):∃ o v,w.cell? ⟨j,o,none⟩=some (.int .i64 v):=by
 obtain ⟨h1,h2,h3,hf,h4⟩:=h
 obtain ⟨hn,o,e⟩:=hj
 rcases h4 with h4 | ⟨b,off,rfl,hlt,hc⟩
 ·exact absurd h4 hn
 cases e
 exact ⟨_,_,(hc 0 (Nat.pos_of_ne_zero hn)).1⟩
theorem Z1.off11 {w:World} {s:Sl2} {e:E3} (h:Z1 w s e) {j:Nat} (hj:EnB s j) {X T:Nat} {cs:List Value} (hB:Blk w X T cs) (hn:Sm cs):j≠X:=by
 rcases hj with hj | hj
 ·obtain ⟨o,v,h9⟩:=h.2.1.int11 hj
  exact Wu hB hn h9
 obtain ⟨o,v,h9⟩:=h.2.2.1.int11 hj
 exact Wu hB hn h9
structure XY (w w':World) (C nb:Nat):Prop where
 os:w'.os=w.os
 tape:w'.tape=w.tape
 output:w'.output=w.output
 size:w.heap.size≤w'.heap.size
 block:∀ j,j<w.heap.size→j≠C→j≠nb→w'.heap[j]?=w.heap[j]?
theorem XY.refl (w:World) (C nb:Nat):XY w w C nb:=⟨rfl,rfl,rfl,Nat.le_refl _,fun _ _ _ _=>rfl⟩
theorem XY.trans {a b c:World} {C nb:Nat} (h:XY a b C nb) (k:XY b c C nb):XY a c C nb:=
 ⟨k.os.trans h.os,k.tape.trans h.tape,k.output.trans h.output,Nat.le_trans h.size k.size,fun j hj h1 h2=>(k.block j (Nat.lt_of_lt_of_le hj h.size) h1 h2).trans (h.block j hj h1 h2)⟩
theorem XY.of {a b:World} {C nb:Nat} (k:Below a.heap.size a b):XY a b C nb:=⟨k.os,k.tape,k.output,k.size,fun j hj _ _=>k.block j hj⟩
theorem XY.bel {a b c:World} {C nb:Nat} (h:XY a b C nb) (k:Below b.heap.size b c):XY a c C nb:=h.trans (XY.of k)
theorem XY.gr {a b c:World} {C nb:Nat} {r:Option Nat} (h:XY a b C nb) (k:b.grownBy c r) (hr:∀ j,r=some j→j=C∨j=nb∨a.heap.size≤j):XY a c C nb:=
 ⟨k.os.trans h.os,k.tape.trans h.tape,k.output.trans h.output,Nat.le_trans h.size k.size,fun j hj h1 h2=>(k.block j (Nat.lt_of_lt_of_le hj h.size) (fun e=>by
  rcases hr j e.symm with h9 | h9 | h9
  ·exact h1 h9
  ·exact h2 h9
  omega)).trans (h.block j hj h1 h2)⟩
theorem XY.blk {w w':World} {C nb g t:Nat} {cs:List Value} (k:XY w w' C nb) (p:Blk w g t cs) (hC:g≠C) (hn:g≠nb):Blk w' g t cs:=(k.block g p.lt hC hn).trans p
theorem XY.row {w w':World} {C nb B e s n:Nat} {v:Value} {xs:List Value} (k:XY w w' C nb) (ho:w.ownsRow B e s v n xs) (hC:v.ownBlock≠some C) (hn:v.ownBlock≠some nb):w'.ownsRow B e s v n xs:=by
 have hlt:=fun g hg=>(YO ho (g:=g) hg).2
 refine ⟨ho.1,?_⟩
 rcases ho.2 with hn9 | ⟨g,cap,cur,rfl,hb9,hgg,rest⟩
 ·exact .inl hn9
 exact .inr ⟨g,cap,cur,rfl,hb9,(k.block g (hlt g rfl) (fun e=>hC (by rw [← e];rfl)) (fun e=>hn (by rw [← e];rfl))).trans hgg,rest⟩
def LA (C:Nat) (s:Sl2):Prop:=Ta s.1.1 s.1.2.2∧∀ j,EnB s j→j≠C
structure OnC (w0 w:World) (C nb g n:Nat) (L:List EQ) (nd:Nat):Prop where
 base:Below w0.heap.size w0 w
 box:Blk w C 132 [.map (some nb),.int .i64 (g:Int),.int .i64 (nd:Int)]
 map:∃ D:DataW Value,w.ownsMap Tryz.prog 9 VH nb n D∧UD D L
 ents:∀ x ∈ L,Z1 w x.2 x.1∧LA C x.2
 hC:w0.heap.size≤C
 hn:w0.heap.size≤nb
theorem Jf {w:World} {nb n:Nat} {D:DataW Value} (h:w.ownsMap Tryz.prog 9 VH nb n D):∃ es clock,w.heap[nb]?=some (.map es clock):=by
 obtain ⟨es,clock,hb,_⟩:=h
 exact ⟨es,clock,hb⟩
theorem OnC.any {w0 w:World} {C nb g n nd:Nat} {L:List EQ} (h:OnC w0 w C nb g n L nd):∃ es clock,w.heap[nb]?=some (.map es clock):=by
 obtain ⟨D,hm,_⟩:=h.map
 exact Jf hm
theorem OnC.noblk {w0 w:World} {C nb g n nd:Nat} {L:List EQ} (h:OnC w0 w C nb g n L nd) {q t:Nat} {cs:List Value} (hB:Blk w q t cs):q≠nb:=fun e=>by
 obtain ⟨es,clock,hb⟩:=h.any
 subst e
 unfold Blk at hB
 rw [hB] at hb
 cases hb
theorem OnC.norow {w0 w:World} {C nb g n nd:Nat} {L:List EQ} (h:OnC w0 w C nb g n L nd) {B e s k:Nat} {v:Value} {xs:List Value} (ho:w.ownsRow B e s v k xs):v.ownBlock≠some nb:=fun e9=>by
 obtain ⟨es,clock,hb⟩:=h.any
 rcases ho.2 with ⟨rfl,_⟩ | ⟨g9,cap,cur,rfl,_,hgg,_⟩
 ·cases e9
 cases e9
 rw [hgg] at hb
 cases hb
theorem OnC.ne {w0 w:World} {C nb g n nd:Nat} {L:List EQ} (h:OnC w0 w C nb g n L nd):C≠nb:=h.noblk h.box
theorem OnC.below {w0 w w':World} {C nb g n nd:Nat} {L:List EQ} (h:OnC w0 w C nb g n L nd) (hb:Below w.heap.size w w'):OnC w0 w' C nb g n L nd:=by
 obtain ⟨D,hm,hG⟩:=h.map
 exact ⟨Zb h.base hb,h.box.below hb,⟨D,hm.kept (row:=none) ⟨hb.os,hb.tape,hb.output,hb.size,fun k hk _=>hb.block k hk⟩ (by simp),hG⟩,fun x hx=>⟨(h.ents x hx).1.below hb,(h.ents x hx).2⟩,h.hC,h.hn⟩
theorem OnC.grow {w0 w w':World} {C nb g n nd:Nat} {L:List EQ} (h:OnC w0 w C nb g n L nd) {r:Option Nat} (hg:w.grownBy w' r) (hC:r≠some C) (hn:r≠some nb) (h0:∀ j,r=some j→w0.heap.size≤j) (hE:∀ x ∈ L,∀ j,EnB x.2 j→r≠some j):OnC w0 w' C nb g n L nd:=by
 obtain ⟨D,hm,hG⟩:=h.map
 exact ⟨h.base.grown hg h.base.size h0,h.box.kept hg hC,⟨D,hm.kept hg (fun e=>hn e.symm),hG⟩,fun x hx=>⟨(h.ents x hx).1.same11 hg.size (fun j hj=>hg.block j ((h.ents x hx).1.blk11 hj).1 (fun e=>hE x hx j hj e.symm)),(h.ents x hx).2⟩,h.hC,h.hn⟩
theorem OnC.node {w0 w:World} {C nb g n nd:Nat} {L:List EQ} (h:OnC w0 w C nb g n L nd) (nd':Nat):OnC w0 (w.setCell ⟨C,2,none⟩ (.int .i64 (nd':Int))) C nb g n L nd':=by
 obtain ⟨D,hm,hG⟩:=h.map
 have hg:=Tl w C 2 (.int .i64 (nd':Int))
 refine ⟨h.base.grown hg h.base.size (fun j e=>by cases e;exact h.hC),?_,⟨D,hm.kept hg (fun e=>h.ne (by cases e;rfl)),hG⟩,fun x hx=>⟨(h.ents x hx).1.same11 hg.size (fun j hj=>hg.block j ((h.ents x hx).1.blk11 hj).1 (fun e=>(h.ents x hx).2.2 j hj (by cases e;rfl))),(h.ents x hx).2⟩,h.hC,h.hn⟩
 have:=h.box.set 2 (.int .i64 (nd':Int))
 simpa using this
theorem KV (w:World) (C nb:Nat) (v:Value):XY w (w.setCell ⟨C,2,none⟩ v) C nb:=(XY.refl w C nb).gr (Tl w C 2 v) (fun j e=>by cases e;exact .inl rfl)
theorem OnC.nbkeep {w0 w w':World} {C nb g n nd:Nat} {L:List EQ} (h:OnC w0 w C nb g n L nd) (hg:w.grownBy w' (some nb)) {s:Sl2} {e:E3} (hE:Z1 w s e):Z1 w' s e:=
 hE.same11 hg.size (fun j hj=>by
  obtain ⟨h1,h2⟩:=hE.blk11 hj
  obtain ⟨es,clock,hb⟩:=h.any
  exact hg.block j h1 (fun e9=>h2 es clock (by cases e9;exact hb)))
theorem OnC.put {w0 w w':World} {C nb g n nd:Nat} {L:List EQ} (h:OnC w0 w C nb g n L nd) {e:E3} {s:Sl2} (hE:Z1 w s e) (hO:LA C s) {D:DataW Value} (hP:Fq w' nb (n+1) D (VG L e s)) (hg:w.grownBy w' (some nb)):OnC w0 w' C nb g (n+1) (VG L e s) nd:=by
 obtain ⟨D',hm,hG⟩:=hP
 refine ⟨h.base.grown hg h.base.size (fun j e9=>by cases e9;exact h.hn),h.box.kept hg (fun e9=>h.ne (by cases e9;rfl)),⟨D',hm,hG⟩,fun x hx=>?_,h.hC,h.hn⟩
 rcases RQ hx with h9 | h9
 ·exact ⟨h.nbkeep hg (h.ents x h9).1,(h.ents x h9).2⟩
 rw [h9]
 exact ⟨h.nbkeep hg hE,hO⟩
def Mv (x:Ending) (w0 w w':World) (C nb g n:Nat) (L:List EQ) (nd:Nat) (R:E3 × Zv):Prop:=
 ∃ (s:Sl2) (L':List EQ) (n':Nat),x=.returned (ZR R.1.1 s)∧Z1 w' s R.1∧LA C s∧(∀ j,EnB s j→w.heap.size≤j∨∃ x ∈ L,EnB x.2 j)∧OnC w0 w' C nb g n' L' R.2.2∧L'.map (·.1)=R.2.1∧n'+nd≤n+R.2.2∧(∀ x ∈ L',x ∈ L∨∀ j,EnB x.2 j→w.heap.size≤j)∧XY w w' C nb

open Go.RowKit Go.Shelf

theorem ME (g:Nat) (a0:Option Addr) (n0 c0:Nat) (xs:List I3) (a1:Option Addr) (n1 c1:Nat) (ys:List I3) (a2:Option Addr) (n2 c2:Nat) (zs:List I3) (w:World) (h0:Zl w a0 n0 c0 xs) (h1:Zl w a1 n1 c1 ys) (h2:Zl w a2 n2 c2 zs) (m0:n0≤300000) (m1:n1≤300000) (m2:n2≤300000)
  (g0:Ta a0 c0) (g1:Ta a1 c1) (g2:Ta a2 c2) (d0:w.cell? ⟨g,0,none⟩=some (.slice a0 n0 c0)) (d1:w.cell? ⟨g,1,none⟩=some (.slice a1 n1 c1)) (d2:w.cell? ⟨g,2,none⟩=some (.slice a2 n2 c2)) :
  Calls Tryz.prog 178 #[.slice (some ⟨g,0,none⟩) 3 3] w fun e w'=>(∃ v,e=.returned v∧(∃ a n c,v=.slice a n c)∧w'.ownsRow w.heap.size 127 3 v (n0+n1+n2) (Zm (xs++ys++zs)))∧Below w.heap.size w w':=by
 obtain ⟨i0,hi,hz0,hz1,hz2⟩:=info_parts Wc
 have l0:=h0.1
 have l1:=h1.1
 have l2:=h2.1
 have n0o:a0=none→n0=0∧c0=0:=fun e=>⟨by have:=h0.2.1;have:=g0.1 e;omega,g0.1 e⟩
 have n1o:a1=none→n1=0∧c1=0:=fun e=>⟨by have:=h1.2.1;have:=g1.1 e;omega,g1.1 e⟩
 have n2o:a2=none→n2=0∧c2=0:=fun e=>⟨by have:=h2.2.1;have:=g2.1 e;omega,g2.1 e⟩
 have H1:Hid (∀ W,Below w.heap.size w W→Zl W a1 n1 c1 ys):=fun W hb=>h1.below hb
 have H2:Hid (∀ W,Below w.heap.size w W→Zl W a2 n2 c2 zs):=fun W hb=>h2.below hb
 have hgw:g<w.heap.size:=World.block_lt_of_cell? _ _ d0
 have kG:Hid (∀ (z:Int) (W:World),z=(n0:Int)+(n1:Int)+(n2:Int)→Calls Tryz.prog 214 #[.slice none 0 0,.int .i64 z] W fun e w'=>(∃ v,e=.returned v∧(∃ a c,v=.slice a 0 c)∧w'.ownsRow W.heap.size 127 3 v 0 [])∧Below W.heap.size W w'):=by
  intro z W hz
  obtain rfl:z=((n0+n1+n2:Nat):Int):=by omega
  exact Nq (n0+n1+n2) W (by omega)
 clear g0 g1 g2
 have HF:Hid (∀ (v:Value) (W:World),W.ownsRow w.heap.size 127 3 v (n0+n1+n2) (Zm xs++(Zm ys++Zm zs))→W.ownsRow w.heap.size 127 3 v (n0+n1+n2) (Zm (xs++ys++zs))):=by
  intro v W q
  rw [Z9,Z9,List.append_assoc]
  exact q
 go_enter Tryz.func178,Tryz.ntmps178
 go_wp2_with fail
 refine wp_loop_rounds 4 ?_
 rw [rounds_succ]
 go_wp2
 rw [rounds_succ]
 go_wp2
 rw [rounds_succ]
 go_wp2
 rw [rounds_succ]
 go_wp2_with fail
 refine (kG.out _ _ (by first | rfl | omega)).mono ?_
 rintro e w1 ⟨⟨v,rfl,⟨aG,cG,rfl⟩,q1⟩,bw⟩
 clear kG
 replace h0:=h0.below bw
 replace h1:=h1.below bw
 replace h2:=h2.below bw
 replace d0:=Za bw _ _ d0
 replace d1:=Za bw _ _ d1
 replace d2:=Za bw _ _ d2
 have hsz:=bw.size
 go_wp2_with fail
 refine wp_loop_rounds 4 ?_
 rw [rounds_succ]
 go_wp2_with (at_builtin;refine Up rfl _ _ 28 rfl w.heap.size 127 i0 (.agg #[.int .i64 0,.int .i64 0,.int .i64 0]) 3 24 Tryz.underlying28 hi hz0 hz1 hz2 rfl (by decide) (.slice aG 0 cG) _ _ rfl q1 a0 n0 c0 rfl n0o (Zm xs) (by rw [Zo];omega) (fun ad e=>by subst e;exact MX h0) (Z0 _) (by unfold maxLen;omega) (by omega) hsz ?_)
 intro v2 U2 q2 gr _
 replace d1:=Ze gr d1 (fun e=>by have h9:=(q1.lt _ e.symm).1;have h8:=hgw;simp at h9;omega)
 replace d2:=Ze gr d2 (fun e=>by have h9:=(q1.lt _ e.symm).1;have h8:=hgw;simp at h9;omega)
 replace bw:=bw.grown gr hsz (fun j hj=>(q1.lt j hj).1)
 replace h1:=H1.out _ bw
 replace h2:=H2.out _ bw
 replace hsz:=Nat.le_trans hsz gr.size
 clear gr
 go_wp2_with fail
 rw [rounds_succ]
 go_wp2_with (at_builtin;refine Up rfl _ _ 28 rfl w.heap.size 127 i0 (.agg #[.int .i64 0,.int .i64 0,.int .i64 0]) 3 24 Tryz.underlying28 hi hz0 hz1 hz2 rfl (by decide) v2 _ _ rfl q2 a1 n1 c1 rfl n1o (Zm ys) (by rw [Zo];omega) (fun ad e=>by subst e;exact MX h1) (Z0 _) (by unfold maxLen;omega) (by omega) hsz ?_)
 intro v3 U3 q3 gr _
 replace d2:=Ze gr d2 (fun e=>by have h9:=(q2.lt _ e.symm).1;have h8:=hgw;simp at h9;omega)
 replace bw:=bw.grown gr hsz (fun j hj=>(q2.lt j hj).1)
 replace h2:=H2.out _ bw
 replace hsz:=Nat.le_trans hsz gr.size
 clear gr
 go_wp2_with fail
 rw [rounds_succ]
 go_wp2_with (at_builtin;refine Up rfl _ _ 28 rfl w.heap.size 127 i0 (.agg #[.int .i64 0,.int .i64 0,.int .i64 0]) 3 24 Tryz.underlying28 hi hz0 hz1 hz2 rfl (by decide) v3 _ _ rfl q3 a2 n2 c2 rfl n2o (Zm zs) (by rw [Zo];omega) (fun ad e=>by subst e;exact MX h2) (Z0 _) (by unfold maxLen;omega) (by omega) hsz ?_)
 intro v4 U4 q4 gr _
 replace bw:=bw.grown gr hsz (fun j hj=>(q3.lt j hj).1)
 replace hsz:=Nat.le_trans hsz gr.size
 clear gr
 go_wp2_with fail
 rw [rounds_succ]
 have HQ:Hid (∀ e:Ending,e=Ending.returned v4→∃ v,e=Ending.returned v∧(∃ a n c,v=Value.slice a n c)∧U4.ownsRow w.heap.size 127 3 v (n0+n1+n2) (Zm (xs++ys++zs))):=fun e he=>⟨_,he,RJ q4,HF.out _ _ q4⟩
 clear q4 q3 q2 h0 h1 h2 d0 d1 d2
 go_wp2
 go_ret
 exact ⟨HQ.out _ rfl,bw⟩
end Go.Proofs.YtnffeclgboomoaaGreatDoor
