/-
  Joined: MgiI, FftP, FulC, StrP, Ent0.
-/
import Derived.Laws.Strings
import Derived.Test.YtgmhhegckcionaaGreatDoorF27
import Derived.Test.YtgmhhegckcionaaGreatDoorF28

namespace Go.Proofs.YtgmhhegckcionaaGreatDoor
set_option maxRecDepth 100000
set_option maxHeartbeats 16000000
open Go.RowKit
set_option linter.unusedVariables false
set_option linter.unusedSimpArgs false

def Vu (xs:List Int):Bool:=xs.all Wj
def wfs (xs:List Int):Prop:=∀ x ∈ xs,(Lit.int .i64 x).wf=true
theorem LY {xs:List Int} {k:Nat} (h:k<xs.length):Vu (xs.drop k)=(Wj (xs.getD k 0) && Vu (xs.drop (k+1))):=by
 unfold Vu
 rw [List.drop_eq_getElem_cons h,List.all_cons]
 simp [List.getD,List.getElem?_eq_getElem h]
theorem Mb {x:Int} (h:Wj x=true):(Lit.int .i64 x).wf=true:=by
 simp only [Wj,decide_eq_true_eq] at h
 exact Cy (by omega) (by omega)
theorem PV {xs acc:List Int} {k:Nat} (h:k<xs.length):(xs.take (k+1)).foldl Yt acc=Yt ((xs.take k).foldl Yt acc) (xs.getD k 0):=by
 rw [Pb h,List.foldl_append]
 rfl
theorem M4 (a:Option Addr) (n cap:Nat) (xs:List Int) (a':Option Addr) (n' cap':Nat) (ys:List Int) (w:World) (h:Yn .i64 w a n cap xs) (h':Yn .i64 w a' n' cap' ys) (hn:n≤100000) (hn':n'≤100000) :
  Calls Tryz.prog 122 #[.slice a n cap,.slice a' n' cap'] w fun e w'=>S9 e w' w.heap.size (Yx (xs++ys))∧Below w.heap.size w w':=by
 have hl:=h.1
 have hl':=h'.1
 have q0:=XZ w 3 1 w.heap.size (Nat.le_refl _)
 have b0:Below w.heap.size w (w.alloc (.cells #[] 3)):=by go_grown
 obtain ⟨R,hR⟩:∃ R:World→Value→List Int→Prop,∀ W v zs,R W v zs↔(∃ g c,v=.slice (some ⟨g,0,none⟩) zs.length c∧W.ownsRow w.heap.size 3 1 v zs.length (zs.map (Value.int .i64)))∧Below w.heap.size w W:=⟨fun W v zs=>(∃ g c,v=.slice (some ⟨g,0,none⟩) zs.length c∧W.ownsRow w.heap.size 3 1 v zs.length (zs.map (Value.int .i64)))∧Below w.heap.size w W,fun _ _ _=>Iff.rfl⟩
 have hR0:R (w.alloc (.cells #[] 3)) (.slice (some ⟨w.heap.size,0,none⟩) 0 0) []:=(hR _ _ _).2 ⟨⟨_,_,rfl,q0⟩,b0⟩
 have hlx:∀ k,((xs.take k).foldl Yt []).length≤100000:=fun k=>by
  have:=Wr (xs.take k) []
  simp at this
  omega
 have hly:∀ k,((ys.take k).foldl Yt (Yx xs)).length≤200000:=fun k=>by
  have h1:=Wr (ys.take k) (Yx xs)
  have h2:=FN xs
  simp at h1
  omega
 clear q0 b0
 go_enter Tryz.func122,Tryz.ntmps122
 go_wp2_with fail
 go_loopw [5,6] (fun so si wr=>∃ k:Nat,k≤n∧si=.int .i64 k∧R wr so ((xs.take k).foldl Yt [])) (fun _ si _=>n - (Go.RowKit.intOf si).toNat)
 case atStart=>exact ⟨0,by omega,rfl,hR0⟩
 case round =>
  obtain ⟨k,hk,rfl,hr⟩:=hrel
  obtain ⟨⟨g,c,hv,q⟩,hb⟩:=(hR _ _ _).1 hr
  subst hv
  by_cases hlt:k<n
  ·have hfo:=PV (xs:=xs) (acc:=[]) (k:=k) (by omega)
   obtain ⟨_,_,_,hcase⟩:=h.below hb
   rcases hcase with e0 | ⟨b,off,rfl,hb9,hc⟩
   ·omega
   have d0:=hc k hlt
   have hlz:=hlx k
   generalize xs.getD k 0=x at d0 hfo
   generalize hzs:(xs.take k).foldl Yt []=zs at *
   have kP:=P5 g 0 zs.length c zs x wr (MU q) (by omega)
   have HFo:Hid ((xs.take (k+1)).foldl Yt []=Yt zs x):=hfo
   clear hfo hc hb9 hzs
   have hlt':(k:Int)<(n:Int):=by omega
   have hk0:(0:Int)≤(k:Int):=by omega
   have hs9:=hb.size
   go_wp2_with fail
   refine kP.mono ?_
   rintro e w1 ⟨⟨v1,rfl,q1⟩,hb1⟩
   obtain ⟨g1,c1,rfl⟩:=RR q1 (by
    have hm:=(Uk zs x x).2 (.inl rfl)
    exact List.length_pos_of_mem hm)
   have hr1:R w1 (.slice (some ⟨g1,0,none⟩) (Yt zs x).length c1) ((xs.take (k+1)).foldl Yt []):=by
    rw [HFo.out]
    exact (hR _ _ _).2 ⟨⟨_,_,rfl,Yz q1 hs9⟩,Zo hb hb1⟩
   clear q1 hb1 kP
   go_wp2
   go_roundw
   case rel=>exact ⟨k+1,by omega,by go_num,hr1⟩
   case measure=>simp [Go.RowKit.intOf];omega
  obtain rfl:k=n:=by omega
  have e9:(xs.take k).foldl Yt []=Yx xs:=by rw [List.take_of_length_le (by omega)];rfl
  rw [e9] at hr q
  clear e9 hlt hR0
  rw [show ((xs.take k).foldl Yt []).length=(Yx xs).length by rw [List.take_of_length_le (by omega)];rfl] at *
  go_wp2_with fail
  go_loopw [5,7] (fun so si wr=>∃ k:Nat,k≤n'∧si=.int .i64 k∧R wr so ((ys.take k).foldl Yt (Yx xs))) (fun _ si _=>n' - (Go.RowKit.intOf si).toNat)
  case atStart=>exact ⟨0,by omega,rfl,hr⟩
  case round =>
   clear hr q hb
   obtain ⟨j,hj,rfl,hr⟩:=hrel
   obtain ⟨⟨g2,c2,hv,q⟩,hb⟩:=(hR _ _ _).1 hr
   subst hv
   by_cases hlt:j<n'
   ·have hfo:=PV (xs:=ys) (acc:=Yx xs) (k:=j) (by omega)
    obtain ⟨_,_,_,hcase⟩:=h'.below hb
    rcases hcase with e0 | ⟨b,off,rfl,hb9,hc⟩
    ·omega
    have d0:=hc j hlt
    have hlz:=hly j
    generalize ys.getD j 0=x at d0 hfo
    generalize hzs:(ys.take j).foldl Yt (Yx xs)=zs at *
    have kP:=P5 g2 0 zs.length c2 zs x wr (MU q) (by omega)
    have HFo:Hid ((ys.take (j+1)).foldl Yt (Yx xs)=Yt zs x):=hfo
    clear hfo hc hb9 hzs
    have hlt':(j:Int)<(n':Int):=by omega
    have hk0:(0:Int)≤(j:Int):=by omega
    have hs9:=hb.size
    go_wp2_with fail
    refine kP.mono ?_
    rintro e w1 ⟨⟨v1,rfl,q1⟩,hb1⟩
    obtain ⟨g1,c1,rfl⟩:=RR q1 (by
     have hm:=(Uk zs x x).2 (.inl rfl)
     exact List.length_pos_of_mem hm)
    have hr1:R w1 (.slice (some ⟨g1,0,none⟩) (Yt zs x).length c1) ((ys.take (j+1)).foldl Yt (Yx xs)):=by
     rw [HFo.out]
     exact (hR _ _ _).2 ⟨⟨_,_,rfl,Yz q1 hs9⟩,Zo hb hb1⟩
    clear q1 hb1 kP
    go_wp2
    go_roundw
    case rel=>exact ⟨j+1,by omega,by go_num,hr1⟩
    case measure=>simp [Go.RowKit.intOf];omega
   obtain rfl:j=n':=by omega
   have HE:Hid ((ys.take j).foldl Yt (Yx xs)=Yx (xs++ys)):=by
    rw [Hid,List.take_of_length_le (by omega)]
    unfold Yx
    rw [List.foldl_append]
   clear hr
   generalize (ys.take j).foldl Yt (Yx xs)=zs at *
   go_wp2
   go_ret
   exact ⟨⟨_,rfl,by rw [← HE.out];exact q⟩,hb⟩


theorem Vq (rows:List (List I3)) (f:Nat) (m:V4):m ∈ ZT rows f m:=by cases f<;>simp [ZT]
theorem Wh {rows:List (List I3)} (hp:Zf rows=true):∀ (f:Nat) (m:V4),Zc m=true→ZR rows m≤f→∀ x ∈ ZT rows f m,∀ t ∈ nxM rows x,t.2 ∈ ZT rows f m
 | 0,m,hs,hl,x,hx,t,ht=>by
  have e:x=m:=by simpa [ZT] using hx
  subst e
  unfold nxM at ht
  rw [JS hp hs (by omega)] at ht
  simp at ht
 | f+1,m,hs,hl,x,hx,t,ht=>by
  have hx2:x=m∨x ∈ (nxM rows m).flatMap fun t=>ZT rows f t.2:=by simpa [ZT] using hx
  show t.2 ∈ m::(nxM rows m).flatMap fun t=>ZT rows f t.2
  rcases hx2 with rfl | hx2
  ·exact List.mem_cons_of_mem _ (List.mem_flatMap.2 ⟨t,ht,Vq rows f t.2⟩)
  obtain ⟨u,hu,hxu⟩:=List.mem_flatMap.1 hx2
  obtain ⟨h1,h2⟩:=R8 hu
  have hsu:=Ni hp hs hu
  have hlu:=TH hp hs h1
  rw [← h2] at hlu
  exact List.mem_cons_of_mem _ (List.mem_flatMap.2 ⟨u,hu,Wh hp f u.2 hsu (by omega) x hxu t ht⟩)
theorem LA {rows:List (List I3)} (h:Vs rows) {m:V4} (hs:Zc m=true):(YJ rows m).length≤1749:=by
 obtain ⟨hp,h0,h1,h2⟩:=h
 have hz:∀ k,YB rows m k≤(Yg rows k).length:=fun k=>by unfold YB;omega
 have hl:=Rw hp 8 m hs
 have hm:=XG 8 _ _ _ 3 3 2 (Nat.le_trans (hz 0) h0) (Nat.le_trans (hz 1) h1) (Nat.le_trans (hz 2) h2)
 rw [Nv] at hm
 have hn:=Th ((YJ rows m).map (·.1)) (ZT rows 8 m) (ML rows m) (fun x hx=>by
  obtain ⟨r,hr,rfl⟩:=List.mem_map.1 hx
  have a:=hz 0
  have b:=hz 1
  have c:=hz 2
  exact PX (fun x=>x ∈ ZT rows 8 m) (Vq rows 8 m) (Wh hp 8 m hs (by unfold ZR;omega)) r hr)
 rw [List.length_map] at hn
 omega
theorem Q4:∀ (xs:List Int) (a b:Int),xs.Pairwise (· < ·)→(∀ x ∈ xs,a≤x∧x≤b)→(xs.length:Int)≤max (b - a+1) 0
 | [],a,b,_,_=>by simp;omega
 | x::xs,a,b,h,hb=>by
  obtain ⟨h1,h2⟩:=List.pairwise_cons.1 h
  have hx:=hb x (by simp)
  have ih:=Q4 xs (x+1) b h2 (fun y hy=>⟨by have:=h1 y hy;omega,(hb y (by simp [hy])).2⟩)
  simp only [List.length_cons,Int.natCast_add,Int.natCast_one]
  omega


def XL (rows:List (List I3)) (m:V4):List I3:=if YS rows m then [(14,0,0)] else (Zm rows m 3).flatMap (Xg rows m)
def ZB (rows:List (List I3)) (m:V4):List I3:=(Zm rows m 3).foldl (fun out k=>ZK out (Xx rows m k)) (ZC rows m)
theorem Ld {f:Int→List I3} {x:I3}:∀ (ks:List Int) (out:List I3),x ∈ ks.foldl (fun out k=>ZK out (f k)) out↔x ∈ out∨∃ k ∈ ks,x ∈ f k
 | [],out=>by simp
 | k::ks,out=>by
  rw [List.foldl_cons,Ld ks,YF]
  simp only [List.mem_cons,exists_eq_or_imp,or_assoc]
theorem WC {rows:List (List I3)} {m:V4} {x:I3}:x ∈ ZB rows m↔x ∈ ZC rows m∨∃ k ∈ Zm rows m 3,x ∈ Xx rows m k:=Ld _ _
theorem X1 {rows:List (List I3)} {m:V4} {k:Int} {x:I3}:x ∈ Xx rows m k↔x ∈ Xg rows m k∨x ∈ ZC rows (goM rows m k).1:=by
 unfold Xx ZC
 split
 ·rw [WS]
  simp
 simp
theorem TI {rows:List (List I3)} {m:V4} {x:I3}:x ∈ XL rows m↔x ∈ ZC rows m∨∃ k ∈ Zm rows m 3,x ∈ Xg rows m k:=by
 unfold XL ZC
 by_cases hs:YS rows m=true
 ·rw [if_pos hs,if_pos hs]
  have he:Zm rows m 3=[]:=by
   unfold YS at hs
   simp at hs
   exact hs.1
  rw [he]
  simp
 rw [if_neg hs,if_neg hs]
 simp
def UU (rows:List (List I3)) (S:List (Zz V4)):List I3:=ZK (S.flatMap fun r=>XL rows r.1) []
def DC (rows:List (List I3)) (S:List (Zz V4)):List I3:=S.foldl (fun out r=>ZK out (ZB rows r.1)) []
theorem Rk {f:Zz V4→List I3} {x:I3}:∀ (S:List (Zz V4)) (out:List I3),x ∈ S.foldl (fun out r=>ZK out (f r)) out↔x ∈ out∨∃ r ∈ S,x ∈ f r
 | [],out=>by simp
 | r::S,out=>by
  rw [List.foldl_cons,Rk S,YF]
  simp only [List.mem_cons,exists_eq_or_imp,or_assoc]
theorem To {f:Zz V4→List I3}:∀ (S:List (Zz V4)) (out:List I3),YD out→YD (S.foldl (fun out r=>ZK out (f r)) out)
 | [],out,h=>h
 | r::S,out,h=>To S _ (Yw _ _)
theorem FM {rows:List (List I3)} {S:List (Zz V4)} {x:I3}:x ∈ UU rows S↔∃ r ∈ S,x ∈ XL rows r.1:=by
 unfold UU
 rw [YF]
 simp
theorem Fb {rows:List (List I3)} (h:(ZL rows).length≤2000):DC rows (ZL rows)=UU rows (ZL rows):=by
 refine (To _ _ List.Pairwise.nil).same (Yw _ _) (fun x=>?_)
 show x ∈ DC rows (ZL rows)↔x ∈ UU rows (ZL rows)
 rw [FM]
 unfold DC
 rw [Rk]
 constructor
 ·rintro (hx | ⟨r,hr,hx⟩)
  ·simp at hx
  rcases WC.1 hx with hx | ⟨k,hk,hx⟩
  ·exact ⟨r,hr,TI.2 (.inl hx)⟩
  rcases X1.1 hx with hx | hx
  ·exact ⟨r,hr,TI.2 (.inr ⟨k,hk,hx⟩)⟩
  have hc:=Us h r hr (k,(goM rows r.1 k).1) (List.mem_map.2 ⟨k,hk,rfl⟩)
  obtain ⟨q,hq,e⟩:=List.mem_map.1 hc
  refine ⟨q,hq,TI.2 (.inl ?_)⟩
  have e':q.1=(goM rows r.1 k).1:=e
  rw [e']
  exact hx
 rintro ⟨r,hr,hx⟩
 refine .inr ⟨r,hr,WC.2 ?_⟩
 rcases TI.1 hx with hx | ⟨k,hk,hx⟩
 ·exact .inl hx
 exact .inr ⟨k,hk,X1.2 (.inl hx)⟩

open Go.Op

def ltS (a b:ByteArray):Bool:=bytesLess a.toList b.toList
theorem PE:∀ l:List UInt8,bytesLess l l=false
 | []=>rfl
 | a::l=>by
  have:=PE l
  simp [bytesLess,this]
theorem Sj {x y:UInt8} {a b:List UInt8}:bytesLess (x::a) (y::b)=true↔x<y∨(x=y∧bytesLess a b=true):=by
 simp [bytesLess]
theorem Mv:∀ {a b c:List UInt8},bytesLess a b=true→bytesLess b c=true→bytesLess a c=true
 | _,[],_,h,_=>by simp [bytesLess] at h
 | _,_::_,[],_,k=>by simp [bytesLess] at k
 | [],_::_,_::_,_,_=>by simp [bytesLess]
 | x::a,y::b,z::c,h,k=>by
  rw [Sj] at h k ⊢
  rcases h with h | ⟨rfl,h⟩
  ·rcases k with k | ⟨rfl,k⟩
   ·exact .inl (UInt8.lt_trans h k)
   exact .inl h
  rcases k with k | ⟨rfl,k⟩
  ·exact .inl k
  exact .inr ⟨rfl,Mv h k⟩
theorem Mu:∀ {a b:List UInt8},bytesLess a b=false→bytesLess b a=false→a=b
 | [],[],_,_=>rfl
 | [],_::_,h,_=>by simp [bytesLess] at h
 | _::_,[],_,k=>by simp [bytesLess] at k
 | x::a,y::b,h,k=>by
  have h1:¬ (x<y∨(x=y∧bytesLess a b=true)):=fun e=>by rw [Sj.2 e] at h;cases h
  have k1:¬ (y<x∨(y=x∧bytesLess b a=true)):=fun e=>by rw [Sj.2 e] at k;cases k
  have hxy:x=y:=UInt8.le_antisymm (UInt8.not_lt.1 fun e=>k1 (.inl e)) (UInt8.not_lt.1 fun e=>h1 (.inl e))
  subst hxy
  have h2:bytesLess a b=false:=by cases e:bytesLess a b<;>simp_all
  have k2:bytesLess b a=false:=by cases e:bytesLess b a<;>simp_all
  rw [Mu h2 k2]
theorem VD (a:ByteArray):ltS a a=false:=PE _
theorem WA {a b c:ByteArray} (h:ltS a b=true) (k:ltS b c=true):ltS a c=true:=Mv h k
theorem Tu {a b:ByteArray} (h:a.toList=b.toList):a=b:=by
 have h1:a.data.toList=b.data.toList:=by
  rw [← Go.ByteArray.toList_eq a,← Go.ByteArray.toList_eq b]
  exact h
 cases a
 cases b
 simp at h1
 rw [h1]
theorem P9 {a b:ByteArray} (h:ltS a b=false) (k:ltS b a=false):a=b:=Tu (Mu h k)

open Go.RowKit Go.ChangeShapes Go.WideShapes Go.Joins

abbrev E3:=ByteArray × List I3 × List Int
abbrev Sl2:=Sl × Sl
def ZW (k:ByteArray) (s:Sl2):Value:=.agg #[.string k,.slice s.1.1 s.1.2.1 s.1.2.2,.slice s.2.1 s.2.2.1 s.2.2.2]
def YI (k:ByteArray) (s:Sl2):List Value:=[.string k,.slice s.1.1 s.1.2.1 s.1.2.2,.slice s.2.1 s.2.2.1 s.2.2.2]
def Bo (s:Sl2):Prop:=(s.1.1=none→s.1.2.2=0)∧(s.2.1=none→s.2.2.2=0)
def YK (w:World) (s:Sl2) (e:E3):Prop:=(e.1.size≤maxLen∧Bo s)∧Zr w s.1.1 s.1.2.1 s.1.2.2 e.2.1∧UT w s.2 e.2.2
theorem YK.below {w w':World} {s:Sl2} {e:E3} (h:YK w s e) (hb:Below w.heap.size w w'):YK w' s e:=⟨h.1,h.2.1.below hb,h.2.2.below hb⟩
def e3d:E3:=(ByteArray.empty,[],[])
def Y6 (w:World) (a:Option Addr) (len cap:Nat) (es:List E3):Prop:=
 es.length=len∧len≤cap∧cap≤maxLen∧(len=0∨∃ b off,a=some ⟨b,off,none⟩∧b<w.heap.size∧∀ t,t<len →
  ∃ s:Sl2,w.cell? ⟨b,off+t*3,none⟩=some (.string (es.getD t e3d).1)∧w.cell? ⟨b,off+t*3+1,none⟩=some (.slice s.1.1 s.1.2.1 s.1.2.2)∧w.cell? ⟨b,off+t*3+2,none⟩=some (.slice s.2.1 s.2.2.1 s.2.2.2)∧YK w s (es.getD t e3d))
theorem Y6.below {w w':World} {a:Option Addr} {len cap:Nat} {es:List E3} (h:Y6 w a len cap es) (hb:Below w.heap.size w w'):Y6 w' a len cap es:=by
 obtain ⟨h1,h2,h3,h4⟩:=h
 refine ⟨h1,h2,h3,?_⟩
 rcases h4 with h4 | ⟨b,off,ha,hlt,hc⟩
 ·exact .inl h4
 refine .inr ⟨b,off,ha,by have:=hb.size;omega,fun t ht=>?_⟩
 obtain ⟨s,c0,c1,c2,hm⟩:=hc t ht
 exact ⟨s,by rw [hb.cell (p:=⟨b,_,none⟩) hlt];exact c0,by rw [hb.cell (p:=⟨b,_,none⟩) hlt];exact c1,by rw [hb.cell (p:=⟨b,_,none⟩) hlt];exact c2,hm.below hb⟩

section
variable {H : Type} {enc : TypeId × Value → H} {w : World} {base : Nat} {spare : Nat → Bool} {held : Bool}
end
end Go.Proofs.YtgmhhegckcionaaGreatDoor
