/-
  Joined: RisI.
-/
import Derived.Shelf.Small.Strs
import Derived.Test.YtgmhhegckcionaaGreatDoorF32

namespace Go.Proofs.YtgmhhegckcionaaGreatDoor
set_option maxRecDepth 100000
set_option maxHeartbeats 16000000
open Go.RowKit Go.Sort
set_option linter.unusedVariables false
set_option linter.unusedSimpArgs false

def L9 (a b:ByteArray):Int:=Lib.compareBytes a.data.toList b.data.toList
theorem K4:∀ a b:List UInt8,Lib.compareBytes a b<0↔Go.Op.bytesLess a b=true
 | [],[]=>by simp [Lib.compareBytes,Go.Op.bytesLess]
 | [],_::_=>by simp [Lib.compareBytes,Go.Op.bytesLess]
 | _::_,[]=>by simp [Lib.compareBytes,Go.Op.bytesLess]
 | x::a,y::b=>by
  rw [Sj,Lib.compareBytes]
  by_cases h1:x<y
  ·simp [h1]
  rw [if_neg h1]
  by_cases h2:y<x
  ·rw [if_pos h2]
   constructor
   ·intro h;omega
   rintro (h | ⟨h,_⟩)
   ·exact absurd h h1
   subst h;exact absurd h2 h1
  rw [if_neg h2,K4 a b]
  have e:x=y:=UInt8.le_antisymm (UInt8.not_lt.1 h2) (UInt8.not_lt.1 h1)
  subst e
  simp
theorem DG (a b:ByteArray):L9 a b<0↔ltS a b=true:=by
 unfold L9 ltS
 rw [K4,Go.ByteArray.toList_eq,Go.ByteArray.toList_eq]
theorem Rd (a b:ByteArray) (w:World):Calls Tryz.prog 137 #[.string a,.string b] w fun e w'=>e=.returned (.int .i64 (L9 a b))∧w=w':=by
 go_enter Tryz.func137,Tryz.ntmps137
 go_wp2
 rw [run_callFunc_extern Tryz.func165 (by kernel_rfl) (by kernel_rfl) (by kernel_rfl) (e:=Extern.BytealgCompare.compare) (by kernel_rfl),Lib.run_compareString]
 simp only [Result.andThen]
 rw [Oper.upon_value]
 go_wp2
 go_ret
 exact ⟨rfl,rfl⟩
theorem S0 (a b:ByteArray) (w:World):Calls Tryz.prog 92 #[.string a,.string b] w fun e w'=>e=.returned (.int .i64 (L9 a b))∧w=w':=by
 have k:=Rd a b w
 go_enter Tryz.func92,Tryz.ntmps92
 go_wp2_with fail
 refine k.mono ?_
 rintro e w1 ⟨rfl,rfl⟩
 go_wp2
 go_ret
 exact ⟨rfl,rfl⟩
theorem RC (k:ByteArray) (s:Sl2) (w:World):Calls Tryz.prog 230 #[ZW k s] w fun e w'=>e=.returned (.string k)∧Below w.heap.size w w':=by
 obtain ⟨⟨a1,n1,c1⟩,⟨a2,n2,c2⟩⟩:=s
 unfold ZW
 have bu:Below w.heap.size w (w.alloc (.cells #[.string k,.slice a1 n1 c1,.slice a2 n2 c2] 45)):=by go_grown
 go_enter Tryz.func230,Tryz.ntmps230
 go_wp2
 go_ret
 exact ⟨rfl,bu⟩
theorem DX (v:Value) (w:World):(Go.method 390 45 v "loop.example/g00632/impl.key").run Tryz.prog w=.ok (230,v) w:=by kernel_rfl
theorem Qn (k k2:ByteArray) (s s2:Sl2) (w:World):Calls Tryz.prog 98 #[ZW k s,ZW k2 s2] w fun e w'=>e=.returned (.int .i64 (L9 k k2))∧Below w.heap.size w w':=by
 have kX:=fun W=>RC k s W
 have kY:=fun W=>RC k2 s2 W
 have kC:=fun W=>S0 k k2 W
 have mK:=fun v W=>DX v W
 have eK:∀ args w,(callFunc 230 args).run Tryz.prog w=.ok (.enter 230 args) w:=Go.Proofs.enters_of Tryz.func230 (by kernel_rfl) rfl
 obtain ⟨⟨a1,n1,c1⟩,⟨a2,n2,c2⟩⟩:=s
 obtain ⟨⟨b1,m1,d1⟩,⟨b2,m2,d2⟩⟩:=s2
 unfold ZW at *
 simp only at *
 have bw:Below w.heap.size w ((w.alloc (.cells #[.string k,.slice a1 n1 c1,.slice a2 n2 c2] 45)).alloc (.cells #[.string k2,.slice b1 m1 d1,.slice b2 m2 d2] 45)):=by go_grown
 have pX:Blk ((w.alloc (.cells #[.string k,.slice a1 n1 c1,.slice a2 n2 c2] 45)).alloc (.cells #[.string k2,.slice b1 m1 d1,.slice b2 m2 d2] 45)) w.heap.size 45 [.string k,.slice a1 n1 c1,.slice a2 n2 c2]:=Zl _ (Zj _ _ _ rfl)
 have pY:Blk ((w.alloc (.cells #[.string k,.slice a1 n1 c1,.slice a2 n2 c2] 45)).alloc (.cells #[.string k2,.slice b1 m1 d1,.slice b2 m2 d2] 45)) (w.heap.size+1) 45 [.string k2,.slice b1 m1 d1,.slice b2 m2 d2]:=Zj _ _ _ (by simp)
 have x0:=pX.cell 0
 have x1:=pX.cell 1
 have x2:=pX.cell 2
 have y0:=pY.cell 0
 have y1:=pY.cell 1
 have y2:=pY.cell 2
 simp only [List.getElem?_cons_zero,List.getElem?_cons_succ] at x0 x1 x2 y0 y1 y2
 clear pX pY
 go_enter Tryz.func98,Tryz.ntmps98
 go_wp2_with fail
 generalize ((w.alloc (.cells #[.string k,.slice a1 n1 c1,.slice a2 n2 c2] 45)).alloc (.cells #[.string k2,.slice b1 m1 d1,.slice b2 m2 d2] 45))=W at *
 have bd:Below w.heap.size w W.drew:=Zo bw (by go_grown)
 refine wp_region_held_drew (S:=(fun w'=>w'.cell? ⟨w.heap.size,0,none⟩=some (.string k)∧w'.cell? ⟨w.heap.size,1,none⟩=some (.slice a1 n1 c1)∧w'.cell? ⟨w.heap.size,2,none⟩=some (.slice a2 n2 c2)∧w'.cell? ⟨w.heap.size+1,0,none⟩=some (.string k2)∧w'.cell? ⟨w.heap.size+1,1,none⟩=some (.slice b1 m1 d1)∧w'.cell? ⟨w.heap.size+1,2,none⟩=some (.slice b2 m2 d2))) (by kernel_rfl) ⟨x0,x1,x2,y0,y1,y2⟩ (fun hS0=>?_)
 refine tkv 0 5 (.agg #[.string k,.slice a1 n1 c1,.slice a2 n2 c2]) ?_
 refine tkv 1 6 (.iface 45 (.agg #[.string k,.slice a1 n1 c1,.slice a2 n2 c2])) ?_
 refine tkv 3 8 (.agg #[.string k2,.slice b1 m1 d1,.slice b2 m2 d2]) ?_
 refine tkv 4 9 (.iface 45 (.agg #[.string k2,.slice b1 m1 d1,.slice b2 m2 d2])) ?_
 refine tkr 2 7 (fun K hK=>?_)
 go_simp
 refine (kX _).mono ?_
 rintro e w3 ⟨rfl,hb3⟩
 go_wp2_with fail
 refine hK.out _ _ ?_ (fun hS3=>?_)
 ·exact ⟨Za hb3 _ _ hS0.1,Za hb3 _ _ hS0.2.1,Za hb3 _ _ hS0.2.2.1,Za hb3 _ _ hS0.2.2.2.1,Za hb3 _ _ hS0.2.2.2.2.1,Za hb3 _ _ hS0.2.2.2.2.2⟩
 clear hK
 refine tkr 5 10 (fun K hK=>?_)
 go_simp
 refine (kY _).mono ?_
 rintro e w4 ⟨rfl,hb4⟩
 go_wp2_with fail
 refine hK.out _ _ ?_ (fun hS4=>?_)
 ·exact ⟨Za hb4 _ _ hS3.1,Za hb4 _ _ hS3.2.1,Za hb4 _ _ hS3.2.2.1,Za hb4 _ _ hS3.2.2.2.1,Za hb4 _ _ hS3.2.2.2.2.1,Za hb4 _ _ hS3.2.2.2.2.2⟩
 clear hK
 refine tkr 6 11 (fun K hK=>?_)
 go_simp
 refine (kC _).mono ?_
 rintro e w5 ⟨rfl,rfl⟩
 go_wp2_with fail
 refine hK.out _ _ ?_ (fun hS5=>?_)
 ·exact hS4
 clear hK
 refine tkv 7 4 (.int .i64 (L9 k k2)) ?_
 refine wpAnyH_done (by kernel_rfl) ?_ _
 replace bw:=Zo (Zo bd hb3) hb4
 clear hS0 hS3 hS4 hS5 hb3 hb4 bd x0 x1 x2 y0 y1 y2
 go_wp2
 go_ret
 exact ⟨rfl,bw⟩
theorem My (x y:Int) (w:World):Calls Tryz.prog 75 #[.int .i64 x,.int .i64 y] w fun e w'=>e=.returned (.int .i64 (Rc x y))∧Below w.heap.size w w':=by
 refine (WJ x y w).mono ?_
 rintro e w' ⟨rfl,rfl⟩
 exact ⟨rfl,Below.refl _ _⟩
theorem NU (x y:I3) (w:World):Calls Tryz.prog 113 #[.agg #[.int .i64 x.1,.int .i64 x.2.1,.int .i64 x.2.2],.agg #[.int .i64 y.1,.int .i64 y.2.1,.int .i64 y.2.2]] w fun e w'=>e=.returned (.int .i64 (So x y))∧Below w.heap.size w w':=by
 refine (UX x y w).mono ?_
 rintro e w' ⟨rfl,q,os,rfl⟩
 refine ⟨rfl,rfl,rfl,rfl,?_,fun k hk=>?_⟩
 ·simp [grow,World.drewN]
 simp only [grow,World.drewN]
 rw [Array.getElem?_append_left hk]
theorem DF (x y:Int):Rc x y<0↔decide (x<y)=true:=by
 unfold Rc
 by_cases h1:x<y
 ·simp [h1]
 by_cases h2:y<x
 ·simp [h1,h2]
 simp [h1,h2]
theorem Fj (x y:I3):So x y<0↔ltB x y=true:=by
 rw [← VJ x y]
 unfold ltOf
 simp
def stI (xs:List Int) (i:Nat):Bool:=decide (i=0) || (decide ((xs.getD (i - 1) 0)<(xs.getD i 0)))
def upI (xs:List Int):Bool:=(List.range xs.length).all (stI xs)
theorem GD (a:Option Addr) (n cap:Nat) (xs:List Int) (w:World) (h:Yn .i64 w a n cap xs) :
  Calls Tryz.prog 74 #[.slice a n cap,.func (.func 75) #[] #[]] w fun e w'=>e=.returned (.bool (upI xs))∧Below w.heap.size w w':=by
 obtain ⟨r,hr⟩:∃ r,r=upI xs:=⟨_,rfl⟩
 rw [← hr]
 have HR:Hid (r=upI xs):=hr
 clear hr
 have hl:=h.1
 have hnm:n≤maxLen:=Nat.le_trans h.2.1 h.2.2.1
 unfold maxLen at hnm
 go_enter Tryz.func74,Tryz.ntmps74
 go_wp2_with fail
 go_loopw [5] (fun si wr=>∃ k:Nat,1≤k∧(k≤n∨k=1)∧si=.int .i64 k∧Hid (∀ i,i<k→stI xs i=true)∧Below w.heap.size w wr) (fun si _=>n - (intOf si).toNat)
 case atStart => exact ⟨1, by omega, .inr rfl, rfl, (fun i hi => by obtain rfl : i = 0 := by omega
                                                                    rfl),Below.refl _ _⟩
 case round =>
  obtain ⟨k,hk1,hk,rfl,HK,bw⟩:=hrel
  by_cases hlt:k<n
  ·obtain ⟨m,rfl⟩:∃ m,k=m+1:=⟨k - 1,by omega⟩
   have bd:Below w.heap.size w wr.drew:=Zo bw (by go_grown)
   obtain ⟨_,_,_,hcase⟩:=h.below bd
   rcases hcase with e0 | ⟨b,off,rfl,hb,hc⟩
   ·omega
   have x0:=hc m (by omega)
   have y0:=hc (m+1) hlt
   have hst:stI xs (m+1)=decide (xs.getD m 0<xs.getD (m+1) 0):=by unfold stI;simp
   have kC:=fun W=>My (xs.getD m 0) (xs.getD (m+1) 0) W
   have hcl:=DF (xs.getD m 0) (xs.getD (m+1) 0)
   generalize Rc (xs.getD m 0) (xs.getD (m+1) 0)=c at *
   generalize xs.getD m 0=x at *
   generalize xs.getD (m+1) 0=y at *
   have hlt2:((m+1:Nat):Int)<(n:Int):=by omega
   have hm0:(0:Int)≤(m:Int):=by omega
   have HC:Hid (c<0↔decide (x<y)=true):=hcl
   have HT:Hid (stI xs (m+1)=decide (x<y)):=hst
   clear hcl hst hc hb
   generalize decide (x<y)=lt at *
   by_cases hneg:c<0
   ·have HK2:Hid (∀ i,i<m+1+1→stI xs i=true):=fun i hi=>by
     by_cases e:i=m+1
     ·rw [e,HT.out];exact HC.out.1 hneg
     exact HK.out i (by omega)
    clear HK HC HT
    have hng:¬ (0:Int)≤c:=by omega
    have hge:decide ((0:Int)≤c)=false:=by simp;omega
    clear hneg
    go_wp2_with fail
    refine wp_region_held_drew (S:=(fun w'=>w'.cell? ⟨b,off+m,none⟩=some (.int .i64 x)∧w'.cell? ⟨b,off+(m+1),none⟩=some (.int .i64 y))) (by kernel_rfl) ⟨x0,y0⟩ (fun hS0=>?_)
    refine tkv 0 12 (.func (.func 75) #[] #[]) ?_
    refine tkv 1 13 (.slice (some ⟨b,off,none⟩) n cap) ?_
    refine tkv 2 14 (.int .i64 ((m+1:Nat):Int)) ?_
    refine tkv 3 15 (.int .i64 (m:Int)) ?_
    refine tkv 4 16 (.pointer (some ⟨b,off+m,none⟩)) ?_
    refine tkv 5 17 (.int .i64 x) ?_
    refine tkv 6 18 (.slice (some ⟨b,off,none⟩) n cap) ?_
    refine tkv 7 19 (.int .i64 ((m+1:Nat):Int)) ?_
    refine tkv 8 20 (.pointer (some ⟨b,off+(m+1),none⟩)) ?_
    refine tkv 9 21 (.int .i64 y) ?_
    refine tkr 10 22 (fun K hK=>?_)
    go_simp
    refine (kC _).mono ?_
    rintro e w5 ⟨rfl,hb5⟩
    go_wp2_with fail
    refine hK.out _ _ ?_ (fun hS5=>?_)
    ·exact ⟨Za hb5 _ _ hS0.1,Za hb5 _ _ hS0.2⟩
    clear hK
    refine tkv 11 23 (.bool false) ?_
    refine wpAnyH_done (by kernel_rfl) ?_ _
    replace bw:=Zo bd hb5
    clear hS0 hS5 hb5 bd x0 y0
    go_wp2
    go_roundw
    case rel=>exact ⟨m+1+1,by omega,.inl (by omega),by go_num,HK2,bw⟩
    case measure=>simp [intOf];omega
   have HF:Hid (r=false):=by
    rw [Hid,HR.out]
    refine TZ (k:=m+1) (by omega) ?_
    rw [HT.out]
    cases hq:lt
    ·rfl
    exact absurd (HC.out.2 hq) hneg
   clear HK HC HT
   have hpo:(0:Int)≤c:=by omega
   have hge:decide ((0:Int)≤c)=true:=by simp;omega
   clear hneg
   go_wp2_with fail
   refine wp_region_held_drew (S:=(fun w'=>w'.cell? ⟨b,off+m,none⟩=some (.int .i64 x)∧w'.cell? ⟨b,off+(m+1),none⟩=some (.int .i64 y))) (by kernel_rfl) ⟨x0,y0⟩ (fun hS0=>?_)
   refine tkv 0 12 (.func (.func 75) #[] #[]) ?_
   refine tkv 1 13 (.slice (some ⟨b,off,none⟩) n cap) ?_
   refine tkv 2 14 (.int .i64 ((m+1:Nat):Int)) ?_
   refine tkv 3 15 (.int .i64 (m:Int)) ?_
   refine tkv 4 16 (.pointer (some ⟨b,off+m,none⟩)) ?_
   refine tkv 5 17 (.int .i64 x) ?_
   refine tkv 6 18 (.slice (some ⟨b,off,none⟩) n cap) ?_
   refine tkv 7 19 (.int .i64 ((m+1:Nat):Int)) ?_
   refine tkv 8 20 (.pointer (some ⟨b,off+(m+1),none⟩)) ?_
   refine tkv 9 21 (.int .i64 y) ?_
   refine tkr 10 22 (fun K hK=>?_)
   go_simp
   refine (kC _).mono ?_
   rintro e w5 ⟨rfl,hb5⟩
   go_wp2_with fail
   refine hK.out _ _ ?_ (fun hS5=>?_)
   ·exact ⟨Za hb5 _ _ hS0.1,Za hb5 _ _ hS0.2⟩
   clear hK
   refine tkv 11 23 (.bool true) ?_
   refine wpAnyH_done (by kernel_rfl) ?_ _
   replace bw:=Zo bd hb5
   clear hS0 hS5 hb5 bd x0 y0
   go_wp2
   go_ret
   exact ⟨by rw [HF.out];rfl,bw⟩
  have HF:Hid (r=true):=by
   rw [Hid,HR.out]
   exact Vi fun i hi=>HK.out i (by omega)
  have hlt2:¬ (k:Int)<(n:Int):=by omega
  clear HK
  go_wp2
  go_ret
  exact ⟨by rw [HF.out];rfl,bw⟩
def stB (xs:List I3) (i:Nat):Bool:=decide (i=0) || (ltB (xs.getD (i - 1) (0,0,0)) (xs.getD i (0,0,0)))
def upB (xs:List I3):Bool:=(List.range xs.length).all (stB xs)
theorem GA (a:Option Addr) (n cap:Nat) (xs:List I3) (w:World) (h:Zr w a n cap xs) :
  Calls Tryz.prog 112 #[.slice a n cap,.func (.func 113) #[] #[]] w fun e w'=>e=.returned (.bool (upB xs))∧Below w.heap.size w w':=by
 obtain ⟨r,hr⟩:∃ r,r=upB xs:=⟨_,rfl⟩
 rw [← hr]
 have HR:Hid (r=upB xs):=hr
 clear hr
 have hl:=h.1
 have hnm:n≤maxLen:=Nat.le_trans h.2.1 h.2.2.1
 unfold maxLen at hnm
 go_enter Tryz.func112,Tryz.ntmps112
 go_wp2_with fail
 go_loopw [5] (fun si wr=>∃ k:Nat,1≤k∧(k≤n∨k=1)∧si=.int .i64 k∧Hid (∀ i,i<k→stB xs i=true)∧Below w.heap.size w wr) (fun si _=>n - (intOf si).toNat)
 case atStart => exact ⟨1, by omega, .inr rfl, rfl, (fun i hi => by obtain rfl : i = 0 := by omega
                                                                    rfl),Below.refl _ _⟩
 case round =>
  obtain ⟨k,hk1,hk,rfl,HK,bw⟩:=hrel
  by_cases hlt:k<n
  ·obtain ⟨m,rfl⟩:∃ m,k=m+1:=⟨k - 1,by omega⟩
   have bd:Below w.heap.size w wr.drew:=Zo bw (by go_grown)
   obtain ⟨_,_,_,_,hcase⟩:=h.below bd
   rcases hcase with e0 | ⟨b,off,rfl,hb,hc⟩
   ·omega
   obtain ⟨x0,x1,x2⟩:=hc m (by omega)
   obtain ⟨y0,y1,y2⟩:=hc (m+1) hlt
   have hst:stB xs (m+1)=ltB (xs.getD m (0,0,0)) (xs.getD (m+1) (0,0,0)):=by unfold stB;simp
   have kC:=fun W=>NU (xs.getD m (0,0,0)) (xs.getD (m+1) (0,0,0)) W
   have hcl:=Fj (xs.getD m (0,0,0)) (xs.getD (m+1) (0,0,0))
   generalize So (xs.getD m (0,0,0)) (xs.getD (m+1) (0,0,0))=c at *
   generalize xs.getD m (0,0,0)=x at *
   generalize xs.getD (m+1) (0,0,0)=y at *
   generalize ltB x y=lt at *
   obtain ⟨p0,p1,p2⟩:=x
   obtain ⟨q0,q1,q2⟩:=y
   simp only at x0 x1 x2 y0 y1 y2 kC
   have hlt2:((m+1:Nat):Int)<(n:Int):=by omega
   have hm0:(0:Int)≤(m:Int):=by omega
   have HC:Hid (c<0↔lt=true):=hcl
   have HT:Hid (stB xs (m+1)=lt):=hst
   clear hcl hst hc hb
   skip
   by_cases hneg:c<0
   ·have HK2:Hid (∀ i,i<m+1+1→stB xs i=true):=fun i hi=>by
     by_cases e:i=m+1
     ·rw [e,HT.out];exact HC.out.1 hneg
     exact HK.out i (by omega)
    clear HK HC HT
    have hng:¬ (0:Int)≤c:=by omega
    have hge:decide ((0:Int)≤c)=false:=by simp;omega
    clear hneg
    go_wp2_with fail
    refine wp_region_held_drew (S:=(fun w'=>w'.cell? ⟨b,off+m*3,none⟩=some (.int .i64 p0)∧w'.cell? ⟨b,off+m*3+1,none⟩=some (.int .i64 p1)∧w'.cell? ⟨b,off+m*3+2,none⟩=some (.int .i64 p2)∧w'.cell? ⟨b,off+(m+1)*3,none⟩=some (.int .i64 q0)∧w'.cell? ⟨b,off+(m+1)*3+1,none⟩=some (.int .i64 q1)∧w'.cell? ⟨b,off+(m+1)*3+2,none⟩=some (.int .i64 q2))) (by kernel_rfl) ⟨x0,x1,x2,y0,y1,y2⟩ (fun hS0=>?_)
    refine tkv 0 12 (.func (.func 113) #[] #[]) ?_
    refine tkv 1 13 (.slice (some ⟨b,off,none⟩) n cap) ?_
    refine tkv 2 14 (.int .i64 ((m+1:Nat):Int)) ?_
    refine tkv 3 15 (.int .i64 (m:Int)) ?_
    refine tkv 4 16 (.pointer (some ⟨b,off+m*3,none⟩)) ?_
    refine tkv 5 17 (.agg #[.int .i64 p0,.int .i64 p1,.int .i64 p2]) ?_
    refine tkv 6 18 (.slice (some ⟨b,off,none⟩) n cap) ?_
    refine tkv 7 19 (.int .i64 ((m+1:Nat):Int)) ?_
    refine tkv 8 20 (.pointer (some ⟨b,off+(m+1)*3,none⟩)) ?_
    refine tkv 9 21 (.agg #[.int .i64 q0,.int .i64 q1,.int .i64 q2]) ?_
    refine tkr 10 22 (fun K hK=>?_)
    go_simp
    refine (kC _).mono ?_
    rintro e w5 ⟨rfl,hb5⟩
    go_wp2_with fail
    refine hK.out _ _ ?_ (fun hS5=>?_)
    ·exact ⟨Za hb5 _ _ hS0.1,Za hb5 _ _ hS0.2.1,Za hb5 _ _ hS0.2.2.1,Za hb5 _ _ hS0.2.2.2.1,Za hb5 _ _ hS0.2.2.2.2.1,Za hb5 _ _ hS0.2.2.2.2.2⟩
    clear hK
    refine tkv 11 23 (.bool false) ?_
    refine wpAnyH_done (by kernel_rfl) ?_ _
    replace bw:=Zo bd hb5
    clear hS0 hS5 hb5 bd x0 x1 x2 y0 y1 y2
    go_wp2
    go_roundw
    case rel=>exact ⟨m+1+1,by omega,.inl (by omega),by go_num,HK2,bw⟩
    case measure=>simp [intOf];omega
   have HF:Hid (r=false):=by
    rw [Hid,HR.out]
    refine TZ (k:=m+1) (by omega) ?_
    rw [HT.out]
    cases hq:lt
    ·rfl
    exact absurd (HC.out.2 hq) hneg
   clear HK HC HT
   have hpo:(0:Int)≤c:=by omega
   have hge:decide ((0:Int)≤c)=true:=by simp;omega
   clear hneg
   go_wp2_with fail
   refine wp_region_held_drew (S:=(fun w'=>w'.cell? ⟨b,off+m*3,none⟩=some (.int .i64 p0)∧w'.cell? ⟨b,off+m*3+1,none⟩=some (.int .i64 p1)∧w'.cell? ⟨b,off+m*3+2,none⟩=some (.int .i64 p2)∧w'.cell? ⟨b,off+(m+1)*3,none⟩=some (.int .i64 q0)∧w'.cell? ⟨b,off+(m+1)*3+1,none⟩=some (.int .i64 q1)∧w'.cell? ⟨b,off+(m+1)*3+2,none⟩=some (.int .i64 q2))) (by kernel_rfl) ⟨x0,x1,x2,y0,y1,y2⟩ (fun hS0=>?_)
   refine tkv 0 12 (.func (.func 113) #[] #[]) ?_
   refine tkv 1 13 (.slice (some ⟨b,off,none⟩) n cap) ?_
   refine tkv 2 14 (.int .i64 ((m+1:Nat):Int)) ?_
   refine tkv 3 15 (.int .i64 (m:Int)) ?_
   refine tkv 4 16 (.pointer (some ⟨b,off+m*3,none⟩)) ?_
   refine tkv 5 17 (.agg #[.int .i64 p0,.int .i64 p1,.int .i64 p2]) ?_
   refine tkv 6 18 (.slice (some ⟨b,off,none⟩) n cap) ?_
   refine tkv 7 19 (.int .i64 ((m+1:Nat):Int)) ?_
   refine tkv 8 20 (.pointer (some ⟨b,off+(m+1)*3,none⟩)) ?_
   refine tkv 9 21 (.agg #[.int .i64 q0,.int .i64 q1,.int .i64 q2]) ?_
   refine tkr 10 22 (fun K hK=>?_)
   go_simp
   refine (kC _).mono ?_
   rintro e w5 ⟨rfl,hb5⟩
   go_wp2_with fail
   refine hK.out _ _ ?_ (fun hS5=>?_)
   ·exact ⟨Za hb5 _ _ hS0.1,Za hb5 _ _ hS0.2.1,Za hb5 _ _ hS0.2.2.1,Za hb5 _ _ hS0.2.2.2.1,Za hb5 _ _ hS0.2.2.2.2.1,Za hb5 _ _ hS0.2.2.2.2.2⟩
   clear hK
   refine tkv 11 23 (.bool true) ?_
   refine wpAnyH_done (by kernel_rfl) ?_ _
   replace bw:=Zo bd hb5
   clear hS0 hS5 hb5 bd x0 x1 x2 y0 y1 y2
   go_wp2
   go_ret
   exact ⟨by rw [HF.out];rfl,bw⟩
  have HF:Hid (r=true):=by
   rw [Hid,HR.out]
   exact Vi fun i hi=>HK.out i (by omega)
  have hlt2:¬ (k:Int)<(n:Int):=by omega
  clear HK
  go_wp2
  go_ret
  exact ⟨by rw [HF.out];rfl,bw⟩
def stE (xs:List E3) (i:Nat):Bool:=decide (i=0) || (ltS (xs.getD (i - 1) e3d).1 (xs.getD i e3d).1)
def upE (xs:List E3):Bool:=(List.range xs.length).all (stE xs)
theorem GC (a:Option Addr) (n cap:Nat) (xs:List E3) (w:World) (h:Y6 w a n cap xs) :
  Calls Tryz.prog 97 #[.slice a n cap,.func (.func 98) #[] #[]] w fun e w'=>e=.returned (.bool (upE xs))∧Below w.heap.size w w':=by
 obtain ⟨r,hr⟩:∃ r,r=upE xs:=⟨_,rfl⟩
 rw [← hr]
 have HR:Hid (r=upE xs):=hr
 clear hr
 have hl:=h.1
 have hnm:n≤maxLen:=Nat.le_trans h.2.1 h.2.2.1
 unfold maxLen at hnm
 go_enter Tryz.func97,Tryz.ntmps97
 go_wp2_with fail
 go_loopw [5] (fun si wr=>∃ k:Nat,1≤k∧(k≤n∨k=1)∧si=.int .i64 k∧Hid (∀ i,i<k→stE xs i=true)∧Below w.heap.size w wr) (fun si _=>n - (intOf si).toNat)
 case atStart => exact ⟨1, by omega, .inr rfl, rfl, (fun i hi => by obtain rfl : i = 0 := by omega
                                                                    rfl),Below.refl _ _⟩
 case round =>
  obtain ⟨k,hk1,hk,rfl,HK,bw⟩:=hrel
  by_cases hlt:k<n
  ·obtain ⟨m,rfl⟩:∃ m,k=m+1:=⟨k - 1,by omega⟩
   have bd:Below w.heap.size w wr.drew:=Zo bw (by go_grown)
   obtain ⟨_,_,_,hcase⟩:=h.below bd
   rcases hcase with e0 | ⟨b,off,rfl,hb,hc⟩
   ·omega
   obtain ⟨s1,x0,x1,x2,_⟩:=hc m (by omega)
   obtain ⟨s2,y0,y1,y2,_⟩:=hc (m+1) hlt
   have hst:stE xs (m+1)=ltS (xs.getD m e3d).1 (xs.getD (m+1) e3d).1:=by unfold stE;simp
   have kC:=fun W=>Qn (xs.getD m e3d).1 (xs.getD (m+1) e3d).1 s1 s2 W
   have hcl:=DG (xs.getD m e3d).1 (xs.getD (m+1) e3d).1
   generalize L9 (xs.getD m e3d).1 (xs.getD (m+1) e3d).1=c at *
   generalize (xs.getD m e3d).1=x at *
   generalize (xs.getD (m+1) e3d).1=y at *
   generalize ltS x y=lt at *
   obtain ⟨⟨a1,n1,c1⟩,⟨a2,n2,c2⟩⟩:=s1
   obtain ⟨⟨b1,m1,d1⟩,⟨b2,m2,d2⟩⟩:=s2
   unfold ZW at kC
   simp only at x0 x1 x2 y0 y1 y2 kC
   have hlt2:((m+1:Nat):Int)<(n:Int):=by omega
   have hm0:(0:Int)≤(m:Int):=by omega
   have HC:Hid (c<0↔lt=true):=hcl
   have HT:Hid (stE xs (m+1)=lt):=hst
   clear hcl hst hc hb
   skip
   by_cases hneg:c<0
   ·have HK2:Hid (∀ i,i<m+1+1→stE xs i=true):=fun i hi=>by
     by_cases e:i=m+1
     ·rw [e,HT.out];exact HC.out.1 hneg
     exact HK.out i (by omega)
    clear HK HC HT
    have hng:¬ (0:Int)≤c:=by omega
    have hge:decide ((0:Int)≤c)=false:=by simp;omega
    clear hneg
    go_wp2_with fail
    refine wp_region_held_drew (S:=(fun w'=>w'.cell? ⟨b,off+m*3,none⟩=some (.string x)∧w'.cell? ⟨b,off+m*3+1,none⟩=some (.slice a1 n1 c1)∧w'.cell? ⟨b,off+m*3+2,none⟩=some (.slice a2 n2 c2)∧w'.cell? ⟨b,off+(m+1)*3,none⟩=some (.string y)∧w'.cell? ⟨b,off+(m+1)*3+1,none⟩=some (.slice b1 m1 d1)∧w'.cell? ⟨b,off+(m+1)*3+2,none⟩=some (.slice b2 m2 d2))) (by kernel_rfl) ⟨x0,x1,x2,y0,y1,y2⟩ (fun hS0=>?_)
    refine tkv 0 12 (.func (.func 98) #[] #[]) ?_
    refine tkv 1 13 (.slice (some ⟨b,off,none⟩) n cap) ?_
    refine tkv 2 14 (.int .i64 ((m+1:Nat):Int)) ?_
    refine tkv 3 15 (.int .i64 (m:Int)) ?_
    refine tkv 4 16 (.pointer (some ⟨b,off+m*3,none⟩)) ?_
    refine tkv 5 17 (.agg #[.string x,.slice a1 n1 c1,.slice a2 n2 c2]) ?_
    refine tkv 6 18 (.slice (some ⟨b,off,none⟩) n cap) ?_
    refine tkv 7 19 (.int .i64 ((m+1:Nat):Int)) ?_
    refine tkv 8 20 (.pointer (some ⟨b,off+(m+1)*3,none⟩)) ?_
    refine tkv 9 21 (.agg #[.string y,.slice b1 m1 d1,.slice b2 m2 d2]) ?_
    refine tkr 10 22 (fun K hK=>?_)
    go_simp
    refine (kC _).mono ?_
    rintro e w5 ⟨rfl,hb5⟩
    go_wp2_with fail
    refine hK.out _ _ ?_ (fun hS5=>?_)
    ·exact ⟨Za hb5 _ _ hS0.1,Za hb5 _ _ hS0.2.1,Za hb5 _ _ hS0.2.2.1,Za hb5 _ _ hS0.2.2.2.1,Za hb5 _ _ hS0.2.2.2.2.1,Za hb5 _ _ hS0.2.2.2.2.2⟩
    clear hK
    refine tkv 11 23 (.bool false) ?_
    refine wpAnyH_done (by kernel_rfl) ?_ _
    replace bw:=Zo bd hb5
    clear hS0 hS5 hb5 bd x0 x1 x2 y0 y1 y2
    go_wp2
    go_roundw
    case rel=>exact ⟨m+1+1,by omega,.inl (by omega),by go_num,HK2,bw⟩
    case measure=>simp [intOf];omega
   have HF:Hid (r=false):=by
    rw [Hid,HR.out]
    refine TZ (k:=m+1) (by omega) ?_
    rw [HT.out]
    cases hq:lt
    ·rfl
    exact absurd (HC.out.2 hq) hneg
   clear HK HC HT
   have hpo:(0:Int)≤c:=by omega
   have hge:decide ((0:Int)≤c)=true:=by simp;omega
   clear hneg
   go_wp2_with fail
   refine wp_region_held_drew (S:=(fun w'=>w'.cell? ⟨b,off+m*3,none⟩=some (.string x)∧w'.cell? ⟨b,off+m*3+1,none⟩=some (.slice a1 n1 c1)∧w'.cell? ⟨b,off+m*3+2,none⟩=some (.slice a2 n2 c2)∧w'.cell? ⟨b,off+(m+1)*3,none⟩=some (.string y)∧w'.cell? ⟨b,off+(m+1)*3+1,none⟩=some (.slice b1 m1 d1)∧w'.cell? ⟨b,off+(m+1)*3+2,none⟩=some (.slice b2 m2 d2))) (by kernel_rfl) ⟨x0,x1,x2,y0,y1,y2⟩ (fun hS0=>?_)
   refine tkv 0 12 (.func (.func 98) #[] #[]) ?_
   refine tkv 1 13 (.slice (some ⟨b,off,none⟩) n cap) ?_
   refine tkv 2 14 (.int .i64 ((m+1:Nat):Int)) ?_
   refine tkv 3 15 (.int .i64 (m:Int)) ?_
   refine tkv 4 16 (.pointer (some ⟨b,off+m*3,none⟩)) ?_
   refine tkv 5 17 (.agg #[.string x,.slice a1 n1 c1,.slice a2 n2 c2]) ?_
   refine tkv 6 18 (.slice (some ⟨b,off,none⟩) n cap) ?_
   refine tkv 7 19 (.int .i64 ((m+1:Nat):Int)) ?_
   refine tkv 8 20 (.pointer (some ⟨b,off+(m+1)*3,none⟩)) ?_
   refine tkv 9 21 (.agg #[.string y,.slice b1 m1 d1,.slice b2 m2 d2]) ?_
   refine tkr 10 22 (fun K hK=>?_)
   go_simp
   refine (kC _).mono ?_
   rintro e w5 ⟨rfl,hb5⟩
   go_wp2_with fail
   refine hK.out _ _ ?_ (fun hS5=>?_)
   ·exact ⟨Za hb5 _ _ hS0.1,Za hb5 _ _ hS0.2.1,Za hb5 _ _ hS0.2.2.1,Za hb5 _ _ hS0.2.2.2.1,Za hb5 _ _ hS0.2.2.2.2.1,Za hb5 _ _ hS0.2.2.2.2.2⟩
   clear hK
   refine tkv 11 23 (.bool true) ?_
   refine wpAnyH_done (by kernel_rfl) ?_ _
   replace bw:=Zo bd hb5
   clear hS0 hS5 hb5 bd x0 x1 x2 y0 y1 y2
   go_wp2
   go_ret
   exact ⟨by rw [HF.out];rfl,bw⟩
  have HF:Hid (r=true):=by
   rw [Hid,HR.out]
   exact Vi fun i hi=>HK.out i (by omega)
  have hlt2:¬ (k:Int)<(n:Int):=by omega
  clear HK
  go_wp2
  go_ret
  exact ⟨by rw [HF.out];rfl,bw⟩
end Go.Proofs.YtgmhhegckcionaaGreatDoor
