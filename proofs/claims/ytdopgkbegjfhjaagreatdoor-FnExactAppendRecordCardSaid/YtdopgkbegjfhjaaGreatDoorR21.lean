/-
  Joined: Unframe, RecP, RecF.
-/
import Derived.Test.YtdopgkbegjfhjaaGreatDoorR20

namespace Go.Proofs.YtdopgkbegjfhjaaGreatDoor
set_option maxRecDepth 100000
set_option maxHeartbeats 16000000
open Go.RowKit

def frameText (s:ByteArray) (n k:Nat):ByteArray:=s.extract (k+2) (k+2+n)
def Framed (s:ByteArray) (n k:Nat):Prop:=Num s 0 n k∧n≤60000∧k+2+n≤s.size
def NoFrame (s:ByteArray):Prop:=∀ n k,¬ Framed s n k
def sumAt (s:ByteArray) (k:Nat):Int:=(bt s k:Int)*256+(bt s (k+1):Int)
def Unframed (s:ByteArray) (e:Ending):Prop:=
 (∃ n k,Framed s n k∧sumAt s k=sumTo (frameText s n k) (frameText s n k).size∧e=.returned (.tuple #[.string (frameText s n k),.int .i64 ((k+2+n:Nat):Int),.int .i64 0])) ∨
 (∃ n k,Framed s n k∧sumAt s k≠sumTo (frameText s n k) (frameText s n k).size∧e=.returned (.tuple #[.string ByteArray.empty,.int .i64 0,.int .i64 9])) ∨
 (NoFrame s∧e=.returned (.tuple #[.string ByteArray.empty,.int .i64 0,.int .i64 3]))
theorem Framed.only {s:ByteArray} {n k m j:Nat} (h:Framed s n k) (g:Framed s m j):n=m∧k=j:=h.1.only g.1
theorem Unframed.same {s:ByteArray} {e f:Ending} (h:Unframed s e) (g:Unframed s f):e=f:=by
 rcases h with ⟨n,k,hn,hs,rfl⟩ | ⟨n,k,hn,hs,rfl⟩ | ⟨hn,rfl⟩<;>rcases g with ⟨m,j,hm,ht,rfl⟩ | ⟨m,j,hm,ht,rfl⟩ | ⟨hm,rfl⟩
 ·obtain ⟨rfl,rfl⟩:=hn.only hm;rfl
 ·obtain ⟨rfl,rfl⟩:=hn.only hm;exact absurd hs ht
 ·exact absurd hn (hm n k)
 ·obtain ⟨rfl,rfl⟩:=hn.only hm;exact absurd ht hs
 ·rfl
 ·exact absurd hn (hm n k)
 ·exact absurd hm (hn m j)
 ·exact absurd hm (hn m j)
 ·rfl
theorem noFrame_of_noNum {s:ByteArray} (h:NoNum s 0):NoFrame s:=fun n k hf=>h n k hf.1
theorem noFrame_of_num {s:ByteArray} {n k:Nat} (h:Num s 0 n k) (hn:¬ (n≤60000∧k+2+n≤s.size)):NoFrame s:=by
 intro m j hf
 obtain ⟨rfl,rfl⟩:=h.only hf.1
 exact hn hf.2

theorem frameText_size (s:ByteArray) (n k:Nat) (h:k+2+n≤s.size):(frameText s n k).size=n:=by simp [frameText];omega

def x0 (s:ByteArray) (k:Nat) (x:Int):Prop:=x=sumAt s k
def ReadFrame (s:ByteArray) (e:Ending):Prop:=
 (∃ n k,Framed s n k∧sumAt s k=sumTo (frameText s n k) (frameText s n k).size∧e=.returned (.tuple #[.string (frameText s n k),.int .i64 ((k+2+n:Nat):Int),.nilIface])) ∨
 (∃ n k,Framed s n k∧sumAt s k≠sumTo (frameText s n k) (frameText s n k).size∧∃ y:Int,e=.returned (.tuple #[.string ByteArray.empty,.int .i64 0,.iface 189 (.agg #[.int .i64 9,.int .i64 y])])) ∨
 (NoFrame s∧∃ y:Int,e=.returned (.tuple #[.string ByteArray.empty,.int .i64 0,.iface 189 (.agg #[.int .i64 3,.int .i64 y])]))

theorem readFrame_any (s:ByteArray) (w:World) (hs:s.size≤65536) :
  Calls Tryz.prog 125 #[.string s] w fun e w'=>ReadFrame s e∧Below w.heap.size w w':=by
 go_enter Tryz.func125,Tryz.ntmps125
 go_wp2_with fail
 refine (readNumber_any s 0 _ hs (by omega)).mono ?_
 rintro e w1 ⟨hk,hb1⟩
 rcases hk with ⟨n,k,hn,rfl⟩ | ⟨hn,y,rfl⟩
 ·rw [Nat.zero_add]
  have hN:Hid (Num s 0 n k):=hn
  have hk15:k≤5:=hn.1.2.1
  have hnle:n≤999999999:=hn.2.2.2
  clear hn
  by_cases hc:n≤60000∧k+2+n≤s.size
  ·obtain ⟨h6,hz⟩:=hc
   have hF:Hid (Framed s n k):=⟨hN.out,h6,hz⟩
   have hk0:k<s.size:=by omega
   have hk1:k+1<s.size:=by omega
   have hi0:(k:Int)<(s.size:Int):=by omega
   have hi1:(k:Int)+1<(s.size:Int):=by omega
   have hb0:(s[k]'hk0).toNat<256:=(s[k]'hk0).toNat_lt
   have hb2:(s[k+1]'hk1).toNat<256:=(s[k+1]'hk1).toNat_lt
   have hx:=frameText_size s n k hz
   have hsm:Hid (sumAt s k=((s[k]'hk0).toNat:Int)*256+((s[k+1]'hk1).toNat:Int)):=by
    rw [Hid,bt_get,bt_get];rfl
   have hq1:IntKind.i64.wrap ((s[k]'hk0).toNat:Int)=((s[k]'hk0).toNat:Int):=IntWalk.i64_in _ ⟨by omega,by omega⟩
   have hq2:IntKind.i64.wrap (((s[k]'hk0).toNat:Int)*256)=((s[k]'hk0).toNat:Int)*256:=IntWalk.i64_in _ ⟨by omega,by omega⟩
   have hq3:IntKind.i64.wrap ((k:Int)+1)=(k:Int)+1:=IntWalk.i64_in _ ⟨by omega,by omega⟩
   have hq4:IntKind.i64.wrap ((s[k+1]'hk1).toNat:Int)=((s[k+1]'hk1).toNat:Int):=IntWalk.i64_in _ ⟨by omega,by omega⟩
   have hq5:IntKind.i64.wrap (((s[k]'hk0).toNat:Int)*256+((s[k+1]'hk1).toNat:Int))=((s[k]'hk0).toNat:Int)*256+((s[k+1]'hk1).toNat:Int):=IntWalk.i64_in _ ⟨by omega,by omega⟩
   have hix:∀ W:World,(Instr.index 9 (.string s) (.int .i64 ((k:Int)+1))).run Tryz.prog W=.ok (.int .u8 ((s[k+1]'hk1).toNat:Int)) W:=fun W=>by
    rw [run_index_string (P:=Tryz.prog) W 9 s .i64 ((k:Int)+1) Tryz.underlying9]
    have e1:((k:Int)+1).toNat=k+1:=by omega
    have e2:(0:Int)≤(k:Int)+1∧(k:Int)+1<(s.size:Int):=by omega
    simp [e1,e2]
   go_wp2
   go_quiet (fail)
   clear hq1 hq2 hq3 hq4 hq5 hix
   rw [← hsm.out]
   obtain ⟨x,hx0⟩:∃ x,x=sumAt s k:=⟨_,rfl⟩
   have HX:Hid (x0 s k x):=hx0
   rw [← hx0]
   clear hx0
   have hF':Hid (Framed s n k∧x0 s k x):=⟨hF.out,HX.out⟩
   clear hsm hF HX hN
   go_wp2_with fail
   refine (implSumOf_any _ _ (by simp;omega)).mono ?_
   rintro e w2 ⟨rfl,rfl⟩
   have hfs:(s.extract (k+2) (k+2+n)).size≤65536:=by simp;omega
   obtain ⟨f,hf⟩:∃ f,f=s.extract (k+2) (k+2+n):=⟨_,rfl⟩
   have HF:Hid (frameText s n k=f):=by rw [Hid,hf];rfl
   rw [← hf] at hfs
   rw [← hf]
   have HE0:Hid (s.extract (k+2) (k+2+n)=f):=hf.symm
   clear hf
   by_cases heq:x=sumTo f f.size
   ·have hne:(x != sumTo f f.size)=false:=by simp [heq]
    have HE:Hid (x=sumTo f f.size):=heq
    clear heq
    go_wp2_with fail
    rw [HE0.out]
    refine (strings_Clone _ _ (by omega)).mono ?_
    rintro e w3 ⟨rfl,hb3⟩
    go_wp2
    go_ret3
    refine ⟨.inl ⟨n,k,hF'.out.1,?_,?_⟩,?_⟩
    ·rw [HF.out,← HE.out];exact hF'.out.2.symm
    ·rw [HF.out];rfl
    ·exact (below_drewN hb1 nq).trans (hb3.mono hb1.size)
   ·have hne:(x != sumTo f f.size)=true:=by simpa using heq
    have HE:Hid (¬ x=sumTo f f.size):=heq
    clear heq
    go_wp2
    go_ret3
    refine ⟨.inr (.inl ⟨n,k,hF'.out.1,?_,_,rfl⟩),hb1.trans ⟨rfl,rfl,rfl,Nat.le_refl _,fun _ _=>rfl⟩⟩
    rw [HF.out]
    intro h
    exact HE.out (hF'.out.2.trans h)
  ·have hNF:Hid (NoFrame s):=noFrame_of_num hN.out hc
   by_cases h6:n≤60000
   ·have hz:(s.size:Int)<(k:Int)+2+(n:Int):=by
     have:¬ k+2+n≤s.size:=fun h=>hc ⟨h6,h⟩
     omega
    clear hc hN
    go_wp2
    go_ret3
    exact ⟨.inr (.inr ⟨hNF.out,_,rfl⟩),hb1⟩
   ·clear hc hN
    go_wp2
    go_ret3
    exact ⟨.inr (.inr ⟨hNF.out,_,rfl⟩),hb1⟩
 ·have hNF:Hid (NoFrame s):=noFrame_of_noNum hn
  clear hn
  go_wp2
  go_ret3
  exact ⟨.inr (.inr ⟨hNF.out,_,rfl⟩),hb1⟩

set_option linter.unusedVariables false
set_option linter.unusedSimpArgs false

abbrev R2:=Int × ByteArray
def R2.val (r:R2):Value:=.agg #[.int .i64 r.1,.string r.2]

theorem numsAt_le {s:ByteArray}:∀ {zs:List Nat} {p q:Nat},NumsAt s p zs q→q≤p+5*zs.length
 | [],p,q,h=>by
  obtain rfl:q=p:=h
  omega
 | z::zs,p,q,h=>by
  obtain ⟨k,hk,hr⟩:=h
  have:=numsAt_le hr
  have:=hk.1.2.1
  simp only [List.length_cons]
  omega
theorem listed_le {s:ByteArray} {zs:List Nat} (h:Listed s zs):s.size≤5*zs.length+5:=by
 obtain ⟨k,hk,_,hz⟩:=h
 have:=numsAt_le hz
 have:=hk.1.2.1
 omega
theorem noList_long {s:ByteArray} (h:20500<s.size):NoList s:=by
 intro zs hL
 have:=listed_le hL
 obtain ⟨_,_,h4,_⟩:=hL
 omega
theorem rdOk_no_long {t:ByteArray} (h:65536<t.size) (e:E3):¬ RdOk t e:=fun k=>by
 have:=k.1
 omega

def ComOk (t:ByteArray):Prop:=∃ zs,Listed t zs∧zs.length % 3=0∧zs.length≤90∧riseB (triples (ofNats zs))=true
def VerOk (t:ByteArray):Prop:=∃ rows,IsProg t rows 0
def EntTOk (t:ByteArray):Prop:=∃ e,RdOk t e
def RecOk (r:R2):Prop:=r.2.size<1000∧(r.1=1∧VerOk r.2∨r.1=2∧EntTOk r.2∨r.1=3∧ComOk r.2)
theorem RecOk.kind {r:R2} (h:RecOk r):1≤r.1∧r.1≤3:=by
 rcases h.2 with ⟨h,_⟩ | ⟨h,_⟩ | ⟨h,_⟩<;>omega
open Classical in
noncomputable def recB (r:R2):Bool:=decide (RecOk r)
open Classical in
theorem recB_yes {r:R2} (h:RecOk r):recB r=true:=decide_eq_true h
open Classical in
theorem recB_no {r:R2} (h:¬ RecOk r):recB r=false:=decide_eq_false h
open Classical in
theorem recB_iff (r:R2):recB r=true↔RecOk r:=by unfold recB;exact decide_eq_true_iff
theorem verOk_c {t:ByteArray} {rows:List (List I3)} {c:Int} (h:IsProg t rows c):VerOk t↔c=0:=by
 constructor
 ·rintro ⟨r',g⟩
  exact (h.same g).2
 ·rintro rfl
  exact ⟨rows,h⟩

def recT (r:R2):ByteArray:=strOfNums [48+r.1]++r.2
theorem recT_size (r:R2):(recT r).size=1+r.2.size:=by
 unfold recT
 rw [ByteArray.size_append,strOfNums_size]
 rfl

def Nxt (t:ByteArray) (r:R2) (n:Nat):Prop:=∃ m k,Framed t m k∧sumAt t k=sumTo (frameText t m k) (frameText t m k).size∧0<m∧r=((bt (frameText t m k) 0:Int) - 48,(frameText t m k).extract 1 m)∧RecOk r∧n=k+2+m
theorem Nxt.only {t:ByteArray} {r r':R2} {n n':Nat} (h:Nxt t r n) (g:Nxt t r' n'):r=r'∧n=n':=by
 obtain ⟨m,k,hf,_,_,rfl,_,rfl⟩:=h
 obtain ⟨m',k',gf,_,_,rfl,_,rfl⟩:=g
 obtain ⟨rfl,rfl⟩:=hf.only gf
 exact ⟨rfl,rfl⟩
theorem Nxt.le {t:ByteArray} {r:R2} {n:Nat} (h:Nxt t r n):3≤n∧n≤t.size:=by
 obtain ⟨m,k,hf,_,h0,_,_,rfl⟩:=h
 exact ⟨by omega,hf.2.2⟩
theorem Nxt.ok {t:ByteArray} {r:R2} {n:Nat} (h:Nxt t r n):RecOk r:=by
 obtain ⟨m,k,hf,_,h0,_,h5,rfl⟩:=h
 exact h5
inductive LogAt (t:ByteArray):Nat→List R2→Nat→Prop
 | stop {a:Nat}:a≤t.size→(∀ r n,¬ Nxt (t.extract a t.size) r n)→LogAt t a [] a
 | more {a:Nat} {r:R2} {n:Nat} {rs:List R2} {e:Nat}:a≤t.size→Nxt (t.extract a t.size) r n→LogAt t (a+n) rs e→LogAt t a (r::rs) e
theorem LogAt.only {t:ByteArray} {a:Nat} {rs:List R2} {e:Nat} (h:LogAt t a rs e):∀ {qs:List R2} {f:Nat},LogAt t a qs f→rs=qs∧e=f:=by
 induction h with
 | stop ha hn =>
  intro qs f g
  cases g with
  | stop=>exact ⟨rfl,rfl⟩
  | more _ hx _=>exact absurd hx (hn _ _)
 | more ha hx hr ih =>
  intro qs f g
  cases g with
  | stop _ hn=>exact absurd hx (hn _ _)
  | more _ gx gr =>
   obtain ⟨rfl,rfl⟩:=hx.only gx
   obtain ⟨rfl,rfl⟩:=ih gr
   exact ⟨rfl,rfl⟩
theorem LogAt.le {t:ByteArray} {a:Nat} {rs:List R2} {e:Nat} (h:LogAt t a rs e):a≤e∧e≤t.size:=by
 induction h with
 | stop ha _=>exact ⟨Nat.le_refl _,ha⟩
 | more ha hx hr ih=>exact ⟨by omega,ih.2⟩
theorem LogAt.ok {t:ByteArray} {a:Nat} {rs:List R2} {e:Nat} (h:LogAt t a rs e):∀ r ∈ rs,RecOk r:=by
 induction h with
 | stop=>intro r hr;cases hr
 | more ha hx hr ih =>
  intro r hm
  rcases List.mem_cons.1 hm with rfl | hm
  ·exact hx.ok
  ·exact ih r hm
theorem LogAt.count {t:ByteArray} {a:Nat} {rs:List R2} {e:Nat} (h:LogAt t a rs e):a+3*rs.length≤e:=by
 induction h with
 | stop=>simp
 | more ha hx hr ih =>
  have:=hx.le
  simp only [List.length_cons]
  omega


theorem l01Read_far (s:ByteArray) (w:World) (hs:s.size≤1048576) :
  Calls Tryz.prog 77 #[.string s] w fun e w'=>ReadSpec s w.heap.size e w'∧Below w.heap.size w w':=by
 obtain ⟨i0,hi,hz0,hz1,hz2⟩:=info_parts info_int
 go_enter Tryz.func77,Tryz.ntmps77
 go_wp2_with fail
 refine (l01Take_any s _ (by omega)).mono ?_
 rintro e w1 ⟨hk,rfl⟩
 rcases hk with ⟨n,k,hn,rfl⟩ | ⟨hn,rfl⟩
 ·have hN:Hid (Num s 0 n k):=hn
  have hks:k≤s.size:=by have:=hn.le;omega
  have hk1:1≤k:=hn.one
  have hk00:((k:Int) == 0)=false:=by simp;omega
  have hnle:n≤999999999:=hn.val_le
  clear hn
  by_cases h4:4096<n
  ·have hNL:Hid (NoList s):=noList_great hN.out h4
   clear hN
   go_wp2
   go_ret2
   exact ⟨.inr ⟨hNL.out,_,rfl⟩,(Below.refl _ _).alloc (Nat.le_refl _) _⟩
  ·go_wp2
   go_loopw [0,6,7] (fun st so si wr=>∃ (j q:Nat) (zs:List Nat) (x:ByteArray),j≤n∧zs.length=j∧q≤s.size∧si=.int .i64 j∧st=.string x∧Hid (x=s.extract q s.size)∧NumsAt s k zs q∧wr.ownsRow w.heap.size 3 1 so j (natCells zs)∧Below w.heap.size w wr) (fun _ _ si _=>n - (intOf si).toNat)
   case atStart=>exact ⟨0,k,[],_,by omega,rfl,hks,rfl,rfl,rfl,rfl,World.ownsRow_lit w #[] 0 (Nat.le_refl _) (by unfold maxLen;omega) rfl,(Below.refl _ _).alloc (Nat.le_refl _) _⟩
   case round =>
    obtain ⟨j,q,zs,x,hj,hzl,hq,rfl,rfl,HX,hat,hr,hbel⟩:=hrel
    have HAT:Hid (NumsAt s k zs q∧zs.length=j):=⟨hat,hzl⟩
    have hxs:x.size=s.size - q:=by rw [HX.out];simp
    have hx6:x.size≤1048576:=by omega
    have hbw:=hbel.size
    clear hat
    by_cases hlt:j<n
    ·go_wp2_with fail
     refine (l01Take_any x _ (by omega)).mono ?_
     rintro e w3 ⟨hk3,rfl⟩
     rcases hk3 with ⟨v,k3,hv,rfl⟩ | ⟨hv,rfl⟩
     ·have hk3x:k3≤x.size:=by have:=hv.le;omega
      have hk31:((k3:Int) == 0)=false:=by have:=hv.one;simp;omega
      have hvs:Num s q v k3:=num_cut hq (by rw [← HX.out];exact hv)
      have HV:Hid (NumsAt s k (zs++[v]) (q+k3)∧q+k3≤s.size):=⟨numsAt_snoc HAT.out.1 hvs,hvs.le⟩
      have HX2:Hid (x.extract k3 x.size=s.extract (q+k3) s.size):=by rw [Hid,HX.out,cut_cut]
      clear hv hvs hxs hzl
      go_wp2_with (at_builtin;refine wpList_append_own _ rfl _ _ 40 rfl w.heap.size 3 i0 (.int .i64 0) 1 8 Tryz.underlying40 hi hz0 hz1 hz2 rfl (by decide) _ _ _ rfl (hr.alloc _) ⟨wr.heap.size,0,none⟩ 1 1 [.int .i64 (v:Int)] rfl rfl (cell_one_new _ _ _) (one_i64 _) ?c3 ?c4 ?c5 ?_)
      case c3=>unfold maxLen;omega
      case c4=>omega
      case c5=>simp;omega
      intro v' w4 hown' hgrow _
      have hb4:Below w.heap.size w w4:=(hbel.alloc hbw _).grown hgrow (by simp;omega) (fun i hi=>(hr.lt _ hi).1)
      have R:w4.ownsRow w.heap.size 3 1 v' (j+1) (natCells (zs++[v])):=by simpa using hown'
      clear hown' hgrow hr
      go_wp2
      go_roundw
      case rel=>exact ⟨j+1,q+k3,zs++[v],_,by omega,by simp [HAT.out.2],HV.out.2,by go_num,rfl,HX2.out,HV.out.1,R,hb4⟩
      case measure=>simp [intOf];omega
     ·have hNL:Hid (NoList s):=noList_stop hN.out HAT.out.1 (by rw [HAT.out.2];exact hlt) (noNum_cut (by rw [← HX.out];exact hv))
      clear hv hr hzl hN HAT hxs
      go_wp2
      go_ret2
      exact ⟨.inr ⟨hNL.out,_,rfl⟩,hbel.alloc hbw _⟩
    ·obtain rfl:j=n:=by omega
     by_cases hqs:q<s.size
     ·have hNL:Hid (NoList s):=noList_more hN.out HAT.out.1 HAT.out.2 (by omega)
      have hemp:x.toList.isEmpty=false:=isEmpty_no (by omega)
      clear hN HAT hr hzl hxs
      go_wp2
      go_ret2
      exact ⟨.inr ⟨hNL.out,_,rfl⟩,hbel⟩
     ·have hL:Hid (Listed s zs):=listed_of hN.out (by omega) HAT.out.1 HAT.out.2 (by omega)
      have hemp:x.toList.isEmpty=true:=isEmpty_yes (by omega)
      rw [← hzl] at hr
      have hr':Hid (wr.ownsRow w.heap.size 3 1 u6 zs.length (natCells zs)):=hr
      clear hN HAT hr hzl hxs
      go_wp2
      go_ret2
      exact ⟨.inl ⟨zs,_,hL.out,rfl,hr'.out⟩,hbel⟩
 ·have hNL:Hid (NoList s):=noList_of_noNum hn
  clear hn
  go_wp2
  go_ret2
  exact ⟨.inr ⟨hNL.out,_,rfl⟩,(Below.refl _ _).alloc (Nat.le_refl _) _⟩
end Go.Proofs.YtdopgkbegjfhjaaGreatDoor
