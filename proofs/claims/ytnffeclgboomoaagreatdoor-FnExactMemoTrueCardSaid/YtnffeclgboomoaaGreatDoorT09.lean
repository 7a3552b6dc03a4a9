/-
  Joined: Ent1, Mk8, CopyG, Ent2, Ent3, Ent4, SizeB.
-/
import Derived.Laws.CopyOwn
import Derived.Laws.Tables
import Derived.Test.YtnffeclgboomoaaGreatDoorT08

namespace Go.Proofs.YtnffeclgboomoaaGreatDoor
set_option maxRecDepth 100000
set_option maxHeartbeats 16000000
open Go.RowKit
set_option linter.unusedVariables false
set_option linter.unusedSimpArgs false

def VN (e:E3):Nat:=e.1.size+e.2.1.length+e.2.2.length
def Xz (es:List E3):Nat:=(es.map VN).sum
def SzC (left:Int) (c:Nat) (r:Int):Prop:=r=-1∨(0≤r∧r=left - c)
theorem Ld (a:Option Addr) (len cap:Nat) (left:Int) (w:World) (hl:len≤maxLen) (h0:0≤left) (h1:left≤2 ^ 20) (h:left - len<0) :
  Calls Tryz.prog 88 #[.slice a len cap,.int .i64 left] w fun e w'=>e=.returned (.int .i64 (-1))∧w=w':=by
 have k:=SH a len cap left w hl h0 h1
 unfold SN at k
 rw [if_pos h] at k
 exact k
theorem Le (a:Option Addr) (len cap:Nat) (left:Int) (w:World) (hl:len≤maxLen) (h0:0≤left) (h1:left≤2 ^ 20) (h:0≤left - len) :
  Calls Tryz.prog 88 #[.slice a len cap,.int .i64 left] w fun e w'=>e=.returned (.int .i64 (left - len))∧w=w':=by
 have k:=SH a len cap left w hl h0 h1
 unfold SN at k
 rw [if_neg (by omega)] at k
 exact k

theorem SI (e:E3) (s:Sl2) (left:Int) (w:World) (h:Z1 w s e) (h0:0≤left) (h1:left≤2 ^ 20) :
  Calls Tryz.prog 39 #[ZR e.1 s,.int .i64 left] w fun x w'=>(∃ r,x=.returned (.int .i64 r)∧SzC left (VN e) r)∧Below w.heap.size w w':=by
 obtain ⟨⟨hk,_⟩,hB,hF⟩:=h
 have l1:=hB.1
 have l2:=hF.1.1
 have q1:=Nat.le_trans hB.2.1 hB.2.2.1
 have q2:=Nat.le_trans hF.1.2.1 hF.1.2.2.1
 clear hB hF
 obtain ⟨k,bs,zs⟩:=e
 obtain ⟨⟨a1,n1,c1⟩,⟨a2,n2,c2⟩⟩:=s
 unfold ZR VN
 simp only at *
 rw [l1,l2]
 unfold maxLen at hk
 have hb:Below w.heap.size w (w.alloc (.cells #[.string k,.slice a1 n1 c1,.slice a2 n2 c2] 76)):=by go_grown
 have hw1:IntKind.i64.wrap (left - (k.size:Int))=left - (k.size:Int):=by rw [IntKind.wrap_i64];omega
 by_cases g0:left - (k.size:Int)<0
 ·go_enter Tryz.func39,Tryz.ntmps39
  go_wp2
  go_ret
  exact ⟨⟨_,rfl,.inl rfl⟩,hb⟩
 by_cases g1:left - (k.size:Int) - n1<0
 ·have kB:=fun W=>Ld a1 n1 c1 (left - (k.size:Int)) W q1 (by omega) (by omega) g1
  go_enter Tryz.func39,Tryz.ntmps39
  go_wp2_with fail
  refine (kB _).mono ?_
  rintro x w1 ⟨rfl,rfl⟩
  go_wp2
  go_ret
  exact ⟨⟨_,rfl,.inl rfl⟩,hb⟩
 have kB:=fun W=>Le a1 n1 c1 (left - (k.size:Int)) W q1 (by omega) (by omega) (by omega)
 by_cases g2:left - (k.size:Int) - n1 - n2<0
 ·have kC:=fun W=>Lf a2 n2 c2 (left - (k.size:Int) - n1) W q2 (by omega) (by omega) g2
  have hn1:¬ left - (k.size:Int) - n1<0:=g1
  go_enter Tryz.func39,Tryz.ntmps39
  go_wp2_with fail
  refine (kB _).mono ?_
  rintro x w1 ⟨rfl,rfl⟩
  go_wp2_with fail
  refine (kC _).mono ?_
  rintro x w1 ⟨rfl,rfl⟩
  go_wp2
  go_ret
  exact ⟨⟨_,rfl,.inl rfl⟩,hb⟩
 have kC:=fun W=>Lg a2 n2 c2 (left - (k.size:Int) - n1) W q2 (by omega) (by omega) (by omega)
 have hr:SzC left (k.size+n1+n2) (left - (k.size:Int) - n1 - n2):=.inr ⟨by omega,by omega⟩
 go_enter Tryz.func39,Tryz.ntmps39
 go_wp2_with fail
 refine (kB _).mono ?_
 rintro x w1 ⟨rfl,rfl⟩
 go_wp2_with fail
 refine (kC _).mono ?_
 rintro x w1 ⟨rfl,rfl⟩
 go_wp2
 go_ret
 exact ⟨⟨_,rfl,hr⟩,hb⟩

theorem Rf {es:List E3} {t:Nat} (h:t<es.length):Xz (es.take (t+1))=Xz (es.take t)+VN (es.getD t e3d):=by
 unfold Xz
 have e:es.take (t+1)=es.take t++[es.getD t e3d]:=by
  rw [List.take_add_one,List.getElem?_eq_getElem h,List.getD,List.getElem?_eq_getElem h]
  rfl
 rw [e,List.map_append,List.sum_append]
 simp

theorem PZ (a:Option Addr) (len cap:Nat) (es:List E3) (left:Int) (w:World) (h:Yo w a len cap es) (h0:0≤left) (h1:left≤2 ^ 20) :
  Calls Tryz.prog 86 #[.slice a len cap,.int .i64 left] w fun x w'=>(∃ r,x=.returned (.int .i64 r)∧SzC left (len+Xz es) r)∧Below w.heap.size w w':=by
 obtain ⟨hl,hlc,hcm,hcase⟩:=h
 unfold maxLen at hcm
 by_cases g0:left - (len:Int)<0
 ·go_enter Tryz.func86,Tryz.ntmps86
  go_wp2
  go_ret
  exact ⟨⟨_,rfl,.inl rfl⟩,Below.refl _ _⟩
 go_enter Tryz.func86,Tryz.ntmps86
 go_wp2_with fail
 go_loopw [1,5] (fun sl si wr=>∃ (k:Nat) (l:Int),k≤len∧0≤l∧l≤1048576∧Hid (l=left - len - Xz (es.take k))∧si=.int .i64 k∧sl=.int .i64 l∧Below w.heap.size w wr) (fun _ si _=>len - (intOf si).toNat)
 case atStart=>exact ⟨0,left - len,by omega,by omega,by omega,by rw [Hid];simp [Xz],rfl,rfl,Below.refl _ _⟩
 case round =>
  obtain ⟨k,l,hk,hl0,hl2,hl1,rfl,rfl,bw⟩:=hrel
  by_cases hlt:k<len
  ·rcases hcase with e0 | ⟨b,off,rfl,hblt,hcell⟩
   ·omega
   obtain ⟨s,c0,c1,c2,hm⟩:=hcell k hlt
   have hct:Hid (Xz (es.take (k+1))=Xz (es.take k)+VN (es.getD k e3d)):=Rf (es:=es) (t:=k) (by omega)
   have kE:=fun W (hb:Below w.heap.size w W)=>SI (es.getD k e3d) s l W (hm.below hb) hl0 hl2
   replace c0:=ZE bw c0
   replace c1:=ZE bw c1
   replace c2:=ZE bw c2
   clear hcell hm
   generalize es.getD k e3d=x at *
   generalize VN x=cx at *
   obtain ⟨xk,xb,xz⟩:=x
   obtain ⟨⟨a1,n1,d1⟩,⟨a2,n2,d2⟩⟩:=s
   unfold ZR at kE
   simp only at c0 c1 c2 kE
   have hlt2:(k:Int)<(len:Int):=by omega
   have hk0:(0:Int)≤(k:Int):=by omega
   go_wp2_with fail
   refine (kE _ bw).mono ?_
   rintro x w1 ⟨⟨r,rfl,hr⟩,hb⟩
   replace bw:=Zh bw hb
   clear hb c0 c1 c2 kE
   rcases hr with rfl | ⟨hr0,hr1⟩
   ·go_wp2
    go_ret
    exact ⟨⟨_,rfl,.inl rfl⟩,bw⟩
   have hn:¬ r<0:=by omega
   have HR:Hid (r=left - len - Xz (es.take (k+1))):=by rw [Hid,hct.out,hr1,hl1.out];omega
   have hr2:r≤1048576:=by omega
   clear hr1 hct hl1
   go_wp2
   go_roundw
   case rel=>exact ⟨k+1,r,by omega,hr0,hr2,HR,by go_num,rfl,bw⟩
   case measure=>simp [intOf];omega
  obtain rfl:k=len:=by omega
  have e9:es.take k=es:=List.take_of_length_le (by omega)
  rw [e9] at hl1
  clear e9
  have hfin:SzC left (k+Xz es) l:=.inr ⟨hl0,by rw [hl1.out];omega⟩
  clear hl1
  go_wp2
  go_ret
  exact ⟨⟨_,rfl,hfin⟩,bw⟩

theorem Lh (a:Option Addr) (len cap:Nat) (es:List E3) (left:Int) (w:World) (h:Yo w a len cap es) (h0:0≤left) (h1:left≤2 ^ 20) :
  Calls Tryz.prog 37 #[.agg #[.slice a len cap],.int .i64 left] w fun x w'=>(∃ r,x=.returned (.int .i64 r)∧SzC left (len+Xz es) r)∧Below w.heap.size w w':=by
 have kE:=fun W (hb:Below w.heap.size w W)=>PZ a len cap es left W (h.below hb) h0 h1
 have bw:Below w.heap.size w (w.alloc (.cells #[.slice a len cap] 70)):=by go_grown
 go_enter Tryz.func37,Tryz.ntmps37
 go_wp2_with fail
 refine (kE _ bw).mono ?_
 rintro x w1 ⟨⟨r,rfl,hr⟩,hb⟩
 replace bw:=Zh bw hb
 clear hb kE
 have hr':=hr
 rcases hr with rfl | ⟨hr0,hr1⟩
 ·go_wp2
  go_ret
  exact ⟨⟨_,rfl,hr'⟩,bw⟩
 have hn:¬ r<0:=by omega
 clear hr1
 go_wp2
 go_ret
 exact ⟨⟨_,rfl,hr'⟩,bw⟩
theorem GE {es:List E3} {t:Nat} (h:t<es.length):VN (es.getD t e3d)≤Xz es:=by
 have h1:=Rf h
 have e2:Xz es=Xz (es.take (t+1))+Xz (es.drop (t+1)):=by
  unfold Xz
  rw [← List.sum_append,← List.map_append,List.take_append_drop]
 omega


theorem eq8 (a a':Option Addr) (len cap cap':Nat) (xs:List Int) (w:World) (h:Z2 .i64 w a len cap xs) (h':Z2 .i64 w a' len cap' xs) :
  Calls Tryz.prog 94 #[.slice a len cap,.slice a' len cap'] w fun e w'=>e=.returned (.bool true)∧Below w.heap.size w w':=by
 refine (Nj a a' len cap cap' xs w h h').mono ?_
 rintro e w' ⟨rfl,d,rfl⟩
 exact ⟨rfl,⟨rfl,rfl,rfl,Nat.le_refl _,fun _ _=>rfl⟩⟩
theorem to8 (a:Option Addr) (len cap:Nat) (zs:List Int) (w:World) (h:Z2 .i64 w a len cap zs) (hlen:len≤1048576) :
  Calls Tryz.prog 93 #[.slice a len cap] w fun e w'=>e=.returned (.slice (some ⟨w.heap.size,0,none⟩) len len) ∧
   (∃ g,g=w.heap.size∧w'.ownsRow w.heap.size 3 1 (.slice (some ⟨g,0,none⟩) len len) len (zs.map (Value.int .i64)))∧Below w.heap.size w w':=by
 refine (Lk a len cap zs w h hlen).mono ?_
 rintro e w' ⟨rfl,h1,h2⟩
 exact ⟨rfl,⟨_,rfl,h1⟩,h2⟩


theorem Zi {g:Nat} (w:World) (t:Nat) (cs:List Value) (h:g=w.heap.size):Blk (w.alloc (.cells cs.toArray t)) g t cs:=by
 subst h
 exact Blk.new w t cs
theorem Zg {g t:Nat} {cs:List Value} {w:World} (o:Obj) (h:Blk w g t cs):Blk (w.alloc o) g t cs:=(Below.heap_alloc w o g h.lt).trans h
theorem Wp (w:World) (g:Nat) (cs:Array Value):w.grownBy (w.setRow g cs) (some g):=
 ⟨rfl,rfl,rfl,by simp [World.setRow],fun k _ hk=>setRow_other w g k cs (fun e=>hk (by rw [e]))⟩

theorem ZP {P:Program} {ops:Array Oper} {o:Oper} {a:Act} {w:World} {K:Act→World→Prop} {Q:Exit→Act→World→Prop} {E:Prop} (hgd:o.guard=none) (d s:Operand) (dT sT:TypeId)
  (ho:o.op=.call { callee:=.builtin .copy,args:=#[d,s],argTypes:=#[dT,sT] }) (elem:TypeId) (hu:P.underlying dT=some (.slice elem)) (hsz:(P.info? elem).map (·.size)=some 1)
  (g off:Nat) (ad:Addr) (dLen dCap sLen sCap:Nat) (hd:a.eval d=.slice (some ⟨g,off,none⟩) dLen dCap) (hs:a.eval s=.slice (some ad) sLen sCap)
  (cur:List Value) (t:TypeId) (hg:Blk w g t cur) (cs:List Value) (r:Value) (hr:goInt cs.length=r) (hn:cs.length=Nat.min sLen dLen)
  (hsrc:∀ j v,cs[j]?=some v→w.cell? (ad.add j)=some v)
  (hfit:off+cs.length≤cur.length) (h1:∀ v ∈ cs,v.oneCell'=true)
  (h:∀ w',Hid (Blk w' g t (splice cur off cs))→w.grownBy w' (some g)→K (a.put o.dst r) w') :
  if Region.wanted o (yielded ops a.tmps)=true then Oper.wp P o a w K Q else E:=by
 have hw:Region.wanted o (yielded ops a.tmps)=true:=by simp [Region.wanted,hgd]
 subst hr
 rw [if_pos hw]
 have hrun:=run_copy_row (P:=P) w dT sT o.type elem g off dLen dCap ad sLen sCap cur.toArray t cs hu hsz hg hn hsrc (by simpa using hfit) h1
 unfold Oper.wp
 simp [execOp,ho,resolve,invoke,builtin,hd,hs,hrun,Result.andThen]
 refine h _ (show _=_ by simpa [splice] using setRow_heap w g _ _ t _ hg) (Wp _ _ _)

theorem Blk.kept {w w':World} {g t:Nat} {cs:List Value} {r:Option Nat} (h:Blk w g t cs) (hg:w.grownBy w' r) (hr:r≠some g):Blk w' g t cs:=(hg.block g h.lt (Ne.symm hr)).trans h
theorem Y5 {w:World} {g g' t t':Nat} {cs cs':List Value} (h:Blk w g t cs) (h':Blk w g' t' cs') (ht:t≠t'):g≠g':=by
 rintro rfl
 unfold Blk at h h'
 rw [h] at h'
 simp at h'
 exact ht h'.2
theorem Hp {P:Program} {w:World} {g t:Nat} {cs:List Value} (ty:TypeId) (d:TypeDesc) (h:Blk w g t cs) (hu:P.underlying ty=some d) (hd:(match d with | .struct _ | .array _ _=>true | _=>false)=true) (hi:(P.info? ty).map (·.size)=some cs.length) :
  (loadVar ty ⟨g,0,none⟩).run P w=.ok (.agg cs.toArray) w:=run_loadVar_row w g t ty cs.toArray (0,0) d h hu hd (by simpa using hi)
theorem UN {w:World} {g t:Nat} {cs:List Value} (vs:List Value) (h:Blk w g t cs):Blk (w.setRow g vs.toArray) g t vs:=setRow_heap w g _ _ t _ h

section
variable {P : Program} {ops : Array Oper} {rest : List Oper} {o : Oper} {a : Act} {w : World} {Q : Exit → Act → World → Prop}
theorem Zc (hgd:o.guard=none) (ty:TypeId) (x:Operand) (ho:o.op=.load ty x) (g:Nat) (hx:a.eval x=.pointer (some ⟨g,0,none⟩)) {t:Nat} {cs:List Value} (hB:Blk w g t cs) (d:TypeDesc)
  (hu:P.underlying ty=some d) (hd:(match d with | .struct _ | .array _ _=>true | _=>false)=true) (hi:(P.info? ty).map (·.size)=some cs.length)
  (h:wpList P ops Q rest (a.put o.dst (.agg cs.toArray)) w):wpList P ops Q (o::rest) a w:=
 wpList_load_row hgd ty x ho g hx t cs.toArray (0,0) d hB hu hd (by simpa using hi) h
theorem Zf (hgd:o.guard=none) (ty:TypeId) (x y:Operand) (ho:o.op=.store ty x y) (g:Nat) (vs:List Value) (hx:a.eval x=.pointer (some ⟨g,0,none⟩)) (hy:a.eval y=.agg vs.toArray) {t:Nat} {cs:List Value} (hB:Blk w g t cs)
  (hi:(P.info? ty).map (·.size)=some vs.length) (hl:cs.length=vs.length) (h1:vs.all (·.oneCell')=true)
  (h:∀ w',Hid (Blk w' g t vs)→w.grownBy w' (some g)→wpList P ops Q rest (a.put o.dst undef) w'):wpList P ops Q (o::rest) a w:=
 wpList_store_row hgd ty x y ho g vs.toArray hx hy t cs.toArray hB (by simpa using hi) (by simpa using hl) (by simpa using h1) (h _ (UN vs hB) (Wp _ _ _))
end

section
variable {P : Program} {fn : Func} {p q r : Tmp} {ty : TypeId}
theorem Vz (h:fn.results=#[.cell p ty]) (tmps:Array Value) (w:World) (g t:Nat) (cs:List Value) (d:TypeDesc) (hp:tmps.getD p undef=.pointer (some ⟨g,0,none⟩)) (hB:Blk w g t cs)
  (hu:P.underlying ty=some d) (hd:(match d with | .struct _ | .array _ _=>true | _=>false)=true) (hi:(P.info? ty).map (·.size)=some cs.length) :
  (results fn tmps).run P w=.ok (.agg cs.toArray) w:=results_cell_row h tmps w g t cs.toArray (0,0) d hp hB hu hd (by simpa using hi)
theorem Zp (h:fn.results=#[.cell p ty,.tmp q]) (tmps:Array Value) (w:World) (g t:Nat) (cs:List Value) (d:TypeDesc) (hp:tmps.getD p undef=.pointer (some ⟨g,0,none⟩)) (hB:Blk w g t cs)
  (hu:P.underlying ty=some d) (hd:(match d with | .struct _ | .array _ _=>true | _=>false)=true) (hi:(P.info? ty).map (·.size)=some cs.length) :
  (results fn tmps).run P w=.ok (.tuple #[.agg cs.toArray,tmps.getD q undef]) w:=by
 have hp':tmps[p]?.getD undef=.pointer (some ⟨g,0,none⟩):=by simpa using hp
 simp [results,h,hp',asAddr,Hp ty d hB hu hd hi]
end


def XH (w:World) (B:Nat) (vb vf:Value) (e:E3):Prop:=w.ownsRow B 127 3 vb e.2.1.length (Zm e.2.1)∧w.ownsRow B 3 1 vf e.2.2.length (e.2.2.map (Value.int .i64))
theorem XH.below {w w':World} {B:Nat} {vb vf:Value} {e:E3} (h:XH w B vb vf e) (hb:Below w.heap.size w w'):XH w' B vb vf e:=⟨Yi h.1 hb,Yi h.2 hb⟩
theorem XH.lower {w:World} {B B':Nat} {vb vf:Value} {e:E3} (h:XH w B vb vf e) (hB:B'≤B):XH w B' vb vf e:=⟨Yl h.1 hB,Yl h.2 hB⟩
theorem XH.slices {w:World} {B:Nat} {vb vf:Value} {e:E3} (h:XH w B vb vf e):∃ s:Sl2,vb=.slice s.1.1 s.1.2.1 s.1.2.2∧vf=.slice s.2.1 s.2.2.1 s.2.2.2:=by
 obtain ⟨a,c,e1⟩:=Ye h.1
 obtain ⟨a',c',e2⟩:=Ye h.2
 exact ⟨((a,_,c),(a',_,c')),e1,e2⟩
theorem Zl.of_ownB9 {w:World} {B:Nat} {v:Value} {xs:List I3} (h:w.ownsRow B 127 3 v xs.length (Zm xs)) (hf:∀ x ∈ xs,I3.fits x):∃ a cap,v=.slice a xs.length cap∧Zl w a xs.length cap xs:=by
 rcases h.2 with ⟨hv,h0⟩ | ⟨g,cap,cur,hv,_⟩
 ·obtain rfl:xs=[]:=List.eq_nil_of_length_eq_zero h0
  exact ⟨none,0,hv,rfl,Nat.le_refl _,by unfold maxLen;omega,by simp,.inl rfl⟩
 subst hv
 exact ⟨_,_,rfl,Zl.of_owns h rfl hf rfl⟩
def E3.fits (e:E3):Prop:=e.1.size≤maxLen∧(∀ x ∈ e.2.1,I3.fits x)∧∀ z ∈ e.2.2,(Lit.int .i64 z).wf=true
theorem Z1.fits {w:World} {s:Sl2} {e:E3} (h:Z1 w s e):e.fits:=⟨h.1.1,h.2.1.2.2.2.1,h.2.2.2⟩
theorem NU {w:World} {B e s n:Nat} {a:Option Addr} {m c:Nat} {xs:List Value} (h:w.ownsRow B e s (.slice a m c) n xs):a=none→c=0:=by
 rcases h.2 with ⟨hv,_⟩ | ⟨g,cap,cur,hv,_⟩
 ·injection hv with e1 e2 e3
  exact fun _=>e3
 injection hv with e1 e2 e3
 intro ha
 rw [ha] at e1
 cases e1
theorem XH.mem {w:World} {B:Nat} {s:Sl2} {e:E3} (h:XH w B (.slice s.1.1 s.1.2.1 s.1.2.2) (.slice s.2.1 s.2.2.1 s.2.2.2) e) (hf:e.fits):Z1 w s e:=by
 obtain ⟨⟨a1,n1,c1⟩,⟨a2,n2,c2⟩⟩:=s
 obtain ⟨h1,h2⟩:=h
 simp only at h1 h2
 refine ⟨⟨hf.1,NU h1,NU h2⟩,?_,?_,hf.2.2⟩
 ·obtain ⟨a,cap,hv,hI⟩:=Zl.of_ownB9 h1 hf.2.1
  injection hv with e1 e2 e3
  subst e1 e2 e3
  exact hI
 obtain ⟨a,cap,hv⟩:=Ye h2
 injection hv with e1 e2 e3
 subst e1 e2 e3
 exact QI h2

theorem Mj (a:Option Addr) (len cap:Nat) (zs:List Int) (w:World) (h:Z2 .i64 w a len cap zs) (hlen:len≤1048576) :
  Calls Tryz.prog 93 #[.slice a len cap] w fun e w'=>(∃ g c,e=.returned (.slice g len c)∧w'.ownsRow w.heap.size 3 1 (.slice g len c) len (zs.map (Value.int .i64)))∧Below w.heap.size w w':=by
 refine (to8 a len cap zs w h hlen).mono ?_
 rintro e w' ⟨rfl,⟨g,rfl,q⟩,hb⟩
 exact ⟨⟨_,_,rfl,q⟩,hb⟩

theorem SK (e:E3) (s:Sl2) (w:World) (h:Z1 w s e) (h1:e.2.1.length≤1048576) (h2:e.2.2.length≤1048576) :
  Calls Tryz.prog 41 #[ZR e.1 s] w fun x w'=>(∃ s',x=.returned (ZR e.1 s')∧XH w' w.heap.size (.slice s'.1.1 s'.1.2.1 s'.1.2.2) (.slice s'.2.1 s'.2.2.1 s'.2.2.2) e)∧Below w.heap.size w w':=by
 obtain ⟨⟨hk,_⟩,hB,hF,hfw⟩:=h
 have l1:=hB.1
 have l2:=hF.1
 obtain ⟨k,bs,zs⟩:=e
 obtain ⟨⟨a1,n1,c1⟩,⟨a2,n2,c2⟩⟩:=s
 unfold ZR
 simp only at *
 rw [l1] at h1
 rw [l2] at h2
 have kB:=fun W (hb:Below w.heap.size w W)=>Mi a1 n1 c1 bs W (hB.below hb) h1
 have kF:=fun W (hb:Below w.heap.size w W)=>Mj a2 n2 c2 zs W (hF.below hb) h2
 clear hB hF
 go_enter Tryz.func41,Tryz.ntmps41
 have bw:Below w.heap.size w (((w.alloc (.cells #[.string k,.slice a1 n1 c1,.slice a2 n2 c2] 76)).alloc (.cells #[.string ⟨#[]⟩,.slice none 0 0,.slice none 0 0] 45)).alloc (.cells #[.string k,.slice none 0 0,.slice none 0 0] 45)):=by go_grown
 have pA:Blk (((w.alloc (.cells #[.string k,.slice a1 n1 c1,.slice a2 n2 c2] 76)).alloc (.cells #[.string ⟨#[]⟩,.slice none 0 0,.slice none 0 0] 45)).alloc (.cells #[.string k,.slice none 0 0,.slice none 0 0] 45)) w.heap.size 76 [.string k,.slice a1 n1 c1,.slice a2 n2 c2]:=Zg _ (Zg _ (Zi _ _ _ rfl))
 have pR:Blk (((w.alloc (.cells #[.string k,.slice a1 n1 c1,.slice a2 n2 c2] 76)).alloc (.cells #[.string ⟨#[]⟩,.slice none 0 0,.slice none 0 0] 45)).alloc (.cells #[.string k,.slice none 0 0,.slice none 0 0] 45)) (w.heap.size+1) 45 [.string ⟨#[]⟩,.slice none 0 0,.slice none 0 0]:=Zg _ (Zi _ _ _ (by simp))
 have pO:Blk (((w.alloc (.cells #[.string k,.slice a1 n1 c1,.slice a2 n2 c2] 76)).alloc (.cells #[.string ⟨#[]⟩,.slice none 0 0,.slice none 0 0] 45)).alloc (.cells #[.string k,.slice none 0 0,.slice none 0 0] 45)) (w.heap.size+1+1) 45 [.string k,.slice none 0 0,.slice none 0 0]:=Zi _ _ _ (by simp)
 go_wp2_with fail
 refine (kB _ bw).mono ?_
 generalize (((w.alloc (.cells #[.string k,.slice a1 n1 c1,.slice a2 n2 c2] 76)).alloc (.cells #[.string ⟨#[]⟩,.slice none 0 0,.slice none 0 0] 45)).alloc (.cells #[.string k,.slice none 0 0,.slice none 0 0] 45))=U at *
 rintro x w1 ⟨rfl,⟨cs,rfl,qB⟩,hb⟩
 have hU:w.heap.size+1+1<U.heap.size:=pO.lt
 replace bw:=Zh bw hb
 replace pA:=pA.below hb
 replace pR:=pR.below hb
 replace pO:=pO.below hb
 clear hb kB
 have u1:=pO.cell 1
 have f1:=pO.frozen 1
 simp only [List.getElem?_cons_zero,List.getElem?_cons_succ] at u1
 replace qB:=Yl qB (show w.heap.size+1+1+1≤U.heap.size by omega)
 clear hU
 generalize U.heap.size=gb at *
 replace qB:=ownsRow_setCell_below qB (a:=⟨w.heap.size+1+1,1,none⟩) (show w.heap.size+1+1<w.heap.size+1+1+1 by omega) (.slice (some ⟨gb,0,none⟩) n1 n1)
 replace bw:=bw.setCell (p:=⟨w.heap.size+1+1,1,none⟩) (show w.heap.size≤w.heap.size+1+1 by omega) (.slice (some ⟨gb,0,none⟩) n1 n1)
 replace pA:=pA.off ⟨w.heap.size+1+1,1,none⟩ (.slice (some ⟨gb,0,none⟩) n1 n1) (by simp;omega)
 replace pR:=pR.off ⟨w.heap.size+1+1,1,none⟩ (.slice (some ⟨gb,0,none⟩) n1 n1) (by simp)
 replace pO:=pO.set 1 (.slice (some ⟨gb,0,none⟩) n1 n1)
 simp only [List.set_cons_zero,List.set_cons_succ] at pO
 have y2:=pA.cell 2
 simp only [List.getElem?_cons_zero,List.getElem?_cons_succ] at y2
 go_wp2_with fail
 refine (kF _ bw).mono ?_
 generalize (w1.setCell ⟨w.heap.size+1+1,1,none⟩ (.slice (some ⟨gb,0,none⟩) n1 n1))=U2 at *
 rintro x w2 ⟨⟨ga,gc,rfl,qF⟩,hb⟩
 have hU:w.heap.size+1+1<U2.heap.size:=pO.lt
 replace bw:=Zh bw hb
 replace pR:=pR.below hb
 replace pO:=pO.below hb
 replace qB:=Yi qB hb
 clear hb kF y2 u1 f1 pA
 have u2:=pO.cell 2
 have f2:=pO.frozen 2
 simp only [List.getElem?_cons_zero,List.getElem?_cons_succ] at u2
 replace qF:=Yl qF (show w.heap.size+1+1+1≤U2.heap.size by omega)
 clear hU
 replace qB:=ownsRow_setCell_below qB (a:=⟨w.heap.size+1+1,2,none⟩) (show w.heap.size+1+1<w.heap.size+1+1+1 by omega) (.slice ga n2 gc)
 replace qF:=ownsRow_setCell_below qF (a:=⟨w.heap.size+1+1,2,none⟩) (show w.heap.size+1+1<w.heap.size+1+1+1 by omega) (.slice ga n2 gc)
 replace bw:=bw.setCell (p:=⟨w.heap.size+1+1,2,none⟩) (show w.heap.size≤w.heap.size+1+1 by omega) (.slice ga n2 gc)
 replace pR:=pR.off ⟨w.heap.size+1+1,2,none⟩ (.slice ga n2 gc) (by simp)
 replace pO:=pO.set 2 (.slice ga n2 gc)
 simp only [List.set_cons_zero,List.set_cons_succ] at pO
 have o0:=pO.cell 0
 have o1:=pO.cell 1
 have o2:=pO.cell 2
 have r0:=pR.cell 0
 have r1:=pR.cell 1
 have r2:=pR.cell 2
 have fr0:=pR.frozen 0
 have fr1:=pR.frozen 1
 have fr2:=pR.frozen 2
 simp only [List.getElem?_cons_zero,List.getElem?_cons_succ] at o0 o1 o2 r0 r1 r2
 clear pO
 have pZ:=((pR.set 0 (.string k)).set 1 (.slice (some ⟨gb,0,none⟩) n1 n1)).set 2 (.slice ga n2 gc)
 simp only [List.set_cons_zero,List.set_cons_succ] at pZ
 have z0:=pZ.cell 0
 have z1:=pZ.cell 1
 have z2:=pZ.cell 2
 simp only [List.getElem?_cons_zero,List.getElem?_cons_succ] at z0 z1 z2
 have bz:=((bw.setCell (p:=⟨w.heap.size+1,0,none⟩) (show w.heap.size≤w.heap.size+1 by omega) (.string k)).setCell (p:=⟨w.heap.size+1,1,none⟩) (show w.heap.size≤w.heap.size+1 by omega) (.slice (some ⟨gb,0,none⟩) n1 n1)).setCell (p:=⟨w.heap.size+1,2,none⟩) (show w.heap.size≤w.heap.size+1 by omega) (.slice ga n2 gc)
 replace qB:=ownsRow_setCell_below (ownsRow_setCell_below (ownsRow_setCell_below qB (a:=⟨w.heap.size+1,0,none⟩) (show w.heap.size+1<w.heap.size+1+1+1 by omega) (.string k)) (a:=⟨w.heap.size+1,1,none⟩) (show w.heap.size+1<w.heap.size+1+1+1 by omega) (.slice (some ⟨gb,0,none⟩) n1 n1)) (a:=⟨w.heap.size+1,2,none⟩) (show w.heap.size+1<w.heap.size+1+1+1 by omega) (.slice ga n2 gc)
 replace qF:=ownsRow_setCell_below (ownsRow_setCell_below (ownsRow_setCell_below qF (a:=⟨w.heap.size+1,0,none⟩) (show w.heap.size+1<w.heap.size+1+1+1 by omega) (.string k)) (a:=⟨w.heap.size+1,1,none⟩) (show w.heap.size+1<w.heap.size+1+1+1 by omega) (.slice (some ⟨gb,0,none⟩) n1 n1)) (a:=⟨w.heap.size+1,2,none⟩) (show w.heap.size+1<w.heap.size+1+1+1 by omega) (.slice ga n2 gc)
 clear pR pZ bw
 go_wp2
 refine bodyPost_ret (by simp [results,Tryz.results41,go_sem,z0,z1,z2];try rfl) rfl ?_
 refine ⟨⟨((some ⟨gb,0,none⟩,n1,n1),(ga,n2,gc)),rfl,?_,?_⟩,bz⟩
 ·rw [l1]
  exact Yl qB (by omega)
 rw [l2]
 exact Yl qF (by omega)


theorem Ru:(Tryz.prog.info? 45).map (fun i=>(i.zero,i.size,i.bytes))=some (some (.agg #[.string ⟨#[]⟩,.slice none 0 0,.slice none 0 0]),3,64):=by kernel_rfl

def Gy (u v:Value):Prop:=u.ownBlock=none∨u.ownBlock≠v.ownBlock
def TX (w:World) (B k:Nat) (cs:List Value) (es:List E3):Prop:=
 (∀ t,t<k→cs[t*3]?=some (.string (es.getD t e3d).1)∧XH w B (cs.getD (t*3+1) undef) (cs.getD (t*3+2) undef) (es.getD t e3d)) ∧
 ∀ t t',t<k→t'<k→t≠t'→Gy (cs.getD (t*3+1) undef) (cs.getD (t'*3+1) undef)∧Gy (cs.getD (t*3+2) undef) (cs.getD (t'*3+2) undef)
theorem XH.setP {w:World} {B P j:Nat} {vb vf:Value} {e:E3} (h:XH w B vb vf e) (h1:vb.ownBlock≠some P) (h2:vf.ownBlock≠some P) (u:Value):XH (w.setCell ⟨P,j,none⟩ u) B vb vf e:=
 ⟨ownsRow_setCell_other h.1 h1 u,ownsRow_setCell_other h.2 h2 u⟩
theorem Tb {w:World} {B B' e s n:Nat} {u v:Value} {xs:List Value} (hu:w.ownsRow B e s u n xs) (hv:∀ x,v.ownBlock=some x→w.heap.size≤x):Gy u v∧Gy v u:=by
 constructor
 ·rcases hb:u.ownBlock with _ | x
  ·exact .inl hb
  refine .inr ?_
  rw [hb]
  intro h
  have:=(hu.lt x hb).2
  have:=hv x h.symm
  omega
 rcases hb:v.ownBlock with _ | x
 ·exact .inl hb
 refine .inr ?_
 rw [hb]
 intro h
 have:=(hu.lt x h.symm).2
 have:=hv x hb
 omega
theorem KE {cs:List Value} {i:Nat} {a b c:Value} (h:i+2<cs.length) :
  (∀ j,j<i∨i+2<j→(((cs.set i a).set (i+1) b).set (i+2) c)[j]?=cs[j]?)∧(((cs.set i a).set (i+1) b).set (i+2) c)[i]?=some a∧(((cs.set i a).set (i+1) b).set (i+2) c)[i+1]?=some b∧(((cs.set i a).set (i+1) b).set (i+2) c)[i+2]?=some c:=by
 refine ⟨fun j hj=>?_,?_,?_,?_⟩
 ·rw [List.getElem?_set_ne (by omega),List.getElem?_set_ne (by omega),List.getElem?_set_ne (by omega)]
 ·rw [List.getElem?_set_ne (by omega),List.getElem?_set_ne (by omega),List.getElem?_set_self (by omega)]
 ·rw [List.getElem?_set_ne (by omega),List.getElem?_set_self (by simp;omega)]
 rw [List.getElem?_set_self (by simp;omega)]
theorem TX.put {w w':World} {B P k:Nat} {cs:List Value} {es:List E3} {vb vf:Value} (h:TX w B k cs es) (hb:Below w.heap.size w w') (hk:k*3+2<cs.length)
  (hn:XH w' w.heap.size vb vf (es.getD k e3d)) (hB:B≤w.heap.size) (hP:P<w.heap.size) (hPn:∀ t,t<k→(cs.getD (t*3+1) undef).ownBlock≠some P∧(cs.getD (t*3+2) undef).ownBlock≠some P) :
  TX (((w'.setCell ⟨P,k*3,none⟩ (.string (es.getD k e3d).1)).setCell ⟨P,k*3+1,none⟩ vb).setCell ⟨P,k*3+2,none⟩ vf) B (k+1) (((cs.set (k*3) (.string (es.getD k e3d).1)).set (k*3+1) vb).set (k*3+2) vf) es:=by
 obtain ⟨g1,g2,g3,g4⟩:=KE (a:=.string (es.getD k e3d).1) (b:=vb) (c:=vf) hk
 generalize ((cs.set (k*3) (.string (es.getD k e3d).1)).set (k*3+1) vb).set (k*3+2) vf=ds at *
 have old:∀ t,t<k→ds[t*3]?=cs[t*3]?∧ds.getD (t*3+1) undef=cs.getD (t*3+1) undef∧ds.getD (t*3+2) undef=cs.getD (t*3+2) undef:=fun t ht =>
  ⟨g1 _ (by omega),by rw [List.getD,List.getD,g1 _ (by omega)],by rw [List.getD,List.getD,g1 _ (by omega)]⟩
 have nb:ds.getD (k*3+1) undef=vb:=by rw [List.getD,g3];rfl
 have nf:ds.getD (k*3+2) undef=vf:=by rw [List.getD,g4];rfl
 have lb:∀ x,vb.ownBlock=some x→w.heap.size≤x:=fun x hx=>(hn.1.lt x hx).1
 have lf:∀ x,vf.ownBlock=some x→w.heap.size≤x:=fun x hx=>(hn.2.lt x hx).1
 have pb:vb.ownBlock≠some P:=fun e=>by have:=lb P e;omega
 have pf:vf.ownBlock≠some P:=fun e=>by have:=lf P e;omega
 refine ⟨fun t ht=>?_,fun t t' ht ht' hne=>?_⟩
 ·by_cases e:t=k
  ·subst e
   rw [nb,nf]
   exact ⟨g2,(((hn.lower hB).setP pb pf _).setP pb pf _).setP pb pf _⟩
  obtain ⟨o1,o2,o3⟩:=old t (by omega)
  obtain ⟨h1,h2⟩:=h.1 t (by omega)
  obtain ⟨q1,q2⟩:=hPn t (by omega)
  rw [o1,o2,o3]
  exact ⟨h1,(((h2.below hb).setP q1 q2 _).setP q1 q2 _).setP q1 q2 _⟩
 by_cases e:t=k
 ·subst e
  obtain ⟨_,o2,o3⟩:=old t' (by omega)
  obtain ⟨_,h2⟩:=h.1 t' (by omega)
  rw [nb,nf,o2,o3]
  exact ⟨(Tb (B':=0) h2.1 lb).2,(Tb (B':=0) h2.2 lf).2⟩
 obtain ⟨_,o2,o3⟩:=old t (by omega)
 by_cases e':t'=k
 ·subst e'
  obtain ⟨_,h2⟩:=h.1 t (by omega)
  rw [nb,nf,o2,o3]
  exact ⟨(Tb (B':=0) h2.1 lb).1,(Tb (B':=0) h2.2 lf).1⟩
 obtain ⟨_,o2',o3'⟩:=old t' (by omega)
 rw [o2,o3,o2',o3']
 exact h.2 t t' (by omega) (by omega) hne

def Mt (w:World) (B:Nat) (v:Value) (es:List E3):Prop:=∃ cs,w.ownsRow B 45 3 v es.length cs∧TX w B es.length cs es
theorem Mt.ents {w:World} {B:Nat} {a:Option Addr} {len cap:Nat} {es:List E3} (h:Mt w B (.slice a len cap) es) (hf:∀ e ∈ es,e.fits):Yo w a len cap es:=by
 obtain ⟨cs,h1,h2⟩:=h
 rcases h1.2 with ⟨hv,h0⟩ | ⟨g,cap',cur,hv,_,hh,hn,hcm,_⟩
 ·injection hv with e1 e2 e3
  subst e1 e2 e3
  obtain rfl:es=[]:=List.eq_nil_of_length_eq_zero h0
  exact ⟨rfl,Nat.le_refl _,by unfold maxLen;omega,.inl rfl⟩
 injection hv with e1 e2 e3
 subst e1 e2 e3
 have hl:=h1.1
 refine ⟨rfl,hn,hcm,.inr ⟨g,0,rfl,(h1.lt g rfl).2,fun t ht=>?_⟩⟩
 have hc:=fun j (hj:j<es.length*3)=>h1.cellAt j hj
 obtain ⟨k1,k2⟩:=h2.1 t ht
 obtain ⟨s,e1,e2⟩:=k2.slices
 have hg:∀ j,j<cs.length→cs[j]?=some (cs.getD j undef):=fun j hj=>by simp [List.getD,List.getElem?_eq_getElem hj]
 refine ⟨s,?_,?_,?_,?_⟩
 ·rw [Nat.zero_add,hc _ (by omega)];exact k1
 ·rw [Nat.zero_add,hc _ (by omega),hg _ (by omega),e1]
 ·rw [Nat.zero_add,hc _ (by omega),hg _ (by omega),e2]
 rw [e1,e2] at k2
 exact k2.mem (hf _ (by simp [List.getD,List.getElem?_eq_getElem ht]))
theorem Yo.fits {w:World} {a:Option Addr} {len cap:Nat} {es:List E3} (h:Yo w a len cap es):∀ e ∈ es,e.fits:=by
 intro e he
 obtain ⟨t,ht,rfl⟩:=List.getElem_of_mem he
 obtain ⟨h1,_,_,hc⟩:=h
 rcases hc with h0 | ⟨b,off,_,_,hc⟩
 ·omega
 obtain ⟨s,_,_,_,hm⟩:=hc t (by omega)
 have e2:es.getD t e3d=es[t]:=by simp [List.getD,List.getElem?_eq_getElem ht]
 rw [e2] at hm
 exact hm.fits

theorem P0 (a:Option Addr) (len cap:Nat) (es:List E3) (w:World) (h:Yo w a len cap es) (hn:len≤1048576) (hr:∀ t,t<len→(es.getD t e3d).2.1.length≤1048576∧(es.getD t e3d).2.2.length≤1048576) :
  Calls Tryz.prog 87 #[.slice a len cap] w fun e w'=>e=.returned (.slice (some ⟨w.heap.size,0,none⟩) len len) ∧
   Mt w' w.heap.size (.slice (some ⟨w.heap.size,0,none⟩) len len) es∧Below w.heap.size w w':=by
 obtain ⟨i0,hi,hz0,hz1,hz2⟩:=info_parts Ru
 obtain ⟨hl,hlc,hcm,hcase⟩:=h
 unfold maxLen at hcm
 go_enter Tryz.func87,Tryz.ntmps87
 go_wp2_with (at_make;refine wpList_make_full _ rfl _ _ 31 rfl w.heap.size 45 i0 (.agg #[.string ⟨#[]⟩,.slice none 0 0,.slice none 0 0]) 3 Tryz.underlying31 hi hz0 hz1 _ _ _ _ len rfl rfl (by omega) (by omega) ?b2 ?b3 (Nat.le_refl _) ?_)
 case b2=>rw [hz2];omega
 case b3=>unfold maxLen;omega
 intro w0 hown0 hgrow0
 have hb0:Below w.heap.size w w0:=(Below.refl _ _).grown hgrow0 (Nat.le_refl _) (fun k h=>by cases h)
 obtain ⟨cs0,hcs0⟩:∃ cs0,cs0=(madeCells #[Value.string ⟨#[]⟩,.slice none 0 0,.slice none 0 0] (len*3)).toList:=⟨_,rfl⟩
 rw [← hcs0] at hown0
 clear hgrow0 hcs0
 go_wp2
 go_loopw [4] (fun si wr=>∃ (k:Nat) (cs:List Value),k≤len∧si=.int .i64 k∧TX wr w.heap.size k cs es∧wr.ownsRow w.heap.size 45 3 (.slice (some ⟨w.heap.size,0,none⟩) len len) len cs∧Below w.heap.size w wr) (fun si _=>len - (intOf si).toNat)
 case atStart=>exact ⟨0,cs0,by omega,rfl,⟨fun t ht=>by omega,fun t _ ht=>by omega⟩,hown0,hb0⟩
 case round =>
  obtain ⟨k,cs,hk,rfl,hR,ho,hbel⟩:=hrel
  by_cases hlt:k<len
  ·rcases hcase with h0 | ⟨b,off,rfl,hblt,hcell⟩
   ·omega
   have hlt2:(k:Int)<(len:Int):=by omega
   obtain ⟨s,c0,c1,c2,hm⟩:=hcell k hlt
   obtain ⟨r1,r2⟩:=hr k hlt
   replace c0:=ZE hbel c0
   replace c1:=ZE hbel c1
   replace c2:=ZE hbel c2
   have kE:=SK (es.getD k e3d) s wr (hm.below hbel) r1 r2
   have hput:=fun w' vb vf hb hk9 hn hPn=>TX.put (w':=w') (P:=w.heap.size) (vb:=vb) (vf:=vf) hR hb hk9 hn hbel.size ((ho.lt w.heap.size rfl).2) hPn
   have hPn:∀ t,t<k→(cs.getD (t*3+1) undef).ownBlock≠some w.heap.size∧(cs.getD (t*3+2) undef).ownBlock≠some w.heap.size:=fun t ht=>by
    obtain ⟨_,q1,q2⟩:=hR.1 t ht
    constructor
    ·rcases Xo ho q1 (by decide) with h | h
     ·simp [Value.ownBlock] at h
     exact fun e=>h (by rw [e];rfl)
    rcases Xo ho q2 (by decide) with h | h
    ·simp [Value.ownBlock] at h
    exact fun e=>h (by rw [e];rfl)
   have hcl:=ho.1
   clear hcell hm hR
   generalize (es.getD k e3d)=x at *
   obtain ⟨xk,xb,xz⟩:=x
   obtain ⟨⟨a1,n1,d1⟩,⟨a2,n2,d2⟩⟩:=s
   unfold ZR at kE
   simp only at c0 c1 c2 kE r1 r2 hput
   have hk0:(0:Int)≤(k:Int):=by omega
   go_wp2_with fail
   refine kE.mono ?_
   rintro e w1 ⟨⟨⟨⟨b1,m1,e1⟩,⟨b2,m2,e2⟩⟩,rfl,hOE⟩,hb1⟩
   simp only at hOE ⊢
   have R2:=hput w1 _ _ hb1 (by omega) hOE hPn
   clear hput hPn hOE kE c0 c1 c2
   have ho1:=Zz ho hb1
   have hbel1:Below w.heap.size w w1:=Zb hbel hb1
   clear ho hbel hb1
   have hlen:=ho1.1
   have f0:=ho1.frozenAt (k*3)
   have f1:=ho1.frozenAt (k*3+1)
   have f2:=ho1.frozenAt (k*3+2)
   obtain ⟨u0,hu0⟩:∃ u,w1.cell? ⟨w.heap.size,k*3,none⟩=some u:=⟨_,by rw [ho1.cellAt _ (by omega)];exact List.getElem?_eq_getElem (by omega)⟩
   obtain ⟨u1,hu1⟩:∃ u,w1.cell? ⟨w.heap.size,k*3+1,none⟩=some u:=⟨_,by rw [ho1.cellAt _ (by omega)];exact List.getElem?_eq_getElem (by omega)⟩
   obtain ⟨u2,hu2⟩:∃ u,w1.cell? ⟨w.heap.size,k*3+2,none⟩=some u:=⟨_,by rw [ho1.cellAt _ (by omega)];exact List.getElem?_eq_getElem (by omega)⟩
   have R:=(((ho1.stored (k*3) (.string xk)).1.stored (k*3+1) (.slice b1 m1 e1)).1.stored (k*3+2) (.slice b2 m2 e2)).1
   have hb3:Below w.heap.size w (((w1.setCell ⟨w.heap.size,k*3,none⟩ (.string xk)).setCell ⟨w.heap.size,k*3+1,none⟩ (.slice b1 m1 e1)).setCell ⟨w.heap.size,k*3+2,none⟩ (.slice b2 m2 e2)):=
    ((hbel1.setCell (Nat.le_refl _) _).setCell (Nat.le_refl _) _).setCell (Nat.le_refl _) _
   clear ho1 hbel1
   generalize ((cs.set (k*3) (.string xk)).set (k*3+1) (.slice b1 m1 e1)).set (k*3+2) (.slice b2 m2 e2)=cs' at R R2
   go_wp2
   go_roundw
   case rel=>exact ⟨k+1,cs',by omega,by go_num,R2,R,hb3⟩
   case measure=>simp [intOf];omega
  obtain rfl:k=len:=by omega
  clear hcase
  go_wp2
  go_ret
  exact ⟨rfl,⟨cs,by rw [hl];exact ho,by rw [hl];exact hR⟩,hbel⟩

theorem XH.low {w:World} {B:Nat} {vb vf:Value} {e:E3} (h:XH w B vb vf e) {p:Addr} (hp:p.block<B) (u:Value):XH (w.setCell p u) B vb vf e:=⟨ownsRow_setCell_below h.1 hp u,ownsRow_setCell_below h.2 hp u⟩
theorem Mt.low {w:World} {B:Nat} {v:Value} {es:List E3} (h:Mt w B v es) {p:Addr} (hp:p.block<B) (u:Value):Mt (w.setCell p u) B v es:=by
 obtain ⟨cs,h1,h2,h3⟩:=h
 exact ⟨cs,ownsRow_setCell_below h1 hp u,fun t ht=>⟨(h2 t ht).1,(h2 t ht).2.low hp u⟩,h3⟩
theorem Ll (a:Option Addr) (len cap:Nat) (es:List E3) (w:World) (h:Yo w a len cap es) (hn:len≤1048576) (hr:∀ t,t<len→(es.getD t e3d).2.1.length≤1048576∧(es.getD t e3d).2.2.length≤1048576) :
  Calls Tryz.prog 38 #[.agg #[.slice a len cap]] w fun e w'=>e=.returned (.agg #[.slice (some ⟨w.heap.size+3,0,none⟩) len len]) ∧
   Mt w' (w.heap.size+3) (.slice (some ⟨w.heap.size+3,0,none⟩) len len) es∧Below w.heap.size w w':=by
 have bw:Below w.heap.size w (((w.alloc (.cells #[.slice a len cap] 70)).alloc (.cells #[.slice none 0 0] 33)).alloc (.cells #[.slice none 0 0] 33)):=by go_grown
 have pR:Blk (((w.alloc (.cells #[.slice a len cap] 70)).alloc (.cells #[.slice none 0 0] 33)).alloc (.cells #[.slice none 0 0] 33)) (w.heap.size+1) 33 [.slice none 0 0]:=Zg _ (Zi _ _ _ (by simp))
 have pO:Blk (((w.alloc (.cells #[.slice a len cap] 70)).alloc (.cells #[.slice none 0 0] 33)).alloc (.cells #[.slice none 0 0] 33)) (w.heap.size+1+1) 33 [.slice none 0 0]:=Zi _ _ _ (by simp)
 have hsz:(((w.alloc (.cells #[.slice a len cap] 70)).alloc (.cells #[.slice none 0 0] 33)).alloc (.cells #[.slice none 0 0] 33)).heap.size=w.heap.size+3:=by simp
 have kE:=fun W (hb:Below w.heap.size w W)=>P0 a len cap es W (h.below hb) hn hr
 go_enter Tryz.func38,Tryz.ntmps38
 go_wp2_with fail
 refine (kE _ bw).mono ?_
 generalize (((w.alloc (.cells #[.slice a len cap] 70)).alloc (.cells #[.slice none 0 0] 33)).alloc (.cells #[.slice none 0 0] 33))=U at *
 rintro e w1 ⟨rfl,hM,hb⟩
 rw [hsz] at hM ⊢
 replace bw:=Zh bw hb
 replace pR:=pR.below hb
 replace pO:=pO.below hb
 clear hb kE hsz
 have u0:=pO.cell 0
 have f0:=pO.frozen 0
 simp only [List.getElem?_cons_zero] at u0
 replace hM:=hM.low (p:=⟨w.heap.size+1+1,0,none⟩) (show w.heap.size+1+1<w.heap.size+3 by omega) (.slice (some ⟨w.heap.size+3,0,none⟩) len len)
 replace bw:=bw.setCell (p:=⟨w.heap.size+1+1,0,none⟩) (show w.heap.size≤w.heap.size+1+1 by omega) (.slice (some ⟨w.heap.size+3,0,none⟩) len len)
 replace pR:=pR.off ⟨w.heap.size+1+1,0,none⟩ (.slice (some ⟨w.heap.size+3,0,none⟩) len len) (by simp)
 replace pO:=pO.set 0 (.slice (some ⟨w.heap.size+3,0,none⟩) len len)
 simp only [List.set_cons_zero] at pO
 have o0:=pO.cell 0
 have r0:=pR.cell 0
 have fr0:=pR.frozen 0
 simp only [List.getElem?_cons_zero] at o0 r0
 have pZ:=pR.set 0 (.slice (some ⟨w.heap.size+3,0,none⟩) len len)
 simp only [List.set_cons_zero] at pZ
 have z0:=pZ.cell 0
 simp only [List.getElem?_cons_zero] at z0
 have bz:=bw.setCell (p:=⟨w.heap.size+1,0,none⟩) (show w.heap.size≤w.heap.size+1 by omega) (.slice (some ⟨w.heap.size+3,0,none⟩) len len)
 replace hM:=hM.low (p:=⟨w.heap.size+1,0,none⟩) (show w.heap.size+1<w.heap.size+3 by omega) (.slice (some ⟨w.heap.size+3,0,none⟩) len len)
 clear pO pR pZ bw
 go_wp2
 refine bodyPost_ret (by simp [results,Tryz.results38,go_sem,z0];try rfl) rfl ?_
 exact ⟨rfl,hM,bz⟩


theorem Th (e:E3) (s s':Sl2) (w:World) (h:Z1 w s e) (h':Z1 w s' e) :
  Calls Tryz.prog 42 #[ZR e.1 s,ZR e.1 s'] w fun x w'=>x=.returned (.bool true)∧Below w.heap.size w w':=by
 obtain ⟨_,hB,hF,_⟩:=h
 obtain ⟨_,hB',hF',_⟩:=h'
 have l1:=hB.1
 have l2:=hF.1
 have l1':=hB'.1
 have l2':=hF'.1
 obtain ⟨k,bs,zs⟩:=e
 obtain ⟨⟨a1,n1,c1⟩,⟨a2,n2,c2⟩⟩:=s
 obtain ⟨⟨b1,m1,d1⟩,⟨b2,m2,d2⟩⟩:=s'
 unfold ZR
 simp only at *
 obtain rfl:n1=m1:=by omega
 obtain rfl:n2=m2:=by omega
 have kB:=fun W (hb:Below w.heap.size w W)=>Ni a1 b1 n1 c1 d1 bs W (hB.below hb) (hB'.below hb)
 have kF:=fun W (hb:Below w.heap.size w W)=>eq8 a2 b2 n2 c2 d2 zs W (hF.below hb) (hF'.below hb)
 clear hB hF hB' hF' l1 l2 l1' l2'
 have hkk:(k.toList == k.toList)=true:=by simp
 have bw:Below w.heap.size w ((w.alloc (.cells #[.string k,.slice a1 n1 c1,.slice a2 n2 c2] 45)).alloc (.cells #[.string k,.slice b1 n1 d1,.slice b2 n2 d2] 45)):=by go_grown
 have pA:Blk ((w.alloc (.cells #[.string k,.slice a1 n1 c1,.slice a2 n2 c2] 45)).alloc (.cells #[.string k,.slice b1 n1 d1,.slice b2 n2 d2] 45)) w.heap.size 45 [.string k,.slice a1 n1 c1,.slice a2 n2 c2]:=Zg _ (Zi _ _ _ rfl)
 have pB:Blk ((w.alloc (.cells #[.string k,.slice a1 n1 c1,.slice a2 n2 c2] 45)).alloc (.cells #[.string k,.slice b1 n1 d1,.slice b2 n2 d2] 45)) (w.heap.size+1) 45 [.string k,.slice b1 n1 d1,.slice b2 n2 d2]:=Zi _ _ _ (by simp)
 go_enter Tryz.func42,Tryz.ntmps42
 go_wp2_with fail
 refine (kB _ bw).mono ?_
 rintro x w1 ⟨rfl,hb⟩
 replace bw:=Zh bw hb
 replace pA:=pA.below hb
 replace pB:=pB.below hb
 clear hb kB
 have y2:=pA.cell 2
 have z2:=pB.cell 2
 simp only [List.getElem?_cons_zero,List.getElem?_cons_succ] at y2 z2
 go_wp2_with fail
 refine (kF _ bw).mono ?_
 rintro x w2 ⟨rfl,hb⟩
 replace bw:=Zh bw hb
 clear hb kF
 go_wp2
 go_ret
 exact ⟨rfl,bw⟩

theorem Qk (a a':Option Addr) (len cap cap':Nat) (es:List E3) (w:World) (h:Yo w a len cap es) (h':Yo w a' len cap' es) :
  Calls Tryz.prog 79 #[.slice a len cap,.slice a' len cap'] w fun e w'=>e=.returned (.bool true)∧Below w.heap.size w w':=by
 obtain ⟨hl,hlc,hcm,hcase⟩:=h
 obtain ⟨_,hlc',hcm',hcase'⟩:=h'
 unfold maxLen at hcm hcm'
 have hne:((len:Int) != (len:Int))=false:=by simp
 by_cases h0:len=0
 ·subst h0
  go_enter Tryz.func79,Tryz.ntmps79
  go_wp2
  refine wp_loop_rounds 1 ?_
  rw [rounds_succ]
  go_wp2
  go_ret
  exact ⟨rfl,Below.refl _ _⟩
 rcases hcase with h0' | ⟨b,off,rfl,hblt,hcell⟩
 ·exact absurd h0' h0
 rcases hcase' with h0' | ⟨b',off',rfl,hblt',hcell'⟩
 ·exact absurd h0' h0
 go_enter Tryz.func79,Tryz.ntmps79
 go_wp2
 go_loopw [5] (fun si wr=>∃ k:Nat,k≤len∧si=.int .i64 k∧Below w.heap.size w wr) (fun si _=>len - (intOf si).toNat)
 case atStart=>exact ⟨0,by omega,rfl,Below.refl _ _⟩
 case round =>
  obtain ⟨k,hk,rfl,bw⟩:=hrel
  by_cases hlt:k<len
  ·obtain ⟨s,c0,c1,c2,hm⟩:=hcell k hlt
   obtain ⟨s',d0,d1,d2,hm'⟩:=hcell' k hlt
   have kE:=fun W (hb:Below w.heap.size w W)=>Th (es.getD k e3d) s s' W (hm.below hb) (hm'.below hb)
   replace c0:=ZE bw c0
   replace c1:=ZE bw c1
   replace c2:=ZE bw c2
   replace d0:=ZE bw d0
   replace d1:=ZE bw d1
   replace d2:=ZE bw d2
   clear hcell hcell' hm hm'
   generalize es.getD k e3d=x at *
   obtain ⟨xk,xb,xz⟩:=x
   obtain ⟨⟨p1,pn1,pc1⟩,⟨p2,pn2,pc2⟩⟩:=s
   obtain ⟨⟨q1,qn1,qc1⟩,⟨q2,qn2,qc2⟩⟩:=s'
   unfold ZR at kE
   simp only at c0 c1 c2 d0 d1 d2 kE
   have hlt2:(k:Int)<(len:Int):=by omega
   have hk0:(0:Int)≤(k:Int):=by omega
   have bd:Below w.heap.size w wr.drew:=Zh bw (by go_grown)
   go_wp2_with fail
   refine wp_region_held_drew (S:=(fun w'=>w'.cell? ⟨b,off+k*3,none⟩=some (.string xk)∧w'.cell? ⟨b,off+k*3+1,none⟩=some (.slice p1 pn1 pc1)∧w'.cell? ⟨b,off+k*3+2,none⟩=some (.slice p2 pn2 pc2)∧w'.cell? ⟨b',off'+k*3,none⟩=some (.string xk)∧w'.cell? ⟨b',off'+k*3+1,none⟩=some (.slice q1 qn1 qc1)∧w'.cell? ⟨b',off'+k*3+2,none⟩=some (.slice q2 qn2 qc2))) (by kernel_rfl) ⟨c0,c1,c2,d0,d1,d2⟩ (fun hS0=>?_)
   refine tkm 0 17 (.slice (some ⟨b,off,none⟩) len cap) ?_
   refine tkm 1 18 (.int .i64 k) ?_
   refine tkm 2 19 (.pointer (some ⟨b,off+k*3,none⟩)) ?_
   refine tkm 3 20 (.agg #[.string xk,.slice p1 pn1 pc1,.slice p2 pn2 pc2]) ?_
   refine tkm 4 21 (.slice (some ⟨b',off',none⟩) len cap') ?_
   refine tkm 5 22 (.int .i64 k) ?_
   refine tkm 6 23 (.pointer (some ⟨b',off'+k*3,none⟩)) ?_
   refine tkm 7 24 (.agg #[.string xk,.slice q1 qn1 qc1,.slice q2 qn2 qc2]) ?_
   refine tkr 8 25 (fun K hK=>?_)
   go_simp
   refine (kE _ bd).mono ?_
   rintro e w1 ⟨rfl,hb⟩
   go_wp2_with fail
   refine hK.out _ _ ?_ (fun hS1=>?_)
   ·exact ⟨Za hb _ _ hS0.1,Za hb _ _ hS0.2.1,Za hb _ _ hS0.2.2.1,Za hb _ _ hS0.2.2.2.1,Za hb _ _ hS0.2.2.2.2.1,Za hb _ _ hS0.2.2.2.2.2⟩
   clear hK
   refine tkm 9 26 (.bool false) ?_
   refine wpAnyH_done (by kernel_rfl) ?_ _
   replace bw:=Zh bd hb
   clear hb bd hS0 hS1 c0 c1 c2 d0 d1 d2 kE
   go_wp2
   go_roundw
   case rel=>exact ⟨k+1,by omega,by go_num,bw⟩
   case measure=>simp [intOf];omega
  go_wp2
  go_ret
  exact ⟨rfl,bw⟩

theorem Nk (a a':Option Addr) (len cap cap':Nat) (es:List E3) (w:World) (h:Yo w a len cap es) (h':Yo w a' len cap' es) :
  Calls Tryz.prog 30 #[.agg #[.slice a len cap],.agg #[.slice a' len cap']] w fun e w'=>e=.returned (.bool true)∧Below w.heap.size w w':=by
 have kE:=fun W (hb:Below w.heap.size w W)=>Qk a a' len cap cap' es W (h.below hb) (h'.below hb)
 have bw:Below w.heap.size w ((w.alloc (.cells #[.slice a len cap] 33)).alloc (.cells #[.slice a' len cap'] 33)):=by go_grown
 go_enter Tryz.func30,Tryz.ntmps30
 go_wp2_with fail
 refine (kE _ bw).mono ?_
 rintro x w1 ⟨rfl,hb⟩
 replace bw:=Zh bw hb
 clear hb kE
 go_wp2
 go_ret
 exact ⟨rfl,bw⟩


theorem Tr:∀ (rows:List (List I3)) (left:Int),0≤Yp left rows→0≤left→∀ r ∈ rows,(r.length:Int)≤left
 | [],_,_,_,r,hr=>by cases hr
 | x::xs,left,h,h0,r,hr=>by
  unfold Yp at h
  split at h
  ·omega
  rcases List.mem_cons.1 hr with rfl | hr
  ·omega
  have:=Tr xs (left - x.length) h (by omega) r hr
  omega

theorem Rq {rows:List (List I3)} {n:Nat} (h:∀ r ∈ rows,r.length≤n) (t:Nat):(rows.getD t []).length≤n:=by
 by_cases ht:t<rows.length
 ·have:rows.getD t []=rows[t]:=by simp [List.getD,ht]
  rw [this]
  exact h _ (List.getElem_mem ht)
 have:rows.getD t []=[]:=by simp [List.getD,List.getElem?_eq_none (Nat.le_of_not_lt ht)]
 rw [this]
 exact Nat.zero_le _

theorem SE {rows:List (List I3)} {left:Int} (hm:left≤1048576) (h:0≤Y2 left rows) (h0:0≤left):rows.length≤1048576∧∀ t,(rows.getD t []).length≤1048576:=by
 unfold Y2 at h
 split at h
 ·omega
 refine ⟨by omega,fun t=>Rq (fun r hr=>?_) t⟩
 have:=Tr rows _ h (by omega) r hr
 omega

end Go.Proofs.YtnffeclgboomoaaGreatDoor
