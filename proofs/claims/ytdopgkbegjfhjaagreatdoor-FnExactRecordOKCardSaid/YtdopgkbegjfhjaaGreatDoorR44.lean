/-
  Joined: RecL, RecS, RcjI, RckI.
-/
import Derived.Test.YtdopgkbegjfhjaaGreatDoorR29
import Derived.Test.YtdopgkbegjfhjaaGreatDoorR34
import Derived.Test.YtdopgkbegjfhjaaGreatDoorR43

namespace Go.Proofs.YtdopgkbegjfhjaaGreatDoor
set_option maxRecDepth 100000
set_option maxHeartbeats 16000000
open Go.RowKit Go.ChangeShapes Go.WideShapes
set_option linter.unusedVariables false
set_option linter.unusedSimpArgs false

def r2d:R2:=(0,⟨#[]⟩)
def R2.cells (r:R2):List Value:=[.int .i64 r.1,.string r.2]
def flatR:List R2→List Value
 | []=>[]
 | r::rs=>.int .i64 r.1::.string r.2::flatR rs
theorem flatR_length:∀ rs:List R2,(flatR rs).length=rs.length*2
 | []=>rfl
 | r::rs=>by
  simp only [flatR,List.length_cons,flatR_length rs]
  omega
theorem flatR_at:∀ {rs:List R2} {t:Nat},t<rs.length→(flatR rs)[t*2]?=some (.int .i64 (rs.getD t r2d).1)∧(flatR rs)[t*2+1]?=some (.string (rs.getD t r2d).2)
 | [],_,h=>by simp at h
 | r::rs,0,_=>by simp [flatR]
 | r::rs,t+1,h=>by
  have ih:=flatR_at (rs:=rs) (t:=t) (by simpa using h)
  rw [show (t+1)*2=t*2+1+1 by omega]
  simpa [flatR] using ih
theorem flatR_app:∀ (rs qs:List R2),flatR (rs++qs)=flatR rs++flatR qs
 | [],qs=>rfl
 | r::rs,qs=>by simp [flatR,flatR_app rs qs]
theorem flatR_snoc (rs:List R2) (r:R2):flatR (rs++[r])=flatR rs++[.int .i64 r.1,.string r.2]:=flatR_app rs [r]
def mkR:Nat→List R2→Nat→List R2
 | _,rs,0=>rs
 | _,[],_+1=>[]
 | k,_::rs,j+1=>((k:Int),markB (k+1))::mkR (k+2) rs j
theorem mkR_len:∀ (k:Nat) (rs:List R2) (j:Nat),(mkR k rs j).length=rs.length
 | _,rs,0=>by simp [mkR]
 | _,[],_+1=>by simp [mkR]
 | k,_::rs,j+1=>by simp [mkR,mkR_len]
theorem mkR_set:∀ (k:Nat) (rs:List R2) (j:Nat),j<rs.length →
  ((flatR (mkR k rs j)).set (j*2) (.int .i64 ((k+j*2:Nat):Int))).set (j*2+1) (.string (markB (k+j*2+1)))=flatR (mkR k rs (j+1))
 | _,[],j,h=>by simp at h
 | k,r::rs,0,_=>by simp [mkR,flatR]
 | k,r::rs,j+1,h=>by
  have ih:=mkR_set (k+2) rs j (by simpa using h)
  rw [show k+(j+1)*2=k+2+j*2 by omega,show (j+1)*2=j*2+1+1 by omega]
  simp only [mkR,flatR,List.set_cons_succ]
  rw [ih]
theorem mkR_get:∀ (k:Nat) (rs:List R2) (j i:Nat),i<j→j≤rs.length→(mkR k rs j).getD i r2d=(((k+i*2:Nat):Int),markB (k+i*2+1))
 | _,rs,0,i,h,_=>by omega
 | _,[],j+1,i,_,h=>by simp at h
 | k,r::rs,j+1,0,_,_=>by simp [mkR]
 | k,r::rs,j+1,i+1,h,hl=>by
  have ih:=mkR_get (k+2) rs j i (by omega) (by simpa using hl)
  rw [show k+(i+1)*2=k+2+i*2 by omega,← ih]
  simp [mkR]

def R2.fits (r:R2):Prop:=(Lit.int .i64 r.1).wf=true∧r.2.size≤maxLen
section
variable {H : Type} {enc : TypeId × Value → H} {w : World} {base : Nat} {spare : Nat → Bool} {held : Bool}
theorem open_laws_Record {r:Reach} {b0:Nat} {v:Value} {d:DataW H} {p:List MemPlace}
  (hv:Value.okWide Tryz.prog w r b0 42 v) (h:DataW.Trod enc Tryz.prog w base spare held 42 v d p):∃ y:R2,v=y.val∧R2.fits y:=by
 obtain ⟨cs,rfl,hsz⟩:=okWide_struct Tryz.underlying42 hv
 have hsz':cs.size=2:=hsz.trans (by kernel_rfl)
 obtain ⟨fuel,hf⟩:=h
 obtain ⟨y0,y1,n,_,_,h0,h1⟩:=trod_struct2 Tryz.underlying42 hf
 have k0:Tryz.prog.cellsOf 3=1:=by kernel_rfl
 have k1:Tryz.prog.cellsOf 9=1:=by kernel_rfl
 obtain ⟨c0,c1,rfl⟩:∃ c0 c1,cs=#[c0,c1]:=by
  obtain ⟨l⟩:=cs
  match l,hsz' with
  | [c0,c1],_=>exact ⟨c0,c1,rfl⟩
 simp only [k0] at h0 h1
 simp only [k1] at h1
 obtain ⟨s,e0,hs,_⟩:=DataW.trod_int Tryz.underlying3 h0
 obtain ⟨q,e1,_,hq⟩:=DataW.trod_string Tryz.underlying9 h1
 simp [Value.cells] at e0 e1
 refine ⟨(s,q),?_,?_,hq⟩
 ·rw [e0,e1]
  rfl
 ·first | exact hs | assumption
end

theorem toRecord_same (r:R2) (w:World):Calls Tryz.prog 22 #[r.val] w fun e w'=>e=.returned r.val∧Below w.heap.size w w':=by
 obtain ⟨s,q⟩:=r
 unfold R2.val
 go_enter Tryz.func22,Tryz.ntmps22
 go_wp2
 go_returns
 exact ⟨rfl,by go_grown⟩

theorem eqRecord_same (r:R2) (w:World):Calls Tryz.prog 54 #[r.val,r.val] w fun e w'=>e=.returned (.bool true)∧Below w.heap.size w w':=by
 obtain ⟨s,q⟩:=r
 unfold R2.val
 go_enter Tryz.func54,Tryz.ntmps54
 go_wp2
 go_returns
 exact ⟨rfl,by go_grown⟩

def SzR (r:R2) (left:Int) (e:Ending):Prop:=∃ x:Int,e=.returned (.int .i64 x)∧(x=-1∨(0≤x∧x≤left∧r.2.size≤1048576))
theorem szRecord_any (r:R2) (left:Int) (w:World) (hr:r.2.size≤maxLen) (h0:0≤left) (h1:left≤1048576):Calls Tryz.prog 20 #[r.val,.int .i64 left] w fun e w'=>SzR r left e∧Below w.heap.size w w':=by
 obtain ⟨s,q⟩:=r
 unfold maxLen at hr
 unfold R2.val SzR
 simp only at hr ⊢
 generalize hq:q.size=m at *
 have q1:IntKind.i64.wrap (left - (m:Int))=left - (m:Int):=IntWalk.i64_in _ ⟨by omega,by omega⟩
 go_enter Tryz.func20,Tryz.ntmps20
 by_cases h2:left - (m:Int)<0
 ·go_wp2
  go_ret
  exact ⟨⟨-1,rfl,.inl rfl⟩,by go_grown⟩
 ·go_wp2
  go_ret
  exact ⟨⟨_,rfl,.inr ⟨by omega,by omega,by omega⟩⟩,by go_grown⟩

def SzD2 (d:D2) (e:Ending):Prop:=∃ r:Int,e=.returned (.int .i64 r)∧(r=-1∨(0≤r∧r≤1048576∧d.few))
theorem szDisk_left (d:D2) (w:World) (hd:d.fits):Calls Tryz.prog 24 #[d.val,.int .i64 1048576] w fun e w'=>SzD2 d e∧Below w.heap.size w w':=by
 obtain ⟨s,q⟩:=d
 unfold D2.fits maxLen at hd
 unfold D2.val SzD2 D2.few
 simp only at hd ⊢
 generalize hs:s.size=n at *
 generalize hq:q.size=m at *
 have q1:IntKind.i64.wrap (1048576 - (n:Int))=1048576 - (n:Int):=IntWalk.i64_in _ ⟨by omega,by omega⟩
 go_enter Tryz.func24,Tryz.ntmps24
 by_cases h1:1048576 - (n:Int)<0
 ·go_wp2
  go_ret
  exact ⟨⟨-1,rfl,.inl rfl⟩,by go_grown⟩
 ·have q2:IntKind.i64.wrap (1048576 - (n:Int) - (m:Int))=1048576 - (n:Int) - (m:Int):=IntWalk.i64_in _ ⟨by omega,by omega⟩
  by_cases h2:1048576 - (n:Int) - (m:Int)<0
  ·go_wp2
   go_ret
   exact ⟨⟨-1,rfl,.inl rfl⟩,by go_grown⟩
  ·go_wp2
   go_ret
   exact ⟨⟨_,rfl,.inr ⟨by omega,by omega,by omega⟩⟩,by go_grown⟩

def OwnR (w:World) (B:Nat) (v:Value) (rs:List R2):Prop:=w.ownsRow B 24 2 v rs.length (flatR rs)

theorem eqRecordS_same (B B':Nat) (v v':Value) (rs:List R2) (w:World) (hn:rs.length≤1048576) (h:OwnR w B v rs) (h':OwnR w B' v' rs) :
  Calls Tryz.prog 29 #[v,v'] w fun e w'=>e=.returned (.bool true)∧Below w.heap.size w w':=by
 have hne:((rs.length:Int) != (rs.length:Int))=false:=by simp
 by_cases h0:rs.length=0
 ·have hz:∀ {B:Nat} {v:Value},OwnR w B v rs→∃ a c,v=.slice a 0 c:=by
   intro B v h
   rcases h.2 with ⟨rfl,_⟩ | ⟨g,cap,cur,rfl,_⟩
   ·exact ⟨none,0,rfl⟩
   ·exact ⟨_,cap,by rw [h0]⟩
  obtain ⟨a,c,rfl⟩:=hz h
  obtain ⟨a',c',rfl⟩:=hz h'
  go_enter Tryz.func29,Tryz.ntmps29
  go_wp2
  refine wp_loop_rounds 1 ?_
  rw [rounds_succ]
  go_wp2
  go_ret
  exact ⟨rfl,Below.refl _ _⟩
 ·rcases id h.2 with ⟨_,h9⟩ | ⟨b,cap,cur,rfl,_⟩
  ·exact absurd h9 h0
  rcases id h'.2 with ⟨_,h9⟩ | ⟨b',cap',cur',rfl,_⟩
  ·exact absurd h9 h0
  have hblt:=(h.lt b rfl).2
  have hblt':=(h'.lt b' rfl).2
  go_enter Tryz.func29,Tryz.ntmps29
  go_wp2
  go_loopw [5] (fun si wr=>∃ k:Nat,k≤rs.length∧si=.int .i64 k∧Below w.heap.size w wr) (fun si _=>rs.length - (intOf si).toNat)
  case atStart=>exact ⟨0,by omega,rfl,Below.refl _ _⟩
  case round =>
   obtain ⟨k,hk,rfl,hbel⟩:=hrel
   by_cases hlt:k<rs.length
   ·obtain ⟨a0,a1⟩:=flatR_at hlt
    have c0:wr.cell? ⟨b,k*2,none⟩=some (.int .i64 (rs.getD k r2d).1):=by rw [hbel.cell (p:=⟨b,_,none⟩) hblt,h.cellAt _ (by omega)];exact a0
    have c1:wr.cell? ⟨b,k*2+1,none⟩=some (.string (rs.getD k r2d).2):=by rw [hbel.cell (p:=⟨b,_,none⟩) hblt,h.cellAt _ (by omega)];exact a1
    have e0:wr.cell? ⟨b',k*2,none⟩=some (.int .i64 (rs.getD k r2d).1):=by rw [hbel.cell (p:=⟨b',_,none⟩) hblt',h'.cellAt _ (by omega)];exact a0
    have e1:wr.cell? ⟨b',k*2+1,none⟩=some (.string (rs.getD k r2d).2):=by rw [hbel.cell (p:=⟨b',_,none⟩) hblt',h'.cellAt _ (by omega)];exact a1
    have hlt':(k:Int)<(rs.length:Int):=by omega
    generalize rs.getD k r2d=x at c0 c1 e0 e1
    clear a0 a1
    go_wp2_with fail
    have hk0:(0:Int)≤(k:Int):=by omega
    go_region_held3 (fun w'=>w'.cell? ⟨b,k*2,none⟩=some (.int .i64 x.1)∧w'.cell? ⟨b,k*2+1,none⟩=some (.string x.2)∧w'.cell? ⟨b',k*2,none⟩=some (.int .i64 x.1)∧w'.cell? ⟨b',k*2+1,none⟩=some (.string x.2)) (first | (exact ⟨c0,c1,e0,e1⟩) | (refine ⟨?_,?_,?_,?_⟩<;>(apply cellsD2 (by assumption);assumption)) | go_keep)
     (first | (go_at_call 54;refine (eqRecord_same x _).mono ?_;rintro e w1 ⟨rfl,hb1⟩))
    have hbel1:Below w.heap.size w w1:=belD hbel (belD (by go_grown) hb1)
    go_wp2
    go_roundw
    case rel=>exact ⟨k+1,by omega,by go_num,hbel1⟩
    case measure=>simp [intOf];omega
   ·obtain rfl:k=rs.length:=by omega
    go_wp2
    go_ret
    exact ⟨rfl,hbel⟩

open Go.RowKit

theorem recB_mk {r:R2} {b:Bool} (h:b=true↔RecOk r):recB r=b:=by
 have:=recB_iff r
 cases hb:b<;>cases hc:recB r<;>simp_all
theorem recOk_ver {t:ByteArray}:RecOk (1,t)↔VerOk t∧t.size<1000:=by
 unfold RecOk
 simp only
 constructor
 ·rintro ⟨h1,⟨_,h⟩ | ⟨h,_⟩ | ⟨h,_⟩⟩
  ·exact ⟨h,h1⟩
  ·omega
  ·omega
 ·rintro ⟨h,h1⟩
  simp [h,h1]
theorem recOk_ent {t:ByteArray}:RecOk (2,t)↔EntTOk t∧t.size<1000:=by
 unfold RecOk
 simp only
 constructor
 ·rintro ⟨h1,⟨h,_⟩ | ⟨_,h⟩ | ⟨h,_⟩⟩
  ·omega
  ·exact ⟨h,h1⟩
  ·omega
 ·rintro ⟨h,h1⟩
  simp [h,h1]
theorem recOk_com {t:ByteArray}:RecOk (3,t)↔ComOk t∧t.size<1000:=by
 unfold RecOk
 simp only
 constructor
 ·rintro ⟨h1,⟨h,_⟩ | ⟨h,_⟩ | ⟨_,h⟩⟩
  ·omega
  ·omega
  ·exact ⟨h,h1⟩
 ·rintro ⟨h,h1⟩
  simp [h,h1]
theorem recOk_non {k:Int} {t:ByteArray} (h1:k≠1) (h2:k≠2) (h3:k≠3):¬ RecOk (k,t):=by
 rintro ⟨_,⟨h,_⟩ | ⟨h,_⟩ | ⟨h,_⟩⟩
 ·exact h1 h
 ·exact h2 h
 ·exact h3 h
theorem verOk_long {t:ByteArray} (h:65536<t.size):¬ VerOk t:=by
 rintro ⟨rows,⟨_,zs,hL,_⟩ | ⟨h9,_⟩⟩
 ·exact noList_long (by omega) zs hL
 ·cases h9
def VerGot (t:ByteArray) (e:Ending):Prop:=∃ (a:Option Addr) (n m:Nat) (c:Int),e=.returned (.tuple #[.agg #[.slice a n m],.int .i64 c])∧(c=0↔VerOk t)
theorem specUnProg_ver (t:ByteArray) (w:World) (ht:t.size≤1048576) :
  Calls Tryz.prog 47 #[.string t] w fun e w'=>VerGot t e∧Below w.heap.size w w':=by
 by_cases hl:t.size≤65536
 ·refine (specUnProg_any t w hl).mono ?_
  rintro e w1 ⟨⟨v,rows,c,hP,rfl,_,hO⟩,b1⟩
  obtain ⟨vs,a1,_⟩:=hO
  obtain ⟨a,n,m,rfl⟩:∃ a n m,v=.slice a n m:=by
   rcases a1.2 with ⟨rfl,_⟩ | ⟨g,cap,cur,rfl,_⟩
   ·exact ⟨_,_,_,rfl⟩
   ·exact ⟨_,_,_,rfl⟩
  exact ⟨⟨a,n,m,c,rfl,(verOk_c hP).symm⟩,b1⟩
 ·refine (specUnProg_long t w ht (by omega)).mono ?_
  rintro e w1 ⟨rfl,b1⟩
  refine ⟨⟨_,_,_,2,rfl,?_⟩,b1⟩
  have:=verOk_long (t:=t) (by omega)
  simp [this]
def EntTold (t:ByteArray) (e:Ending):Prop:=∃ (k:ByteArray) (s:Sl2) (b:Bool),e=.returned (.tuple #[entV k s,.bool b])∧(b=true↔EntTOk t)
theorem l10Read_ent (t:ByteArray) (w:World) (ht:t.size≤1048576) :
  Calls Tryz.prog 48 #[.string t] w fun e w'=>EntTold t e∧Below w.heap.size w w':=by
 by_cases hl:t.size≤65536
 ·refine (l10Read_is t w hl).mono ?_
  rintro x w1 ⟨hR,b1⟩
  refine ⟨?_,b1⟩
  rcases hR with ⟨e,s,hk,rfl,_⟩ | ⟨hn,h⟩
  ·exact ⟨_,_,true,rfl,by simp;exact ⟨e,hk⟩⟩
  ·have hN:¬ EntTOk t:=fun ⟨e,h⟩=>hn e h
   first
    | (subst h;exact ⟨_,((none,0,0),(none,0,0)),false,rfl,by simp [hN]⟩)
    | (obtain ⟨rfl,_⟩:=h;exact ⟨_,((none,0,0),(none,0,0)),false,rfl,by simp [hN]⟩)
 ·have hN:¬ EntTOk t:=fun ⟨e,h⟩=>rdOk_no_long (by omega) e h
  have HN:Hid (¬ EntTOk t):=hN
  have hn9:¬ (t.size:Int)<15:=by omega
  have hb9:(15:Int)≤(t.size:Int):=by omega
  have hcs:(t.extract 15 t.size).size=t.size - 15:=by simp
  clear hN
  have bw:Below w.heap.size w (w.alloc (.cells #[.string ⟨#[]⟩,.slice none 0 0,.slice none 0 0] 74)):=by go_grown
  have pR:Blk (w.alloc (.cells #[.string ⟨#[]⟩,.slice none 0 0,.slice none 0 0] 74)) w.heap.size 74 [.string ⟨#[]⟩,.slice none 0 0,.slice none 0 0]:=blkAt _ _ _ rfl
  go_enter Tryz.func48,Tryz.ntmps48
  go_wp2_with fail
  generalize (w.alloc (.cells #[.string ⟨#[]⟩,.slice none 0 0,.slice none 0 0] 74))=w0 at *
  refine (l01Read_far _ _ (by rw [hcs];omega)).mono ?_
  rintro e w1 ⟨hR,b1⟩
  rcases hR with ⟨zs,v,hL,rfl,ho⟩ | ⟨hn,v,rfl⟩
  ·exact absurd hL (noList_long (by rw [hcs];omega) zs)
  ·replace bw:=bel8 bw b1
   replace pR:=pR.below b1
   clear hn b1
   have r0:=pR.cell 0
   have r1:=pR.cell 1
   have r2:=pR.cell 2
   have fr0:=pR.frozen 0
   have fr1:=pR.frozen 1
   have fr2:=pR.frozen 2
   have pZ:=((pR.set 0 (.string ⟨#[]⟩)).set 1 (.slice none 0 0)).set 2 (.slice none 0 0)
   simp only [List.set_cons_zero,List.set_cons_succ] at pZ
   have z0:=pZ.cell 0
   have z1:=pZ.cell 1
   have z2:=pZ.cell 2
   simp only [List.getElem?_cons_zero,List.getElem?_cons_succ] at z0 z1 z2 r0 r1 r2
   have bz:=((bw.setCell (p:=⟨w.heap.size,0,none⟩) (Nat.le_refl _) (.string ⟨#[]⟩)).setCell (p:=⟨w.heap.size,1,none⟩) (Nat.le_refl _) (.slice none 0 0)).setCell (p:=⟨w.heap.size,2,none⟩) (Nat.le_refl _) (.slice none 0 0)
   clear pZ pR
   go_wp2
   refine bodyPost_ret (by simp [results,Tryz.results48,go_sem,z0,z1,z2];try rfl) rfl ?_
   exact ⟨⟨⟨#[]⟩,((none,0,0),(none,0,0)),false,rfl,by simp [HN.out]⟩,bz⟩

theorem recB_ver {t:ByteArray} {c:Int} (h:c=0↔VerOk t):recB (1,t)=((c == 0) && decide (t.size<1000)):=by
 apply recB_mk
 rw [recOk_ver,← h]
 simp
theorem recB_ent {t:ByteArray} {b:Bool} (h:b=true↔EntTOk t):recB (2,t)=(b && decide (t.size<1000)):=by
 apply recB_mk
 rw [recOk_ent,← h]
 simp
theorem recB_com {t:ByteArray} {b:Bool} (h:b=true↔ComOk t):recB (3,t)=(b && decide (t.size<1000)):=by
 apply recB_mk
 rw [recOk_com,← h]
 simp

theorem specRecordOK_is (r:R2) (w:World) (hz:r.2.size≤1048576) :
  Calls Tryz.prog 21 #[r.val] w fun e w'=>e=.returned (.bool (recB r))∧Below w.heap.size w w':=by
 obtain ⟨k,t⟩:=r
 simp only at hz
 have hB:=Blk.new w 24 [.int .i64 k,.string t]
 have b0:=bel_new w (.cells #[.int .i64 k,.string t] 24)
 have c0:=hB.cell 0
 have c1:=hB.cell 1
 simp only [List.getElem?_cons_zero,List.getElem?_cons_succ] at c0 c1
 have hd:decide ((t.size:Int)<1000)=decide (t.size<1000):=by congr 1;apply propext;omega
 unfold R2.val
 go_enter Tryz.func21,Tryz.ntmps21
 by_cases h1:k=1
 ·subst h1
  go_wp2_with fail
  refine (specUnProg_ver t _ hz).mono ?_
  rintro e w1 ⟨⟨va,vn,vm,c,rfl,hc⟩,b1⟩
  have HC:Hid (recB (1,t)=((c == 0) && decide (t.size<1000))):=recB_ver hc
  replace hB:=(hB.below b1).below (bel_new w1 (.cells #[.slice va vn vm] 69))
  have b9:=belD (belD b0 b1) (bel_new w1 (.cells #[.slice va vn vm] 69))
  clear c0 c1 b0 b1 hc
  have c1:=hB.cell 1
  simp only [List.getElem?_cons_zero,List.getElem?_cons_succ] at c1
  clear hB
  by_cases hc0:c=0
  ·subst hc0
   go_wp2
   go_ret
   exact ⟨by rw [HC.out];simp,b9⟩
  ·have hcz:(c == 0)=false:=by simp [hc0]
   go_wp2
   go_ret
   exact ⟨by rw [HC.out,hcz];rfl,b9⟩
 by_cases h2:k=2
 ·subst h2
  go_wp2_with fail
  refine (l10Read_ent t _ hz).mono ?_
  rintro e w1 ⟨⟨kk,s,b,rfl,hc⟩,b1⟩
  have HC:Hid (recB (2,t)=(b && decide (t.size<1000))):=recB_ent hc
  unfold entV
  replace hB:=(hB.below b1).below (bel_new w1 (.cells (entC kk s).toArray 74))
  have b9:=belD (belD b0 b1) (bel_new w1 (.cells (entC kk s).toArray 74))
  unfold entC at hB b9
  clear c0 c1 b0 b1 hc
  have c1:=hB.cell 1
  simp only [List.getElem?_cons_zero,List.getElem?_cons_succ] at c1
  clear hB
  cases b
  all_goals
   go_wp2
   go_ret
   exact ⟨by rw [HC.out];simp,b9⟩
 by_cases h3:k=3
 ·subst h3
  go_wp2_with fail
  refine (l13Bugs_is t _ hz).mono ?_
  rintro e w1 ⟨⟨v,b,rfl,hc⟩,b1⟩
  have HC:Hid (recB (3,t)=(b && decide (t.size<1000))):=recB_com hc
  replace hB:=hB.below b1
  have b9:=belD b0 b1
  clear c0 c1 b0 b1 hc
  have c1:=hB.cell 1
  simp only [List.getElem?_cons_zero,List.getElem?_cons_succ] at c1
  clear hB
  cases b
  all_goals
   go_wp2
   go_ret
   exact ⟨by rw [HC.out];simp,b9⟩
 ·have HC:Hid (recB (k,t)=false):=recB_no (recOk_non h1 h2 h3)
  have d1:(k == 1)=false:=by simp [h1]
  have d2:(k == 2)=false:=by simp [h2]
  have d3:(k == 3)=false:=by simp [h3]
  go_wp2
  go_ret
  exact ⟨by rw [HC.out];rfl,by go_grown⟩


def ContGot (r:R2) (e:Ending) (w':World):Prop:=∃ v,e=.returned v ∧
 ((v=.nilIface∧¬ RecOk r) ∨
  (∃ rows a n c,v=.iface 69 (.agg #[.slice a n c])∧r.1=1∧IsProg r.2 rows 0∧Codes w' a n c rows) ∨
  (∃ e s,v=.iface 74 (entV e.1 s)∧r.1=2∧RdOk r.2 e∧Emem w' s e) ∨
  (∃ zs a n c,v=.iface 72 (.slice a n c)∧r.1=3∧Listed r.2 zs∧Instrs w' a n c (triples (ofNats zs))))

theorem bugsOfText_is (t:ByteArray) (w:World) (ht:t.size≤65536) (hE:ErrType w) :
  Calls Tryz.prog 76 #[.string t] w fun e w'=>(∃ a n cap c,e=.returned (.tuple #[.slice a n cap,.int .i64 c])∧((c=0∧∃ zs,Listed t zs∧Instrs w' a n cap (triples (ofNats zs)))∨(c≠0∧NoList t)))∧Below w.heap.size w w':=by
 go_enter Tryz.func76,Tryz.ntmps76
 go_wp2_with fail
 refine (implUnpackList_any t w ht hE).mono ?_
 rintro e w1 ⟨⟨a,cap,zs,c,hU,rfl,hO⟩,b1⟩
 have hz4:=hU.len
 have HU:Hid (IsUnpacked t zs c):=hU
 have hI:=hO.ints
 have hl:(ofNats zs).length=zs.length:=List.length_map ..
 have kB:=bugsOf_any a zs.length cap (ofNats zs) (zs.length / 3) (zs.length % 3) w1 hI (by omega) (by omega) (by omega)
 have hsm:Hid (∀ x ∈ triples (ofNats zs),x.fits):=fun x hx=>by
  obtain ⟨m1,m2,m3⟩:=triples_mem _ x hx
  rcases HU.out with ⟨_,hL⟩ | ⟨_,hN,rfl⟩
  ·have hs:=listed_small9 hL
   exact ⟨wf_small9 (hs _ m1),wf_small9 (hs _ m2),wf_small9 (hs _ m3)⟩
  ·cases m1
 clear hI hO hU
 generalize zs.length=n at *
 go_wp2_with fail
 refine kB.mono ?_
 rintro e w2 ⟨⟨v,rfl,ho⟩,b2⟩
 obtain ⟨a2,c2,rfl,hI2⟩:=Instrs.of_ownB9 ho hsm.out
 clear kB ho
 generalize (triples (ofNats zs)).length=n2 at *
 have b9:=b1.trans (b2.mono b1.size)
 go_wp2
 go_ret2
 refine ⟨⟨a2,n2,c2,c,rfl,?_⟩,b9⟩
 rcases HU.out with ⟨rfl,hL⟩ | ⟨rfl,hN,rfl⟩
 ·exact .inl ⟨rfl,zs,hL,hI2⟩
 ·exact .inr ⟨by decide,hN⟩

theorem contentOf_is (r:R2) (w:World) (hz:r.2.size<1000) (hV:VmShape w) (hE:ErrType w) :
  Calls Tryz.prog 45 #[r.val] w fun e w'=>ContGot r e w'∧Below w.heap.size w w':=by
 obtain ⟨k,t⟩:=r
 simp only at hz
 have hB:=Blk.new w 24 [.int .i64 k,.string t]
 have b0:=bel_new w (.cells #[.int .i64 k,.string t] 24)
 have c0:=hB.cell 0
 have c1:=hB.cell 1
 simp only [List.getElem?_cons_zero,List.getElem?_cons_succ] at c0 c1
 have kP:=fun W hE=>implUnProg_any t W (by omega) hE
 have kR:=fun W hV hE=>implReadEntry_is t W (by omega) hV hE
 have kC:=fun W hE=>bugsOfText_is t W (by omega) hE
 replace hV:=hV.below b0
 replace hE:=hE.below b0
 clear hB
 unfold R2.val
 go_enter Tryz.func45,Tryz.ntmps45
 by_cases h1:k=1
 ·subst h1
  go_wp2_with fail
  refine (kP _ hE).mono ?_
  rintro e w1 ⟨⟨v,rows,c,hp,rfl,hf,hO⟩,b1⟩
  obtain ⟨a,cap,rfl⟩:=hO.slice
  have hC:=hO.codes hf
  generalize rows.length=n at *
  have b9:=belD b0 b1
  clear kP kR kC hV hE c0 c1 b0 b1 hO
  by_cases hc0:c=0
  ·subst hc0
   go_wp2
   go_ret
   exact ⟨⟨_,rfl,.inr (.inl ⟨rows,a,n,cap,rfl,rfl,hp,hC⟩)⟩,b9⟩
  ·have hcz:(c == 0)=false:=by simp [hc0]
   go_wp2
   go_ret
   refine ⟨⟨_,rfl,.inl ⟨rfl,fun hr=>?_⟩⟩,b9⟩
   rw [recOk_ver] at hr
   exact hc0 ((verOk_c hp).1 hr.1)
 by_cases h2:k=2
 ·subst h2
  go_wp2_with fail
  refine (kR _ hV hE).mono ?_
  rintro e w1 ⟨hg,b1⟩
  have b9:=belD b0 b1
  clear kP kR kC hV hE c0 c1 b0 b1
  rcases hg with ⟨x,s,hx,rfl,hO⟩ | ⟨hno,rfl⟩
  ·have hM:=hO.mem hx.fits
   clear hO
   go_wp2
   go_ret
   exact ⟨⟨_,rfl,.inr (.inr (.inl ⟨x,s,rfl,rfl,hx,hM⟩))⟩,b9⟩
  ·have hcz:(rdC t == 0)=false:=by unfold rdC;split<;>rfl
   have hcn:¬ rdC t=0:=by unfold rdC;split<;>omega
   generalize rdC t=c at *
   go_wp2
   go_ret
   refine ⟨⟨_,rfl,.inl ⟨rfl,fun hr=>?_⟩⟩,b9⟩
   rw [recOk_ent] at hr
   obtain ⟨⟨x,hx⟩,_⟩:=hr
   exact hno x hx
 by_cases h3:k=3
 ·subst h3
  go_wp2_with fail
  refine (kC _ hE).mono ?_
  rintro e w1 ⟨⟨a,n,cap,c,rfl,hg⟩,b1⟩
  have b9:=belD b0 b1
  clear kP kR kC hV hE c0 c1 b0 b1
  rcases hg with ⟨rfl,zs,hL,hI⟩ | ⟨hc0,hN⟩
  ·go_wp2
   go_ret
   exact ⟨⟨_,rfl,.inr (.inr (.inr ⟨zs,a,n,cap,rfl,rfl,hL,hI⟩))⟩,b9⟩
  ·have hcz:(c == 0)=false:=by simp [hc0]
   go_wp2
   go_ret
   refine ⟨⟨_,rfl,.inl ⟨rfl,fun hr=>?_⟩⟩,b9⟩
   rw [recOk_com] at hr
   exact comOk_no hN hr.1
 ·have d1:(k == 1)=false:=by simp [h1]
  have d2:(k == 2)=false:=by simp [h2]
  have d3:(k == 3)=false:=by simp [h3]
  clear kP kR kC hV hE
  go_wp2
  go_ret
  exact ⟨⟨_,rfl,.inl ⟨rfl,recOk_non h1 h2 h3⟩⟩,by go_grown⟩


theorem ta_yes {P:Program} {T:TypeId} {u:TypeDesc} (hu:P.underlying T=some u) (hn:∀ x,u≠.interface x) (v:Value) (xT:TypeId) (w:World):(Instr.typeAssert (.iface T v) xT T true).run P w=.ok (.tuple #[v,.bool true]) w:=by
 cases u<;>first | (exact absurd rfl (hn _)) | simp [Instr.typeAssert,run_underlying hu]
theorem ta_no {P:Program} {T S:TypeId} {u:TypeDesc} {z:Value} (hu:P.underlying S=some u) (hn:∀ x,u≠.interface x) (hT:T≠S) (hz:(P.info? S).map (·.zero)=some (some z)) (v:Value) (xT:TypeId) (w:World):(Instr.typeAssert (.iface T v) xT S true).run P w=.ok (.tuple #[z,.bool false]) w:=by
 obtain ⟨j,hj,hz'⟩:=Option.map_eq_some_iff.1 hz
 cases u<;>first | (exact absurd rfl (hn _)) | simp [Instr.typeAssert,run_underlying hu,hT,zeroValue,typeInfo,hj,hz']
theorem ta_nil {P:Program} {S:TypeId} {u:TypeDesc} {z:Value} (hu:P.underlying S=some u) (hn:∀ x,u≠.interface x) (hz:(P.info? S).map (·.zero)=some (some z)) (xT:TypeId) (w:World):(Instr.typeAssert .nilIface xT S true).run P w=.ok (.tuple #[z,.bool false]) w:=by
 obtain ⟨j,hj,hz'⟩:=Option.map_eq_some_iff.1 hz
 cases u<;>first | (exact absurd rfl (hn _)) | simp [Instr.typeAssert,run_underlying hu,zeroValue,typeInfo,hj,hz']
theorem uP:(∃ u,Tryz.prog.underlying 69=some u∧∀ x,u≠.interface x):=⟨_,Tryz.underlying69,fun x h=>by cases h⟩
theorem uE:(∃ u,Tryz.prog.underlying 74=some u∧∀ x,u≠.interface x):=⟨_,Tryz.underlying74,fun x h=>by cases h⟩
theorem uB:(∃ u,Tryz.prog.underlying 72=some u∧∀ x,u≠.interface x):=⟨_,Tryz.underlying72,fun x h=>by cases h⟩
theorem zP:(Tryz.prog.info? 69).map (·.zero)=some (some (.agg #[.slice none 0 0])):=by kernel_rfl
theorem zE:(Tryz.prog.info? 74).map (·.zero)=some (some (.agg #[.string ⟨#[]⟩,.slice none 0 0,.slice none 0 0])):=by kernel_rfl
theorem zB:(Tryz.prog.info? 72).map (·.zero)=some (some (.slice none 0 0)):=by kernel_rfl

theorem inj13 {a b:ByteArray} (h:a.toList=b.toList):a=b:=by
 rw [ByteArray.toList_eq,ByteArray.toList_eq] at h
 exact ByteArray.ext (Array.ext' h)

def AgainGot (r:R2) (e:Ending):Prop:=∃ (x:ByteArray) (c:Int),e=.returned (.tuple #[.string x,.int .i64 c])∧((c=0∧x=r.2)↔RecOk r)

theorem textOfContent_is (r:R2) (v:Value) (w:World) (hz:r.2.size<1000) (h:ContGot r (.returned v) w) (hV:VmShape w) :
  Calls Tryz.prog 44 #[v] w fun e w'=>AgainGot r e∧Below w.heap.size w w':=by
 obtain ⟨k,t⟩:=r
 simp only at hz
 obtain ⟨uP,hP,nP⟩:=uP
 obtain ⟨uE,hE,nE⟩:=uE
 obtain ⟨uB,hB,nB⟩:=uB
 obtain ⟨v',e,h⟩:=h
 obtain rfl:v=v':=by injection e
 clear e
 rcases h with ⟨rfl,hno⟩ | ⟨rows,a,n,c,rfl,hk,hp,hC⟩ | ⟨x,s,rfl,hk,hx,hM⟩ | ⟨zs,a,n,c,rfl,hk,hL,hI⟩
 ·have t1:=ta_nil hP nP zP
  have t2:=ta_nil hE nE zE
  have t3:=ta_nil hB nB zB
  go_enter Tryz.func44,Tryz.ntmps44
  go_wp2
  go_ret2
  exact ⟨⟨_,3,rfl,⟨fun h=>absurd h.1 (by decide),fun h=>absurd h hno⟩⟩,Below.refl _ _⟩
 ·obtain rfl:k=1:=hk
  obtain ⟨ho,ht⟩:=ver_text hp
  have hr:RecOk (1,t):=recOk_ver.2 ⟨⟨rows,hp⟩,hz⟩
  have t1:=ta_yes hP nP (.agg #[.slice a n c])
  have b0:=bel_new w (.cells #[.slice a n c] 69)
  have kP:=implPack_ok a n c rows _ (hC.below b0) ho
  clear hC
  go_enter Tryz.func44,Tryz.ntmps44
  go_wp2_with fail
  refine kP.mono ?_
  rintro e w1 ⟨rfl,b1⟩
  rw [ht]
  have b9:=belD b0 b1
  clear kP b0 b1
  go_wp2
  go_ret2
  exact ⟨⟨t,0,rfl,fun _=>hr,fun _=>⟨rfl,rfl⟩⟩,b9⟩
 ·obtain rfl:k=2:=hk
  obtain ⟨ho,ht⟩:=ent_text hx
  have hr:RecOk (2,t):=recOk_ent.2 ⟨⟨x,hx⟩,hz⟩
  have t1:=ta_no (T:=74) hP nP (by decide) zP (entV x.1 s)
  have t2:=ta_yes hE nE (entV x.1 s)
  have b0:=bel_new w (.cells (entC x.1 s).toArray 74)
  have kP:=implEntryText_is x s _ (hM.below b0) (hV.below b0)
  rw [show etxT x=t from by unfold etxT;rw [if_pos ho];exact ht,show etxC x=0 from by unfold etxC;rw [if_pos ho]] at kP
  clear hM
  unfold entV entC at *
  go_enter Tryz.func44,Tryz.ntmps44
  go_wp2_with fail
  refine kP.mono ?_
  rintro e w1 ⟨rfl,b1⟩
  have b9:=belD b0 b1
  clear kP b0 b1
  go_wp2
  go_ret2
  exact ⟨⟨t,0,rfl,fun _=>hr,fun _=>⟨rfl,rfl⟩⟩,b9⟩
 ·obtain rfl:k=3:=hk
  have t1:=ta_no (T:=72) hP nP (by decide) zP (.slice a n c)
  have t2:=ta_no (T:=72) hE nE (by decide) zE (.slice a n c)
  have t3:=ta_yes hB nB (.slice a n c)
  have kP:=implCommitText_is a n c _ w hI
  have hq:Hid ((comC (triples (ofNats zs))).2=0∧(comC (triples (ofNats zs))).1=t↔RecOk (3,t)):=by
   constructor
   ·rintro ⟨h1,h2⟩
    exact recOk_com.2 ⟨comC_back (Prod.ext h2 h1),hz⟩
   ·intro hr
    rw [comC_yes hL (recOk_com.1 hr).1]
    exact ⟨rfl,rfl⟩
  clear hI
  unfold ResC at kP
  generalize comC (triples (ofNats zs))=R at *
  obtain ⟨x,d⟩:=R
  simp only at kP
  go_enter Tryz.func44,Tryz.ntmps44
  go_wp2_with fail
  refine kP.mono ?_
  rintro e w1 ⟨rfl,b1⟩
  clear kP
  go_wp2
  go_ret2
  exact ⟨⟨x,d,rfl,hq.out⟩,b1⟩

theorem implRecordOK_is (r:R2) (w:World) (hz:r.2.size≤1048576) (hV:VmShape w) (hE:ErrType w) :
  Calls Tryz.prog 18 #[r.val] w fun e w'=>e=.returned (.bool (recB r))∧Below w.heap.size w w':=by
 obtain ⟨k,t⟩:=r
 simp only at hz
 have hB:=Blk.new w 24 [.int .i64 k,.string t]
 have b0:=bel_new w (.cells #[.int .i64 k,.string t] 24)
 have c0:=hB.cell 0
 have c1:=hB.cell 1
 simp only [List.getElem?_cons_zero,List.getElem?_cons_succ] at c0 c1
 replace hV:=hV.below b0
 replace hE:=hE.below b0
 by_cases h9:999<t.size
 ·have HC:Hid (recB (k,t)=false):=recB_no (fun h=>by have:=h.1;simp only at this;omega)
  have h2:(999:Int)<(t.size:Int):=by omega
  clear hV hE hB
  unfold R2.val
  go_enter Tryz.func18,Tryz.ntmps18
  go_wp2
  go_ret
  exact ⟨by rw [HC.out];rfl,by go_grown⟩
 have h2:¬ (999:Int)<(t.size:Int):=by omega
 have kC:=contentOf_is (k,t) _ (by simp only;omega) hV hE
 unfold R2.val at kC ⊢
 simp only at kC
 go_enter Tryz.func18,Tryz.ntmps18
 go_wp2_with fail
 refine kC.mono ?_
 rintro e w1 ⟨hg,b1⟩
 obtain ⟨v,rfl,hg⟩:=hg
 have kT:=textOfContent_is (k,t) v w1 (by simp only;omega) ⟨v,rfl,hg⟩ (hV.below b1)
 replace hB:=hB.below b1
 replace b0:=belD b0 b1
 clear kC hV hE c0 c1 b1 hg
 go_wp2_with fail
 refine kT.mono ?_
 rintro e w2 ⟨⟨x,c,rfl,hq⟩,b2⟩
 replace hB:=hB.below b2
 replace b0:=belD b0 b2
 have c1:=hB.cell 1
 simp only [List.getElem?_cons_zero,List.getElem?_cons_succ] at c1
 have HY:Hid (c=0→x=t→recB (k,t)=true):=fun h1 h2=>recB_yes (hq.1 ⟨h1,h2⟩)
 have HN:Hid (¬ (c=0∧x=t)→recB (k,t)=false):=fun h1=>recB_no (fun g=>h1 (hq.2 g))
 clear kT hB b2 hq
 by_cases hc0:c=0
 ·subst hc0
  by_cases hx:x=t
  ·subst hx
   have HC:=HY.out rfl rfl
   have hxx:(x.toList == x.toList)=true:=by simp
   clear HY HN
   go_wp2
   go_ret
   exact ⟨by rw [HC];rfl,b0⟩
  ·have HC:Hid (recB (k,t)=false):=HN.out (fun h=>hx h.2)
   have hxx:(x.toList == t.toList)=false:=by
    rw [beq_eq_false_iff_ne]
    intro h
    exact hx (inj13 h)
   clear HY HN
   go_wp2
   go_ret
   exact ⟨by rw [HC.out];rfl,b0⟩
 ·have HC:Hid (recB (k,t)=false):=HN.out (fun h=>hc0 h.1)
  have hcz:(c == 0)=false:=by simp [hc0]
  clear HY HN
  go_wp2
  go_ret
  exact ⟨by rw [HC.out];rfl,b0⟩
end Go.Proofs.YtdopgkbegjfhjaaGreatDoor
