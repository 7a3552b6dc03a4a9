/-
  Joined: UnpackI, UnProgI, NumP, Ent2, RdP, Sum0, Clone, Unframe.
-/
import Derived.Lib.Strings
import Derived.Lib.Walk
import Derived.Lib.BufferWrite
import Derived.Lib.UnsafeStr
import Derived.Laws.MakeOwn
import Derived.Test.YtdopgkbegjfhjaaGreatDoorL16

namespace Go.Proofs.YtdopgkbegjfhjaaGreatDoor
set_option maxRecDepth 100000
set_option maxHeartbeats 16000000
open Go.RowKit

abbrev ofNats (zs:List Nat):List Int:=zs.map fun z:Nat=>(z:Int)
def Own (base:Nat) (w:World) (a:Option Addr) (n cap:Nat) (zs:List Int):Prop:=
 zs.length=n∧n≤cap∧cap≤maxLen∧(n=0∨∃ g,a=some ⟨g,0,none⟩∧w.ownsRow base 3 1 (.slice (some ⟨g,0,none⟩) n cap) n (zs.map (Value.int .i64)))
theorem Own.ints {base:Nat} {w:World} {a:Option Addr} {n cap:Nat} {zs:List Int} (h:Own base w a n cap zs):Ints .i64 w a n cap zs:=by
 obtain ⟨h1,h2,h3,h4⟩:=h
 rcases h4 with h4 | ⟨g,rfl,h4⟩
 ·exact ⟨h1,h2,h3,.inl h4⟩
 ·exact Ints.of_owns h4
theorem Own.of_owns {base:Nat} {w:World} {v:Value} {n:Nat} {zs:List Int} (h:w.ownsRow base 3 1 v n (zs.map (Value.int .i64))):∃ a cap,v=.slice a n cap∧Own base w a n cap zs:=by
 have hl:zs.length=n:=by simpa using h.1
 rcases h.2 with ⟨rfl,rfl⟩ | ⟨g,cap,cur,rfl,hg,hh,hn,hc,hs,ht⟩
 ·exact ⟨none,0,rfl,hl,Nat.le_refl _,by unfold maxLen;omega,.inl rfl⟩
 ·exact ⟨_,cap,rfl,hl,hn,hc,.inr ⟨g,rfl,h⟩⟩
theorem Own.kept {base:Nat} {w w':World} {a:Option Addr} {n cap:Nat} {zs:List Int} (h:Own base w a n cap zs) (hb:Below w.heap.size w w'):Own base w' a n cap zs:=by
 obtain ⟨h1,h2,h3,h4⟩:=h
 refine ⟨h1,h2,h3,?_⟩
 rcases h4 with h4 | ⟨g,rfl,h4⟩
 ·exact .inl h4
 ·exact .inr ⟨g,rfl,h4.kept (row:=none) ⟨hb.os,hb.tape,hb.output,hb.size,fun i hi _=>hb.block i hi⟩ (by simp [Value.ownBlock])⟩
def IsUnpacked (s:ByteArray) (zs:List Nat) (c:Int):Prop:=(c=0∧Listed s zs)∨(c=3∧NoList s∧zs=[])
theorem IsUnpacked.same {s:ByteArray} {zs ys:List Nat} {c d:Int} (h:IsUnpacked s zs c) (g:IsUnpacked s ys d):zs=ys∧c=d:=by
 rcases h with ⟨rfl,h⟩ | ⟨rfl,h,rfl⟩<;>rcases g with ⟨rfl,g⟩ | ⟨rfl,g,rfl⟩
 ·exact ⟨h.only g,rfl⟩
 ·exact absurd h (g _)
 ·exact absurd g (h _)
 ·exact ⟨rfl,rfl⟩
theorem IsUnpacked.len {s:ByteArray} {zs:List Nat} {c:Int} (h:IsUnpacked s zs c):zs.length≤4096:=by
 rcases h with ⟨_,_,_,h,_⟩ | ⟨_,_,rfl⟩
 ·exact h
 ·simp
def UnpackedL (s:ByteArray) (base:Nat) (e:Ending) (w':World):Prop:=
 ∃ (a:Option Addr) (cap:Nat) (zs:List Nat) (c:Int),IsUnpacked s zs c∧e=.returned (.tuple #[.slice a zs.length cap,.int .i64 c])∧Own base w' a zs.length cap (ofNats zs)

theorem implUnpackList_any (s:ByteArray) (w:World) (hs:s.size≤65536) (hE:ErrType w) :
  Calls Tryz.prog 101 #[.string s] w fun e w'=>UnpackedL s w.heap.size e w'∧Below w.heap.size w w':=by
 go_enter Tryz.func101,Tryz.ntmps101
 go_wp2_with fail
 refine (readList_any s _ hs).mono ?_
 rintro e w1 ⟨hk,hb1⟩
 have hE1:=hE.below hb1
 rcases hk with ⟨zs,g,hL,rfl,ho⟩ | ⟨hN,y,rfl⟩
 ·have HL:Hid (Listed s zs):=hL
  have HO:Hid (Own w.heap.size w1 (some ⟨g,0,none⟩) zs.length zs.length (ofNats zs)):=by
   obtain ⟨a,cap,e,hO⟩:=Own.of_owns ho
   cases e
   exact hO
  clear hL ho
  go_wp2_with fail
  refine (faultCode_nil _).mono ?_
  rintro e w2 ⟨rfl,hb2⟩
  go_wp2
  go_ret2
  exact ⟨⟨_,_,zs,0,.inl ⟨rfl,HL.out⟩,rfl,HO.out.kept hb2⟩,sub_trans hb1 hb2⟩
 ·have HN:Hid (NoList s):=hN
  clear hN
  go_wp2_with fail
  refine (faultCode_hit 3 y _ hE1).mono ?_
  rintro e w2 ⟨rfl,hb2⟩
  go_wp2
  go_ret2
  exact ⟨⟨none,0,[],3,.inr ⟨rfl,HN.out,rfl⟩,rfl,rfl,Nat.le_refl _,by unfold maxLen;omega,.inl rfl⟩,sub_trans hb1 hb2⟩


theorem numsAt_small {s:ByteArray}:∀ {zs:List Nat} {p q:Nat},NumsAt s p zs q→∀ z ∈ zs,z≤999999999
 | [],_,_,_,z,hz=>by cases hz
 | y::zs,p,q,h,z,hz=>by
  obtain ⟨k,hk,hr⟩:=h
  rcases List.mem_cons.1 hz with rfl | hz
  ·exact hk.val_le
  ·exact numsAt_small hr z hz
theorem Listed.small {s:ByteArray} {zs:List Nat} (h:Listed s zs):∀ z ∈ ofNats zs,0≤z∧z≤999999999:=by
 obtain ⟨k,_,_,hz⟩:=h
 intro z hm
 obtain ⟨y,hy,rfl⟩:=List.mem_map.1 hm
 have:=numsAt_small hz y hy
 exact ⟨by omega,by omega⟩

def IsProg (s:ByteArray) (rows:List (List I3)) (c:Int):Prop:=
 (c=0∧∃ zs,Listed s zs∧parse 3 (ofNats zs)=some rows∧progOk rows=true) ∨
 (c=3∧rows=[]∧∀ zs rows',Listed s zs→parse 3 (ofNats zs)=some rows'→progOk rows'=false)
theorem IsProg.same {s:ByteArray} {r r':List (List I3)} {c c':Int} (h:IsProg s r c) (g:IsProg s r' c'):r=r'∧c=c':=by
 rcases h with ⟨rfl,zs,hL,hp,ho⟩ | ⟨rfl,rfl,hn⟩<;>rcases g with ⟨rfl,ys,gL,gp,go⟩ | ⟨rfl,rfl,gn⟩
 ·obtain rfl:=hL.only gL
  rw [hp] at gp
  cases gp
  exact ⟨rfl,rfl⟩
 ·have:=gn _ _ hL hp
  rw [ho] at this
  cases this
 ·have:=hn _ _ gL gp
  rw [go] at this
  cases this
 ·exact ⟨rfl,rfl⟩
theorem IsProg.of_read {s:ByteArray} {zs:List Nat} (hL:Listed s zs) (hn:∀ rows,parse 3 (ofNats zs)=some rows→progOk rows=false):IsProg s [] 3:=
 .inr ⟨rfl,rfl,fun ys rows' gL gp=>by
  obtain rfl:=hL.only gL
  exact hn _ gp⟩
theorem IsProg.of_none {s:ByteArray} (hn:NoList s):IsProg s [] 3:=.inr ⟨rfl,rfl,fun ys _ gL _=>absurd gL (hn ys)⟩
def UnProg (s:ByteArray) (base:Nat) (e:Ending) (w':World):Prop:=
 ∃ (v:Value) (rows:List (List I3)) (c:Int),IsProg s rows c∧e=.returned (.tuple #[.agg #[v],.int .i64 c])∧allFit rows∧OwnProg w' base v rows
theorem allFit_nil:allFit []:=fun r hr=>by cases hr

theorem implUnProg_any (s:ByteArray) (w:World) (hs:s.size≤65536) (hE:ErrType w) :
  Calls Tryz.prog 74 #[.string s] w fun e w'=>UnProg s w.heap.size e w'∧Below w.heap.size w w':=by
 go_enter Tryz.func74,Tryz.ntmps74
 go_wp2_with fail
 refine (implUnpackList_any s _ hs (hE.below (by go_grown))).mono ?_
 rintro e w1 ⟨⟨a,cap,zs,c,hU,rfl,hO⟩,hb1⟩
 have kR:w1.cell? ⟨w.heap.size,0,none⟩=some (.slice none 0 0):=by rw [hb1.cell (by simp)];simp [go_sem]
 have fR:w1.frozen? ⟨w.heap.size,0,none⟩=false:=by rw [hb1.frozen (by simp)];first | (simp [go_sem];done) | (simp [World.frozen?];done)
 have b1:Below w.heap.size w w1:=bel_trans (by go_grown) hb1
 have hz4:=hU.len
 have HU:Hid (IsUnpacked s zs c):=hU
 have hI:=hO.ints
 clear hb1 hU hO hE
 obtain ⟨n,hn⟩:∃ n,n=zs.length:=⟨_,rfl⟩
 rw [← hn] at hI hz4
 rw [← hn]
 rcases HU.out with ⟨rfl,hL⟩ | ⟨rfl,hN,rfl⟩
 ·have HL:Hid (Listed s zs):=hL
  have KP:=programOfList_any a n cap (ofNats zs) w1 hI hL.small hz4
  clear hL HU hI hn
  go_wp2_with fail
  refine KP.mono ?_
  rintro e w2 ⟨hk2,hb2⟩
  clear KP
  rcases hk2 with ⟨rows,v,hp,hok,rfl,hfit,hOP⟩ | ⟨hno,aV,lV,cV,rfl⟩
  ·have HP:Hid (IsProg s rows 0):=.inl ⟨rfl,zs,HL.out,hp,hok⟩
   clear HL hp hok
   obtain ⟨aV,capV,hv⟩:=hOP.slice
   generalize rows.length=lr at hv
   subst hv
   have kR2:=cells_kept hb2 _ _ kR
   have hR2:=lt_of_cell kR2
   have fR2:w2.frozen? ⟨w.heap.size,0,none⟩=false:=by rw [hb2.frozen (by exact lt_of_cell kR)];exact fR
   have b2:=bel_trans b1 hb2
   have hRw:w.heap.size<w1.heap.size:=lt_of_cell kR
   have hOP4:=((hOP.low (p:=⟨w.heap.size,0,none⟩) hRw (.slice aV lr capV)).below (w':=(w2.setCell ⟨w.heap.size,0,none⟩ (.slice aV lr capV)).alloc (.cells #[.slice aV lr capV] 69)) (by go_grown)).lower (B':=w.heap.size) (by omega)
   have k9:((w2.setCell ⟨w.heap.size,0,none⟩ (.slice aV lr capV)).alloc (.cells #[.slice aV lr capV] 69)).cell? ⟨w.heap.size,0,none⟩=some (.slice aV lr capV):=cells_kept (by go_grown) _ _ (World.cell?_setCell_same' w2 _ _ (by rw [kR2];rfl))
   have b4:Below w.heap.size w ((w2.setCell ⟨w.heap.size,0,none⟩ (.slice aV lr capV)).alloc (.cells #[.slice aV lr capV] 69)):=(b2.setCell (Nat.le_refl _) _).alloc (by simp;omega) _
   clear kR fR b1 hb2 hOP b2
   go_wp2
   clear kR2 fR2
   generalize (w2.setCell ⟨w.heap.size,0,none⟩ (.slice aV lr capV)).alloc (.cells #[.slice aV lr capV] 69)=w9 at k9 b4 hOP4
   refine bodyPost_ret (by simp [results,Tryz.results74,go_sem,k9];try rfl) rfl ?_
   exact ⟨⟨_,rows,0,HP.out,rfl,hfit,hOP4⟩,b4⟩
  ·have HP:Hid (IsProg s [] 3):=IsProg.of_read HL.out hno
   clear HL hno
   have kR2:=cells_kept hb2 _ _ kR
   have hR2:=lt_of_cell kR2
   have fR2:w2.frozen? ⟨w.heap.size,0,none⟩=false:=by rw [hb2.frozen (by exact lt_of_cell kR)];exact fR
   have b2:=bel_trans b1 hb2
   have k9:((w2.setCell ⟨w.heap.size,0,none⟩ (.slice none 0 0)).alloc (.cells #[.slice aV lV cV] 69)).cell? ⟨w.heap.size,0,none⟩=some (.slice none 0 0):=cells_kept (by go_grown) _ _ (World.cell?_setCell_same' w2 _ _ (by rw [kR2];rfl))
   have b4:Below w.heap.size w ((w2.setCell ⟨w.heap.size,0,none⟩ (.slice none 0 0)).alloc (.cells #[.slice aV lV cV] 69)):=(b2.setCell (Nat.le_refl _) _).alloc (by simp;omega) _
   clear kR fR b1 hb2 b2
   go_wp2
   clear kR2 fR2
   generalize (w2.setCell ⟨w.heap.size,0,none⟩ (.slice none 0 0)).alloc (.cells #[.slice aV lV cV] 69)=w9 at k9 b4
   refine bodyPost_ret (by simp [results,Tryz.results74,go_sem,k9];try rfl) rfl ?_
   exact ⟨⟨_,[],3,HP.out,rfl,allFit_nil,OwnProg.nil _ _⟩,b4⟩
 ·have HP:Hid (IsProg s [] 3):=IsProg.of_none hN
  have b4:Below w.heap.size w (w1.setCell ⟨w.heap.size,0,none⟩ (.slice none 0 0)):=b1.setCell (Nat.le_refl _) _
  have k9:(w1.setCell ⟨w.heap.size,0,none⟩ (.slice none 0 0)).cell? ⟨w.heap.size,0,none⟩=some (.slice none 0 0):=World.cell?_setCell_same' w1 _ _ (by rw [kR];rfl)
  clear hN HU hI hn b1
  go_wp2
  clear kR fR
  generalize w1.setCell ⟨w.heap.size,0,none⟩ (.slice none 0 0)=w9 at k9 b4
  refine bodyPost_ret (by simp [results,Tryz.results74,go_sem,k9];try rfl) rfl ?_
  exact ⟨⟨_,[],3,HP.out,rfl,allFit_nil,OwnProg.nil _ _⟩,b4⟩


def digVal (s:ByteArray):Nat→Nat
 | 0=>0
 | k+1=>10*digVal s k+(bt s k - 48)
def allDig (s:ByteArray) (k:Nat):Prop:=∀ i,i<k→48≤bt s i∧bt s i≤57
theorem allDig_zero (s:ByteArray):allDig s 0:=fun i h=>absurd h (by omega)
theorem allDig_succ {s:ByteArray} {k:Nat} (h:allDig s k) (h1:48≤bt s k) (h2:bt s k≤57):allDig s (k+1):=by
 intro i hi
 rcases Nat.lt_or_ge i k with h' | h'
 ·exact h i h'
 ·obtain rfl:i=k:=by omega
  exact ⟨h1,h2⟩
theorem digVal_lt {s:ByteArray}:∀ {k:Nat},allDig s k→digVal s k<10 ^ k
 | 0,_=>by simp [digVal]
 | k+1,h=>by
  have ih:=digVal_lt (k:=k) (fun i hi=>h i (by omega))
  have:=h k (by omega)
  rw [digVal,Nat.pow_succ]
  omega
theorem digVal_small {s:ByteArray} {k:Nat} (h:allDig s k) (hk:k≤18):digVal s k<1000000000000000000:=by
 have h1:=digVal_lt h
 have h2:10 ^ k≤10 ^ 18:=Nat.pow_le_pow_right (by omega) hk
 have:(10:Nat) ^ 18=1000000000000000000:=by decide
 omega
def IsDec (s:ByteArray) (n:Nat):Prop:=1≤s.size∧s.size≤18∧¬ (1<s.size∧bt s 0=48)∧allDig s s.size∧n=digVal s s.size
theorem IsDec.only {s:ByteArray} {n m:Nat} (h:IsDec s n) (g:IsDec s m):n=m:=h.2.2.2.2.trans g.2.2.2.2.symm
theorem IsDec.lt {s:ByteArray} {n:Nat} (h:IsDec s n):n<1000000000000000000:=by
 obtain ⟨_,h2,_,h4,rfl⟩:=h
 exact digVal_small h4 h2

set_option linter.unusedVariables false
set_option linter.unusedSimpArgs false

def OwnE (w:World) (B:Nat) (vb vf:Value) (e:E3):Prop:=w.ownsRow B 112 3 vb e.2.1.length (flat e.2.1)∧w.ownsRow B 3 1 vf e.2.2.length (e.2.2.map (Value.int .i64))
theorem OwnE.below {w w':World} {B:Nat} {vb vf:Value} {e:E3} (h:OwnE w B vb vf e) (hb:Below w.heap.size w w'):OwnE w' B vb vf e:=⟨owns8 h.1 hb,owns8 h.2 hb⟩
theorem OwnE.lower {w:World} {B B':Nat} {vb vf:Value} {e:E3} (h:OwnE w B vb vf e) (hB:B'≤B):OwnE w B' vb vf e:=⟨lower8 h.1 hB,lower8 h.2 hB⟩
theorem Instrs.of_ownB9 {w:World} {B:Nat} {v:Value} {xs:List I3} (h:w.ownsRow B 112 3 v xs.length (flat xs)) (hf:∀ x ∈ xs,I3.fits x):∃ a cap,v=.slice a xs.length cap∧Instrs w a xs.length cap xs:=by
 rcases h.2 with ⟨hv,h0⟩ | ⟨g,cap,cur,hv,_⟩
 ·obtain rfl:xs=[]:=List.eq_nil_of_length_eq_zero h0
  exact ⟨none,0,hv,rfl,Nat.le_refl _,by unfold maxLen;omega,by simp,.inl rfl⟩
 ·subst hv
  exact ⟨_,_,rfl,Instrs.of_owns h rfl hf rfl⟩
def E3.fits (e:E3):Prop:=e.1.size≤maxLen∧(∀ x ∈ e.2.1,I3.fits x)∧∀ z ∈ e.2.2,(Lit.int .i64 z).wf=true
theorem Emem.fits {w:World} {s:Sl2} {e:E3} (h:Emem w s e):e.fits:=⟨h.1.1,h.2.1.2.2.2.1,h.2.2.2⟩
theorem own_nil0 {w:World} {B e s n:Nat} {a:Option Addr} {m c:Nat} {xs:List Value} (h:w.ownsRow B e s (.slice a m c) n xs):a=none→c=0:=by
 rcases h.2 with ⟨hv,_⟩ | ⟨g,cap,cur,hv,_⟩
 ·injection hv with e1 e2 e3
  exact fun _=>e3
 ·injection hv with e1 e2 e3
  intro ha
  rw [ha] at e1
  cases e1
theorem OwnE.mem {w:World} {B:Nat} {s:Sl2} {e:E3} (h:OwnE w B (.slice s.1.1 s.1.2.1 s.1.2.2) (.slice s.2.1 s.2.2.1 s.2.2.2) e) (hf:e.fits):Emem w s e:=by
 obtain ⟨⟨a1,n1,c1⟩,⟨a2,n2,c2⟩⟩:=s
 obtain ⟨h1,h2⟩:=h
 simp only at h1 h2
 refine ⟨⟨hf.1,own_nil0 h1,own_nil0 h2⟩,?_,?_,hf.2.2⟩
 ·obtain ⟨a,cap,hv,hI⟩:=Instrs.of_ownB9 h1 hf.2.1
  injection hv with e1 e2 e3
  subst e1 e2 e3
  exact hI
 ·obtain ⟨a,cap,hv⟩:=slice8 h2
  injection hv with e1 e2 e3
  subst e1 e2 e3
  exact ints8 h2


def entZ (key:ByteArray) (zs:List Nat):E3:=(key,triples (((ofNats zs).drop 1).take (3*zs.getD 0 0)),(ofNats zs).drop (1+3*zs.getD 0 0))
def RdOk (t:ByteArray) (e:E3):Prop:=t.size≤65536∧15≤t.size∧∃ zs,Listed (t.extract 15 t.size) zs∧1≤zs.length∧1+3*zs.getD 0 0≤zs.length∧e=entZ (t.extract 0 15) zs∧entOk e=true
theorem RdOk.only {t:ByteArray} {e e':E3} (h:RdOk t e) (h':RdOk t e'):e=e':=by
 obtain ⟨_,_,zs,h1,_,_,rfl,_⟩:=h
 obtain ⟨_,_,ys,g1,_,_,rfl,_⟩:=h'
 rw [h1.only g1]
theorem RdOk.ok {t:ByteArray} {e:E3} (h:RdOk t e):entOk e=true:=by
 obtain ⟨_,_,zs,h1,_,_,_,h9⟩:=h
 exact h9
def rdC (t:ByteArray):Int:=if 65536<t.size then 2 else 3
theorem wf_small9 {z:Int} (h:0≤z∧z≤999999999):(Lit.int .i64 z).wf=true:=by
 simp only [Lit.wf,Bool.and_eq_true,decide_eq_true_eq]
 have h1:IntKind.i64.min=-9223372036854775808:=by decide
 have h2:IntKind.i64.max=9223372036854775807:=by decide
 omega
theorem listed_small9 {s:ByteArray} {zs:List Nat} (h:Listed s zs):∀ z ∈ ofNats zs,0≤z∧z≤999999999:=by
 obtain ⟨k,_,_,hz⟩:=h
 intro z hm
 obtain ⟨y,hy,rfl⟩:=List.mem_map.1 hm
 have:=numsAt_small hz y hy
 exact ⟨by omega,by omega⟩
theorem entZ_fits {s key:ByteArray} {zs:List Nat} (h:Listed s zs) (hk:key.size≤maxLen):(entZ key zs).fits:=by
 have hs:=listed_small9 h
 refine ⟨hk,fun x hx=>?_,fun z hz=>wf_small9 (hs z (List.mem_of_mem_drop hz))⟩
 obtain ⟨m1,m2,m3⟩:=triples_mem _ x hx
 exact ⟨wf_small9 (hs _ (List.mem_of_mem_drop (List.mem_of_mem_take m1))),wf_small9 (hs _ (List.mem_of_mem_drop (List.mem_of_mem_take m2))),wf_small9 (hs _ (List.mem_of_mem_drop (List.mem_of_mem_take m3)))⟩
theorem cut15 {t:ByteArray} (h:15≤t.size):(t.extract 0 15).size=15:=by simp;omega
theorem RdOk.fits {t:ByteArray} {e:E3} (h:RdOk t e):e.fits:=by
 obtain ⟨_,h15,zs,h1,_,_,rfl,_⟩:=h
 exact entZ_fits h1 (by rw [cut15 h15];unfold maxLen;omega)
theorem noList_nil {s:ByteArray} (h:s.size=0):NoList s:=by
 rintro zs ⟨k,hk,_,_⟩
 have:=hk.le
 have:=hk.one
 omega
theorem RdOk.more {t:ByteArray} {e:E3} (h:RdOk t e):15<t.size:=by
 obtain ⟨_,h15,zs,h1,_⟩:=h
 rcases Nat.lt_or_ge 15 t.size with h | h
 ·exact h
 ·exact absurd h1 (noList_nil (by simp;omega) zs)
theorem btV_cut {t:ByteArray} (h:15≤t.size) {i:Nat} (hi:i<15):btV (t.extract 0 15) i=(bt t i:Int):=by
 have h1:i<t.size:=by omega
 have h2:i<(t.extract 0 15).size:=by rw [cut15 h];exact hi
 unfold btV bt
 rw [dif_pos h1]
 have h3:i<(t.extract 0 15).data.toList.length:=by rw [Array.length_toList];exact h2
 have e:(t.extract 0 15).data.toList.getD i 0=t[i]'h1:=by
  rw [List.getD,List.getElem?_eq_getElem h3,Option.getD_some,Array.getElem_toList]
  have:=ByteArray.getElem_extract (i:=i) (start:=0) (stop:=15) (b:=t) h2
  simp only [Nat.zero_add] at this
  exact this
 rw [e]
theorem allIn_fill {s:ByteArray} {off n:Nat} {k high:Int} (h:allIn (fillL s off n 15) k high=true) (hh:high≤9) {i:Nat} (h1:off≤i) (h2:i<off+n) (h3:i<15):48≤btV s i∧btV s i≤57:=by
 unfold allIn at h
 simp only [Bool.and_eq_true,List.all_eq_true,decide_eq_true_eq] at h
 have hm:btV s i - 48 ∈ fillL s off n 15:=by
  unfold fillL
  refine List.mem_map.2 ⟨i - off,by simp;omega,?_⟩
  rw [show off+(i - off)=i by omega,if_pos h3]
 have:=h.1 _ hm
 omega
theorem key_dig {t:ByteArray} (h:15≤t.size) (hk:keyOk9 (t.extract 0 15)=true):allDig t 15:=by
 intro i hi
 unfold keyOk9 at hk
 simp only [Bool.and_eq_true] at hk
 have hs:=hk.2
 unfold shapeOk bytesV partV at hs
 simp only [Bool.and_eq_true] at hs
 have hb:=btV_cut h hi
 have:48≤btV (t.extract 0 15) i∧btV (t.extract 0 15) i≤57:=by
  by_cases c1:i<3
  ·exact allIn_fill hs.1 (by omega) (by omega) (by omega) hi
  ·by_cases c2:i<7
   ·exact allIn_fill hs.2.1 (by omega) (by omega) (by omega) hi
   ·by_cases c3:i<9
    ·exact allIn_fill hs.2.2.1 (by omega) (by omega) (by omega) hi
    ·exact allIn_fill hs.2.2.2 (by omega) (by omega) (by omega) hi
 omega
theorem RdOk.dig {t:ByteArray} {e:E3} (h:RdOk t e):allDig t 15:=by
 have hk:=h.ok
 obtain ⟨_,h15,zs,h1,_,_,rfl,_⟩:=h
 refine key_dig h15 ?_
 unfold entOk at hk
 simp only [Bool.and_eq_true] at hk
 exact hk.1
theorem ofNats_len (zs:List Nat):(ofNats zs).length=zs.length:=by simp [ofNats]
theorem ofNats_head {zs:List Nat} (h:1≤zs.length):(ofNats zs).getD 0 0=((zs.getD 0 0:Nat):Int):=by
 cases zs with
 | nil=>simp at h
 | cons x xs=>simp [ofNats]


def sumTo (s:ByteArray):Nat→Int
 | 0=>1+s.size
 | k+1=>(131*sumTo s k+(if h:k<s.size then ((s[k]'h).toNat:Int) else 0)) % 16381
theorem sumTo_le (s:ByteArray) (hs:s.size≤1048576):∀ k,0≤sumTo s k∧sumTo s k≤1048577
 | 0=>by simp [sumTo];omega
 | k+1=>by simp only [sumTo];omega
theorem sumTo_succ (s:ByteArray) (k:Nat) (h:k<s.size):sumTo s (k+1)=(131*sumTo s k+((s[k]'h).toNat:Int)) % 16381:=by
 simp only [sumTo];rw [dif_pos h]

theorem implSumOf_any (s:ByteArray) (w:World) (hs:s.size≤65536) :
  Calls Tryz.prog 67 #[.string s] w fun e w'=>e=.returned (.int .i64 (sumTo s s.size))∧w=w':=by
 go_enter Tryz.func67,Tryz.ntmps67
 go_wp2
 go_loop [3,13] (fun n i=>∃ k:Nat,k≤s.size∧i=.int .i64 k∧n=.int .i64 (sumTo s k)) (fun _ i=>s.size - (intOf i).toNat)
 case atStart=>exact ⟨0,Nat.zero_le _,rfl,rfl⟩
 case round =>
  obtain ⟨k,hk,rfl,rfl⟩:=hrel
  obtain ⟨g0,g1⟩:=sumTo_le s (by omega) k
  by_cases hlt:k<s.size
  ·have hb:(s[k]'hlt).toNat<256:=(s[k]'hlt).toNat_lt
   have HS:Hid (sumTo s (k+1)=(131*sumTo s k+((s[k]'hlt).toNat:Int)) % 16381):=sumTo_succ s k hlt
   go_wp2
   go_round
   case rel=>exact ⟨k+1,by omega,by go_num,by rw [HS.out]⟩
   case measure=>simp [intOf];omega
  ·obtain rfl:k=s.size:=by omega
   go_wp2
   go_ret
   exact ⟨rfl,rfl⟩


theorem clone_info:(Tryz.prog.info? 5).map (fun i=>(i.zero,i.size,i.bytes))=some (some (.int .u8 0),1,1):=by kernel_rfl

theorem stringslite_Clone (s:ByteArray) (w:World) (hlim:s.size≤281474976710656) :
  Calls Tryz.prog 92 #[.string s] w fun e w'=>e=.returned (.string s)∧Below w.heap.size w w':=by
 by_cases h0:s.size=0
 ·have hs:s=⟨#[]⟩:=by
   apply ByteArray.ext
   exact Array.eq_empty_of_size_eq_zero h0
  subst hs
  go_enter Tryz.func92,Tryz.ntmps92
  go_wp2
  go_ret
  exact ⟨rfl,Below.refl _ _⟩
 ·obtain ⟨i0,hi,hz0,hz1,hz2⟩:=info_parts clone_info
  have hinfo:(Tryz.prog.info? 5).map (·.size)=some 1:=by rw [hi];simp [hz1]
  have hco:Tryz.prog.cellsOf 5=1:=by simp [Program.cellsOf,hi,hz1]
  obtain ⟨M,hM⟩:∃ M,M=madeCells (Value.int .u8 0).cells (((s.size:Nat):Int).toNat*i0.size):=⟨_,rfl⟩
  have hMs:M.size=s.size:=by rw [hM,size_madeCells,hz1];simp
  have hmk:∀ W:World,(Instr.makeSlice 22 (.int .i64 (s.size:Int)) (.int .i64 (s.size:Int))).run Tryz.prog W=.ok (.slice (some ⟨W.heap.size,0,none⟩) s.size s.size) (W.alloc (.cells M 5)):=fun W=>by
   have h:=run_make (P:=Tryz.prog) W 22 5 i0 (.int .u8 0) Tryz.underlying22 hi hz0 .i64 .i64 (s.size:Int) (s.size:Int) (by omega) (by omega) (by rw [hz2];omega) (by omega)
   rw [← hM] at h
   simpa using h
  clear hM
  have hcp:=Lib.run_copy_row_string (P:=Tryz.prog) (w.alloc (.cells M 5)) 22 9 3 5 w.heap.size 0 s.size s.size s M 5 Tryz.underlying22 hinfo (heap_alloc_new w _) (Nat.le_refl _) (by omega)
  obtain ⟨Y,hY⟩:∃ Y,Y=(M.toList.take 0++Lib.byteCells s.data.toList++M.toList.drop (0+s.size)).toArray:=⟨_,rfl⟩
  rw [← hY] at hcp
  have hYl:Y.toList=Lib.byteCells s.data.toList:=by
   rw [hY,List.toList_toArray,List.take_zero,List.nil_append,List.drop_of_length_le (by rw [Array.length_toList];omega),List.append_nil]
  have hYs:Y.size=s.size:=by rw [← Array.length_toList,hYl,Lib.byteCells_length,← Lib.size_eq]
  have hgY:((w.alloc (.cells M 5)).setRow w.heap.size Y).heap[w.heap.size]?=some (.cells Y 5 (0,0)):=setRow_heap _ _ M _ 5 (0,0) (heap_alloc_new w _)
  have hne:s.data.toList≠[]:=fun e=>h0 (by rw [Lib.size_eq,e];rfl)
  have hUS:=Lib.run_unsafeString_row (P:=Tryz.prog) ((w.alloc (.cells M 5)).setRow w.heap.size Y) 155 3 9 5 Tryz.underlying155 hco w.heap.size Y.size (by unfold World.shape?;rw [hgY]) s.data.toList hne (by rw [← Lib.size_eq];omega) (by rw [← Lib.size_eq];omega)
   (fun j x hx=>Lib.cells_of_row hgY Y.size j _ (by rw [List.take_of_length_le (by rw [Array.length_toList];exact Nat.le_refl _),hYl];simp [Lib.byteCells,hx]))
  rw [← Lib.size_eq] at hUS
  clear hY
  go_enter Tryz.func92,Tryz.ntmps92
  go_wp2
  go_ret
  have hb1:Below w.heap.size w (w.alloc (.cells M 5)):=(Below.refl _ w).alloc (Nat.le_refl _) _
  have hb2:Below w.heap.size (w.alloc (.cells M 5)) ((w.alloc (.cells M 5)).setRow w.heap.size Y):=⟨rfl,rfl,rfl,by simp,fun k hk=>setRow_other _ _ _ _ (by omega)⟩
  exact ⟨rfl,Lib.below_freeze (hb1.trans hb2) (p:=⟨w.heap.size,0,none⟩) (Nat.le_refl _) _⟩

theorem strings_Clone (s:ByteArray) (w:World) (hlim:s.size≤281474976710656) :
  Calls Tryz.prog 66 #[.string s] w fun e w'=>e=.returned (.string s)∧Below w.heap.size w w':=by
 go_enter Tryz.func66,Tryz.ntmps66
 go_wp2_with (go_at_call 92;refine (stringslite_Clone s _ hlim).mono ?_;rintro e w1 ⟨rfl,hb1⟩)
 go_ret
 exact ⟨rfl,hb1⟩


def frameText (s:ByteArray) (n k:Nat):ByteArray:=s.extract (k+2) (k+2+n)
def Framed (s:ByteArray) (n k:Nat):Prop:=Num s 0 n k∧n≤60000∧k+2+n≤s.size
def NoFrame (s:ByteArray):Prop:=∀ n k,¬ Framed s n k
def sumAt (s:ByteArray) (k:Nat):Int:=(bt s k:Int)*256+(bt s (k+1):Int)
def Unframed (s:ByteArray) (e:Ending):Prop:=
 (∃ n k,Framed s n k∧sumAt s k=sumTo (frameText s n k) (frameText s n k).size∧e=.returned (.tuple #[.string (frameText s n k),.int .i64 ((k+2+n:Nat):Int),.int .i64 0])) ∨
 (∃ n k,Framed s n k∧sumAt s k≠sumTo (frameText s n k) (frameText s n k).size∧e=.returned (.tuple #[.string ByteArray.empty,.int .i64 0,.int .i64 9])) ∨
 (NoFrame s∧e=.returned (.tuple #[.string ByteArray.empty,.int .i64 0,.int .i64 3]))
theorem Framed.only {s:ByteArray} {n k m j:Nat} (h:Framed s n k) (g:Framed s m j):n=m∧k=j:=h.1.only g.1
theorem Unframed.same {s:ByteArray} {e f:Ending} (h:Unframed s e) (g:Unframed s f):e=f:=by
 rcases h with ⟨n,k,hn,hs,rfl⟩ | ⟨n,k,hn,hs,rfl⟩ | ⟨hn,rfl⟩<;>rcases g with ⟨m,j,hm,ht,rfl⟩ | ⟨m,j,hm,ht,rfl⟩ | ⟨hm,rfl⟩
 ·obtain ⟨rfl,rfl⟩:=hn.only hm;rfl
 ·obtain ⟨rfl,rfl⟩:=hn.only hm;exact absurd hs ht
 ·exact absurd hn (hm n k)
 ·obtain ⟨rfl,rfl⟩:=hn.only hm;exact absurd ht hs
 ·rfl
 ·exact absurd hn (hm n k)
 ·exact absurd hm (hn m j)
 ·exact absurd hm (hn m j)
 ·rfl
theorem noFrame_of_noNum {s:ByteArray} (h:NoNum s 0):NoFrame s:=fun n k hf=>h n k hf.1
theorem noFrame_of_num {s:ByteArray} {n k:Nat} (h:Num s 0 n k) (hn:¬ (n≤60000∧k+2+n≤s.size)):NoFrame s:=by
 intro m j hf
 obtain ⟨rfl,rfl⟩:=h.only hf.1
 exact hn hf.2

theorem frameText_size (s:ByteArray) (n k:Nat) (h:k+2+n≤s.size):(frameText s n k).size=n:=by simp [frameText];omega

def x0 (s:ByteArray) (k:Nat) (x:Int):Prop:=x=sumAt s k
def ReadFrame (s:ByteArray) (e:Ending):Prop:=
 (∃ n k,Framed s n k∧sumAt s k=sumTo (frameText s n k) (frameText s n k).size∧e=.returned (.tuple #[.string (frameText s n k),.int .i64 ((k+2+n:Nat):Int),.nilIface])) ∨
 (∃ n k,Framed s n k∧sumAt s k≠sumTo (frameText s n k) (frameText s n k).size∧∃ y:Int,e=.returned (.tuple #[.string ByteArray.empty,.int .i64 0,.iface 189 (.agg #[.int .i64 9,.int .i64 y])])) ∨
 (NoFrame s∧∃ y:Int,e=.returned (.tuple #[.string ByteArray.empty,.int .i64 0,.iface 189 (.agg #[.int .i64 3,.int .i64 y])]))

theorem readFrame_any (s:ByteArray) (w:World) (hs:s.size≤65536) :
  Calls Tryz.prog 125 #[.string s] w fun e w'=>ReadFrame s e∧Below w.heap.size w w':=by
 go_enter Tryz.func125,Tryz.ntmps125
 go_wp2_with fail
 refine (readNumber_any s 0 _ hs (by omega)).mono ?_
 rintro e w1 ⟨hk,hb1⟩
 rcases hk with ⟨n,k,hn,rfl⟩ | ⟨hn,y,rfl⟩
 ·rw [Nat.zero_add]
  have hN:Hid (Num s 0 n k):=hn
  have hk15:k≤5:=hn.1.2.1
  have hnle:n≤999999999:=hn.2.2.2
  clear hn
  by_cases hc:n≤60000∧k+2+n≤s.size
  ·obtain ⟨h6,hz⟩:=hc
   have hF:Hid (Framed s n k):=⟨hN.out,h6,hz⟩
   have hk0:k<s.size:=by omega
   have hk1:k+1<s.size:=by omega
   have hi0:(k:Int)<(s.size:Int):=by omega
   have hi1:(k:Int)+1<(s.size:Int):=by omega
   have hb0:(s[k]'hk0).toNat<256:=(s[k]'hk0).toNat_lt
   have hb2:(s[k+1]'hk1).toNat<256:=(s[k+1]'hk1).toNat_lt
   have hx:=frameText_size s n k hz
   have hsm:Hid (sumAt s k=((s[k]'hk0).toNat:Int)*256+((s[k+1]'hk1).toNat:Int)):=by
    rw [Hid,bt_get,bt_get];rfl
   have hq1:IntKind.i64.wrap ((s[k]'hk0).toNat:Int)=((s[k]'hk0).toNat:Int):=IntWalk.i64_in _ ⟨by omega,by omega⟩
   have hq2:IntKind.i64.wrap (((s[k]'hk0).toNat:Int)*256)=((s[k]'hk0).toNat:Int)*256:=IntWalk.i64_in _ ⟨by omega,by omega⟩
   have hq3:IntKind.i64.wrap ((k:Int)+1)=(k:Int)+1:=IntWalk.i64_in _ ⟨by omega,by omega⟩
   have hq4:IntKind.i64.wrap ((s[k+1]'hk1).toNat:Int)=((s[k+1]'hk1).toNat:Int):=IntWalk.i64_in _ ⟨by omega,by omega⟩
   have hq5:IntKind.i64.wrap (((s[k]'hk0).toNat:Int)*256+((s[k+1]'hk1).toNat:Int))=((s[k]'hk0).toNat:Int)*256+((s[k+1]'hk1).toNat:Int):=IntWalk.i64_in _ ⟨by omega,by omega⟩
   have hix:∀ W:World,(Instr.index 9 (.string s) (.int .i64 ((k:Int)+1))).run Tryz.prog W=.ok (.int .u8 ((s[k+1]'hk1).toNat:Int)) W:=fun W=>by
    rw [run_index_string (P:=Tryz.prog) W 9 s .i64 ((k:Int)+1) Tryz.underlying9]
    have e1:((k:Int)+1).toNat=k+1:=by omega
    have e2:(0:Int)≤(k:Int)+1∧(k:Int)+1<(s.size:Int):=by omega
    simp [e1,e2]
   go_wp2
   go_quiet (fail)
   clear hq1 hq2 hq3 hq4 hq5 hix
   rw [← hsm.out]
   obtain ⟨x,hx0⟩:∃ x,x=sumAt s k:=⟨_,rfl⟩
   have HX:Hid (x0 s k x):=hx0
   rw [← hx0]
   clear hx0
   have hF':Hid (Framed s n k∧x0 s k x):=⟨hF.out,HX.out⟩
   clear hsm hF HX hN
   go_wp2_with fail
   refine (implSumOf_any _ _ (by simp;omega)).mono ?_
   rintro e w2 ⟨rfl,rfl⟩
   have hfs:(s.extract (k+2) (k+2+n)).size≤65536:=by simp;omega
   obtain ⟨f,hf⟩:∃ f,f=s.extract (k+2) (k+2+n):=⟨_,rfl⟩
   have HF:Hid (frameText s n k=f):=by rw [Hid,hf];rfl
   rw [← hf] at hfs
   rw [← hf]
   have HE0:Hid (s.extract (k+2) (k+2+n)=f):=hf.symm
   clear hf
   by_cases heq:x=sumTo f f.size
   ·have hne:(x != sumTo f f.size)=false:=by simp [heq]
    have HE:Hid (x=sumTo f f.size):=heq
    clear heq
    go_wp2_with fail
    rw [HE0.out]
    refine (strings_Clone _ _ (by omega)).mono ?_
    rintro e w3 ⟨rfl,hb3⟩
    go_wp2
    go_ret3
    refine ⟨.inl ⟨n,k,hF'.out.1,?_,?_⟩,?_⟩
    ·rw [HF.out,← HE.out];exact hF'.out.2.symm
    ·rw [HF.out];rfl
    ·exact (below_drewN hb1 nq).trans (hb3.mono hb1.size)
   ·have hne:(x != sumTo f f.size)=true:=by simpa using heq
    have HE:Hid (¬ x=sumTo f f.size):=heq
    clear heq
    go_wp2
    go_ret3
    refine ⟨.inr (.inl ⟨n,k,hF'.out.1,?_,_,rfl⟩),hb1.trans ⟨rfl,rfl,rfl,Nat.le_refl _,fun _ _=>rfl⟩⟩
    rw [HF.out]
    intro h
    exact HE.out (hF'.out.2.trans h)
  ·have hNF:Hid (NoFrame s):=noFrame_of_num hN.out hc
   by_cases h6:n≤60000
   ·have hz:(s.size:Int)<(k:Int)+2+(n:Int):=by
     have:¬ k+2+n≤s.size:=fun h=>hc ⟨h6,h⟩
     omega
    clear hc hN
    go_wp2
    go_ret3
    exact ⟨.inr (.inr ⟨hNF.out,_,rfl⟩),hb1⟩
   ·clear hc hN
    go_wp2
    go_ret3
    exact ⟨.inr (.inr ⟨hNF.out,_,rfl⟩),hb1⟩
 ·have hNF:Hid (NoFrame s):=noFrame_of_noNum hn
  clear hn
  go_wp2
  go_ret3
  exact ⟨.inr (.inr ⟨hNF.out,_,rfl⟩),hb1⟩
end Go.Proofs.YtdopgkbegjfhjaaGreatDoor
