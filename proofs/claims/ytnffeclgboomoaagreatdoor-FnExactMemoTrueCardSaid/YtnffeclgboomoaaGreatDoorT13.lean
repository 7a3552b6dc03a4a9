/-
  Joined: MarkV, MarkW, OwnS, VmOfI.
-/
import Derived.Test.YtnffeclgboomoaaGreatDoorT10
import Derived.Test.YtnffeclgboomoaaGreatDoorT11

namespace Go.Proofs.YtnffeclgboomoaaGreatDoor
set_option maxRecDepth 100000
set_option maxHeartbeats 16000000
open Go.RowKit

theorem Sl.some_or {w:World} {B:Nat} {s:Sl} {zs:List Int} (h:ZW w B s zs):(s=(none,0,0)∧zs=[])∨∃ g n c,s=(some ⟨g,0,none⟩,n,c):=by
 obtain ⟨a,n,c⟩:=s
 unfold ZW at h
 simp only at h
 rcases h.2 with ⟨h0,h1⟩ | ⟨g,cap,cur,hv,_⟩
 ·cases h0
  exact .inl ⟨rfl,by simpa using h.1⟩
 cases hv
 exact .inr ⟨g,n,c,rfl⟩

theorem ZW.len {w:World} {B:Nat} {s:Sl} {zs:List Int} (h:ZW w B s zs):zs.length=s.2.1:=by
 have:=h.1
 simpa using this
theorem WX.symm {s s':Sl} (h:WX s s'):WX s' s:=fun g h1 h2=>h g h2 h1


theorem ZW.lower9 {w:World} {B B':Nat} {s:Sl} {zs:List Int} (h:ZW w B s zs) (hB:B'≤B):ZW w B' s zs:=Xl h hB
theorem ZJ.lower9 {w:World} {B B':Nat} {s:S4} {m:V4} (h:ZJ w B s m) (hB:B'≤B):ZJ w B' s m:=⟨⟨h.1.1.lower9 hB,h.1.2.1.lower9 hB,h.1.2.2.1.lower9 hB,h.1.2.2.2.lower9 hB⟩,h.2⟩
theorem Zw {w:World} {B e s n g t:Nat} {v:Value} {xs cs:List Value} (h:w.ownsRow B e s v n xs) (hB:Blk w g t cs) (he:e≠t):v.ownBlock≠some g:=by
 rcases h.2 with ⟨rfl,_⟩ | ⟨g',cap,cur,rfl,_,hg,_⟩
 ·simp [Value.ownBlock]
 simp only [Value.ownBlock,ne_eq,Option.some.injEq]
 rintro rfl
 unfold Blk at hB
 rw [hg] at hB
 simp at hB
 exact he hB.2


theorem ZW.at9 {w:World} {B g n c:Nat} {zs:List Int} (h:ZW w B (some ⟨g,0,none⟩,n,c) zs) {j:Nat} (hj:j<n):w.cell? ⟨g,j,none⟩=some (.int .i64 (zs.getD j 0)):=by
 have hl:=h.len
 simp only at hl
 have:=h.cellAt j (by simp only;omega)
 rw [this]
 simp [List.getElem?_eq_getElem (show j<zs.length by omega)]
theorem ZW.frz9 {w:World} {B g n c:Nat} {zs:List Int} (h:ZW w B (some ⟨g,0,none⟩,n,c) zs) (j:Nat):w.frozen? ⟨g,j,none⟩=false:=h.frozenAt j
theorem ZW.set9 {w:World} {B g n c:Nat} {zs:List Int} (h:ZW w B (some ⟨g,0,none⟩,n,c) zs) (j:Nat) (v:Int):ZW (w.setCell ⟨g,j,none⟩ (.int .i64 v)) B (some ⟨g,0,none⟩,n,c) (zs.set j v):=by
 have:=(h.stored j (.int .i64 v)).1
 rw [← List.map_set] at this
 exact this
theorem ZW.away9 {w:World} {B g n c:Nat} {s:Sl} {zs:List Int} (h:ZW w B s zs) (ha:WX (some ⟨g,0,none⟩,n,c) s) (j:Nat) (v:Value):ZW (w.setCell ⟨g,j,none⟩ v) B s zs:=
 ownsRow_setCell_other h (fun e=>ha g rfl e) v
theorem ZW.lo9 {w:World} {B g n c:Nat} {zs:List Int} (h:ZW w B (some ⟨g,0,none⟩,n,c) zs):B≤g∧g<w.heap.size:=h.lt g rfl

section
variable {w : World} {B g n c : Nat} {s0 s1 s2 s3 : Sl} {m : V4}
theorem ZJ.set0 (h:ZJ w B ((some ⟨g,0,none⟩,n,c),s1,s2,s3) m) (j:Nat) (v:Int):ZJ (w.setCell ⟨g,j,none⟩ (.int .i64 v)) B ((some ⟨g,0,none⟩,n,c),s1,s2,s3) (m.1.set j v,m.2):=
 ⟨⟨h.1.1.set9 j v,h.1.2.1.away9 h.2.1 j _,h.1.2.2.1.away9 h.2.2.1 j _,h.1.2.2.2.away9 h.2.2.2.1 j _⟩,h.2⟩
theorem ZJ.set1 (h:ZJ w B (s0,(some ⟨g,0,none⟩,n,c),s2,s3) m) (j:Nat) (v:Int):ZJ (w.setCell ⟨g,j,none⟩ (.int .i64 v)) B (s0,(some ⟨g,0,none⟩,n,c),s2,s3) (m.1,m.2.1.set j v,m.2.2):=
 ⟨⟨h.1.1.away9 h.2.1.symm j _,h.1.2.1.set9 j v,h.1.2.2.1.away9 h.2.2.2.2.1 j _,h.1.2.2.2.away9 h.2.2.2.2.2.1 j _⟩,h.2⟩
theorem ZJ.set2 (h:ZJ w B (s0,s1,(some ⟨g,0,none⟩,n,c),s3) m) (j:Nat) (v:Int):ZJ (w.setCell ⟨g,j,none⟩ (.int .i64 v)) B (s0,s1,(some ⟨g,0,none⟩,n,c),s3) (m.1,m.2.1,m.2.2.1.set j v,m.2.2.2):=
 ⟨⟨h.1.1.away9 h.2.2.1.symm j _,h.1.2.1.away9 h.2.2.2.2.1.symm j _,h.1.2.2.1.set9 j v,h.1.2.2.2.away9 h.2.2.2.2.2.2 j _⟩,h.2⟩
theorem ZJ.set3 (h:ZJ w B (s0,s1,s2,(some ⟨g,0,none⟩,n,c)) m) (j:Nat) (v:Int):ZJ (w.setCell ⟨g,j,none⟩ (.int .i64 v)) B (s0,s1,s2,(some ⟨g,0,none⟩,n,c)) (m.1,m.2.1,m.2.2.1,m.2.2.2.set j v):=
 ⟨⟨h.1.1.away9 h.2.2.2.1.symm j _,h.1.2.1.away9 h.2.2.2.2.2.1.symm j _,h.1.2.2.1.away9 h.2.2.2.2.2.2.symm j _,h.1.2.2.2.set9 j v⟩,h.2⟩
end
theorem ZW.some9 {w:World} {B:Nat} {s:Sl} {zs:List Int} {k:Nat} (h:ZW w B s zs) (hl:zs.length=k) (hk:0<k):∃ g c,s=(some ⟨g,0,none⟩,k,c)∧k≤c∧c≤maxLen:=by
 have hi:=h.ints
 rcases Sl.some_or h with ⟨rfl,rfl⟩ | ⟨g,n,c,rfl⟩
 ·simp at hl;omega
 obtain ⟨h1,h2,h3,_⟩:=hi
 simp only at h1 h2 h3
 exact ⟨g,c,by rw [← h1,hl],by omega,h3⟩
theorem ZW.ne9 {w:World} {B g n c X t:Nat} {zs:List Int} {cs:List Value} (h:ZW w B (some ⟨g,0,none⟩,n,c) zs) (hX:Blk w X t cs) (ht:3≠t):X≠g:=fun e=>Zw h hX ht (by rw [e];rfl)
theorem Vh (w:World) (B:Nat):ZJ w B ((none,0,0),(none,0,0),(none,0,0),(none,0,0)) ([],[],[],[]):=by
 have h:ZW w B (none,0,0) []:=World.ownsRow_nil _ _ _ _
 have a:WX (none,0,0) (none,0,0):=fun g hg=>by simp [Value.ownBlock] at hg
 exact ⟨⟨h,h,h,h⟩,a,a,a,a,a,a⟩
theorem ZW.kept9 {w w':World} {B X t:Nat} {s:Sl} {zs:List Int} {cs:List Value} (h:ZW w B s zs) (hg:w.grownBy w' (some X)) (hX:Blk w X t cs) (ht:3≠t):ZW w' B s zs:=World.ownsRow.kept h hg (.inr (Zw h hX ht))
theorem ZW.awayB9 {w:World} {B X t:Nat} {s:Sl} {zs:List Int} {cs:List Value} (h:ZW w B s zs) (hX:Blk w X t cs) (ht:3≠t) (j:Nat) (v:Value):ZW (w.setCell ⟨X,j,none⟩ v) B s zs:=ownsRow_setCell_other h (Zw h hX ht) v
theorem ZJ.awayB9 {w:World} {B X t:Nat} {s:S4} {m:V4} {cs:List Value} (h:ZJ w B s m) (hX:Blk w X t cs) (ht:3≠t) (j:Nat) (v:Value):ZJ (w.setCell ⟨X,j,none⟩ v) B s m:=⟨⟨h.1.1.awayB9 hX ht j v,h.1.2.1.awayB9 hX ht j v,h.1.2.2.1.awayB9 hX ht j v,h.1.2.2.2.awayB9 hX ht j v⟩,h.2⟩
theorem ZJ.kept9 {w w':World} {B X t:Nat} {s:S4} {m:V4} {cs:List Value} (h:ZJ w B s m) (hg:w.grownBy w' (some X)) (hX:Blk w X t cs) (ht:3≠t):ZJ w' B s m:=⟨⟨h.1.1.kept9 hg hX ht,h.1.2.1.kept9 hg hX ht,h.1.2.2.1.kept9 hg hX ht,h.1.2.2.2.kept9 hg hX ht⟩,h.2⟩

set_option linter.unusedVariables false

def Yn (e:Ending) (w:World) (B:Nat) (z:V4) (c:Int):Prop:=∃ t:S4,e=.returned (.tuple #[t.val,.int .i64 c])∧ZJ w B t z
theorem Yn.mk9 {e:Ending} {w:World} {B:Nat} {z:V4} {c:Int} (t:S4) (h:e=.returned (.tuple #[t.val,.int .i64 c])) (hO:ZJ w B t z):Yn e w B z c:=⟨t,h,hO⟩

def btV (s:ByteArray) (i:Nat):Int:=((s.data.toList.getD i 0).toNat:Int)
theorem XI (s:ByteArray) (i:Nat):0≤btV s i∧btV s i≤255:=by
 unfold btV
 have:=(s.data.toList.getD i 0).toNat_lt
 omega
theorem LJ (s:ByteArray) (i:Nat) (h:i<s.size) (W:World):(Instr.index 9 (.string s) (.int .i64 (i:Int))).run Tryz.prog W=.ok (.int .u8 (btV s i)) W:=by
 rw [run_index_string (P:=Tryz.prog) W 9 s .i64 (i:Int) Tryz.underlying9]
 have h2:(0:Int)≤(i:Int)∧(i:Int)<(s.size:Int):=by omega
 rw [dif_pos h2]
 unfold btV
 have h3:i<s.data.toList.length:=by rw [Array.length_toList];exact h
 have e:s[(i:Int).toNat]'(by omega)=s.data.toList.getD i 0:=by
  simp only [Int.toNat_natCast,List.getD,List.getElem?_eq_getElem h3,Option.getD_some]
  rfl
 rw [e]
theorem X9 (s:ByteArray) (i:Nat) (z:Int) (hz:z=(i:Int)) (h:i<s.size) (W:World):(Instr.index 9 (.string s) (.int .i64 z)).run Tryz.prog W=.ok (.int .u8 (btV s i)) W:=by
 subst hz
 exact LJ s i h W
theorem Z4 {z:Int} (h:-1000≤z) (h':z≤1000):(Lit.int .i64 z).wf=true:=by
 simp only [Lit.wf,Bool.and_eq_true,decide_eq_true_eq]
 have h1:IntKind.i64.min=-9223372036854775808:=by decide
 have h2:IntKind.i64.max=9223372036854775807:=by decide
 omega
def X1 (s:ByteArray) (off n i:Nat):List Int:=(List.range n).map fun j=>if off+j<i then btV s (off+j) - 48 else 0
def Yw (s:ByteArray) (i:Nat):V4:=(X1 s 0 3 i,X1 s 3 4 i,X1 s 7 2 i,X1 s 9 6 i)
def ZC (s:ByteArray):V4:=Yw s 15
theorem Tj (s:ByteArray) {off n i:Nat} (h:off≤i) (h':i<off+n):(X1 s off n i).set (i - off) (btV s i - 48)=X1 s off n (i+1):=by
 apply List.ext_getElem
 ·simp [X1]
 intro j h1 h2
 simp only [X1,List.getElem_set,List.getElem_map,List.getElem_range]
 by_cases e:i - off=j
 ·subst e
  rw [if_pos rfl,if_pos (by omega),show off+(i - off)=i by omega]
 rw [if_neg e]
 by_cases hlt:off+j<i
 ·rw [if_pos hlt,if_pos (by omega)]
 rw [if_neg hlt,if_neg (by omega)]
theorem YF (s:ByteArray) {off n i:Nat} (h:i<off∨off+n≤i):X1 s off n (i+1)=X1 s off n i:=by
 unfold X1
 apply List.map_congr_left
 intro j hj
 have hj':j<n:=by simpa using hj
 by_cases hlt:off+j<i
 ·rw [if_pos hlt,if_pos (by omega)]
 rw [if_neg hlt,if_neg (by omega)]
theorem RN (s:ByteArray):Yw s 0=Qh:=by simp [Yw,X1,Qh,List.range_succ]
theorem LW (s:ByteArray) {i:Nat} (h:i<3):((Yw s i).1.set i (btV s i - 48),(Yw s i).2)=Yw s (i+1):=by
 have e:=Tj s (off:=0) (n:=3) (i:=i) (by omega) (by omega)
 simp only [Nat.sub_zero] at e
 unfold Yw
 simp only
 rw [e,YF s (off:=3) (by omega),YF s (off:=7) (by omega),YF s (off:=9) (by omega)]
theorem LX (s:ByteArray) {j:Nat} (h:j<4):((Yw s (3+j)).1,(Yw s (3+j)).2.1.set j (btV s (3+j) - 48),(Yw s (3+j)).2.2)=Yw s (3+j+1):=by
 have e:=Tj s (off:=3) (n:=4) (i:=3+j) (by omega) (by omega)
 rw [show 3+j - 3=j by omega] at e
 unfold Yw
 simp only
 rw [e,YF s (off:=0) (by omega),YF s (off:=7) (by omega),YF s (off:=9) (by omega)]
theorem LY (s:ByteArray) {j:Nat} (h:j<2):((Yw s (7+j)).1,(Yw s (7+j)).2.1,(Yw s (7+j)).2.2.1.set j (btV s (7+j) - 48),(Yw s (7+j)).2.2.2)=Yw s (7+j+1):=by
 have e:=Tj s (off:=7) (n:=2) (i:=7+j) (by omega) (by omega)
 rw [show 7+j - 7=j by omega] at e
 unfold Yw
 simp only
 rw [e,YF s (off:=0) (by omega),YF s (off:=3) (by omega),YF s (off:=9) (by omega)]
theorem LZ (s:ByteArray) {j:Nat} (h:j<6):((Yw s (9+j)).1,(Yw s (9+j)).2.1,(Yw s (9+j)).2.2.1,(Yw s (9+j)).2.2.2.set j (btV s (9+j) - 48))=Yw s (9+j+1):=by
 have e:=Tj s (off:=9) (n:=6) (i:=9+j) (by omega) (by omega)
 rw [show 9+j - 9=j by omega] at e
 unfold Yw
 simp only
 rw [e,YF s (off:=0) (by omega),YF s (off:=3) (by omega),YF s (off:=7) (by omega)]
theorem RM (s:ByteArray) (i:Nat):V4.fits (Yw s i):=by
 have hf:∀ off n,∀ z ∈ X1 s off n i,(Lit.int .i64 z).wf=true:=by
  intro off n z hz
  unfold X1 at hz
  obtain ⟨j,_,rfl⟩:=List.mem_map.1 hz
  have hb:=XI s (off+j)
  split
  ·exact Z4 (by omega) (by omega)
  decide
 exact ⟨hf _ _,hf _ _,hf _ _,hf _ _⟩
theorem Vw {w:World} {B:Nat} {t:S4} (h:ZJ w B t Qh):∃ g0 g1 g2 g3 c0 c1 c2 c3,t=((some ⟨g0,0,none⟩,3,c0),(some ⟨g1,0,none⟩,4,c1),(some ⟨g2,0,none⟩,2,c2),(some ⟨g3,0,none⟩,6,c3))∧(3≤c0∧4≤c1∧2≤c2∧6≤c3)∧c0≤maxLen∧c1≤maxLen∧c2≤maxLen∧c3≤maxLen:=by
 obtain ⟨s0,s1,s2,s3⟩:=t
 obtain ⟨⟨o0,o1,o2,o3⟩,_⟩:=h
 obtain ⟨g0,c0,e0,l0,m0⟩:=o0.some9 (k:=3) rfl (by decide)
 obtain ⟨g1,c1,e1,l1,m1⟩:=o1.some9 (k:=4) rfl (by decide)
 obtain ⟨g2,c2,e2,l2,m2⟩:=o2.some9 (k:=2) rfl (by decide)
 obtain ⟨g3,c3,e3,l3,m3⟩:=o3.some9 (k:=6) rfl (by decide)
 simp only at e0 e1 e2 e3
 exact ⟨g0,g1,g2,g3,c0,c1,c2,c3,by rw [e0,e1,e2,e3],⟨l0,l1,l2,l3⟩,m0,m1,m2,m3⟩

theorem Qo (s:ByteArray) (w:World) (hs:s.size≤1048576) (h:65536<s.size) :
  Calls Tryz.prog 112 #[.string s] w fun e w'=>e=.returned (.tuple #[.agg #[.slice none 0 0,.slice none 0 0,.slice none 0 0,.slice none 0 0],.int .i64 2])∧Below w.heap.size w w':=by
 go_enter Tryz.func112,Tryz.ntmps112
 go_wp2
 refine bodyPost_ret (Zp Tryz.results112 _ _ _ _ _ _ rfl (Blk.new w 112 [.slice none 0 0,.slice none 0 0,.slice none 0 0,.slice none 0 0]) Tryz.underlying112 rfl (by kernel_rfl)) rfl ?_
 exact ⟨rfl,by go_grown⟩
theorem Qp (s:ByteArray) (w:World) (h:s.size≤65536) (h15:s.size≠15) :
  Calls Tryz.prog 112 #[.string s] w fun e w'=>e=.returned (.tuple #[.agg #[.slice none 0 0,.slice none 0 0,.slice none 0 0,.slice none 0 0],.int .i64 3])∧Below w.heap.size w w':=by
 have hne:((s.size:Int) != 15)=true:=by simp;omega
 go_enter Tryz.func112,Tryz.ntmps112
 go_wp2
 refine bodyPost_ret (Zp Tryz.results112 _ _ _ _ _ _ rfl (Blk.new w 112 [.slice none 0 0,.slice none 0 0,.slice none 0 0,.slice none 0 0]) Tryz.underlying112 rfl (by kernel_rfl)) rfl ?_
 exact ⟨rfl,by go_grown⟩

theorem Ss (s:ByteArray) (w:World) (h15:s.size=15) (hV:ZL w) :
  Calls Tryz.prog 112 #[.string s] w fun e w'=>Yn e w' w.heap.size (if Zd (ZC s) then ZC s else ([],[],[],[])) (if Zd (ZC s) then 0 else 3)∧Below w.heap.size w w':=by
 obtain ⟨bv,hbv⟩:∃ bv,bv=ZC s:=⟨_,rfl⟩
 rw [← hbv]
 have HBV:Hid (bv=ZC s):=hbv
 clear hbv
 obtain ⟨z,hz⟩:∃ z,z=(if Zd bv then bv else ([],[],[],[])):=⟨_,rfl⟩
 obtain ⟨c,hc⟩:∃ c:Int,c=(if Zd bv then 0 else 3):=⟨_,rfl⟩
 rw [← hz,← hc]
 have HZ:Hid (z=(if Zd bv then bv else ([],[],[],[]))):=hz
 have HC:Hid (c=(if Zd bv then 0 else 3)):=hc
 clear hz hc
 have kN:=Tn
 have kR:=fun t w h hV=>RR t bv w h hV
 have hfit:=RM s 15
 have bw:Below w.heap.size w (w.alloc (.cells #[.slice none 0 0,.slice none 0 0,.slice none 0 0,.slice none 0 0] 112)):=by go_grown
 have pR:=Blk.new w 112 [.slice none 0 0,.slice none 0 0,.slice none 0 0,.slice none 0 0]
 have hne:((s.size:Int) != 15)=false:=by simp [h15]
 have hsz:(s.size:Int)=15:=by omega
 go_enter Tryz.func112,Tryz.ntmps112
 go_wp2_with fail
 refine (kN _).mono ?_
 rintro e w1 ⟨⟨t,rfl,hO⟩,hb⟩
 obtain ⟨g0,g1,g2,g3,c0,c1,c2,c3,rfl,⟨l0,l1,l2,l3⟩,m0,m1,m2,m3⟩:=Vw hO
 unfold maxLen at m0 m1 m2 m3
 have kL:=fun w=>RC ((some ⟨g0,0,none⟩,3,c0),(some ⟨g1,0,none⟩,4,c1),(some ⟨g2,0,none⟩,2,c2),(some ⟨g3,0,none⟩,6,c3)) w
 replace kR:=kR ((some ⟨g0,0,none⟩,3,c0),(some ⟨g1,0,none⟩,4,c1),(some ⟨g2,0,none⟩,2,c2),(some ⟨g3,0,none⟩,6,c3))
 have uX:S4.val ((some ⟨g0,0,none⟩,3,c0),(some ⟨g1,0,none⟩,4,c1),(some ⟨g2,0,none⟩,2,c2),(some ⟨g3,0,none⟩,6,c3))=.agg #[.slice (some ⟨g0,0,none⟩) 3 c0,.slice (some ⟨g1,0,none⟩) 4 c1,.slice (some ⟨g2,0,none⟩) 2 c2,.slice (some ⟨g3,0,none⟩) 6 c3]:=rfl
 rw [uX] at kL kR ⊢
 clear uX
 replace hO:=hO.lower9 bw.size
 have bA:Below w1.heap.size w1 (w1.alloc (.cells #[.slice (some ⟨g0,0,none⟩) 3 c0,.slice (some ⟨g1,0,none⟩) 4 c1,.slice (some ⟨g2,0,none⟩) 2 c2,.slice (some ⟨g3,0,none⟩) 6 c3] 112)):=by go_grown
 have pS:=Blk.new w1 112 [.slice (some ⟨g0,0,none⟩) 3 c0,.slice (some ⟨g1,0,none⟩) 4 c1,.slice (some ⟨g2,0,none⟩) 2 c2,.slice (some ⟨g3,0,none⟩) 6 c3]
 have hgS:w.heap.size<w1.heap.size:=Nat.lt_of_lt_of_le (by simp) hb.size
 replace bw:=Zb bw (Zb hb bA)
 replace pR:=pR.below (Zb hb bA)
 replace hO:=hO.below bA
 clear hb bA kN
 go_wp2_with fail
 generalize (w1.alloc (.cells #[.slice (some ⟨g0,0,none⟩) 3 c0,.slice (some ⟨g1,0,none⟩) 4 c1,.slice (some ⟨g2,0,none⟩) 2 c2,.slice (some ⟨g3,0,none⟩) 6 c3] 112))=W1 at *
 generalize w1.heap.size=gS at *
 refine (kL _).mono ?_
 rintro e w2 ⟨rfl,hb⟩
 replace bw:=Zb bw hb
 replace pR:=pR.below hb
 replace pS:=pS.below hb
 replace hO:=hO.below hb
 rw [← RN s] at hO
 clear hb kL
 have y0:=MH (.slice (some ⟨g0,0,none⟩) 3 c0) (.slice (some ⟨g1,0,none⟩) 4 c1) (.slice (some ⟨g2,0,none⟩) 2 c2) (.slice (some ⟨g3,0,none⟩) 6 c3)
 have y1:=MI (.slice (some ⟨g0,0,none⟩) 3 c0) (.slice (some ⟨g1,0,none⟩) 4 c1) (.slice (some ⟨g2,0,none⟩) 2 c2) (.slice (some ⟨g3,0,none⟩) 6 c3)
 have y2:=MJ (.slice (some ⟨g0,0,none⟩) 3 c0) (.slice (some ⟨g1,0,none⟩) 4 c1) (.slice (some ⟨g2,0,none⟩) 2 c2) (.slice (some ⟨g3,0,none⟩) 6 c3)
 have y3:=MK (.slice (some ⟨g0,0,none⟩) 3 c0) (.slice (some ⟨g1,0,none⟩) 4 c1) (.slice (some ⟨g2,0,none⟩) 2 c2) (.slice (some ⟨g3,0,none⟩) 6 c3)
 go_wp2_with fail
 refine wp_loop_rounds 5 ?_
 rw [rounds_succ]
 go_wp2_with fail
 go_loopw [5,25] (fun sa si wr=>∃ j:Nat,j≤3∧si=.int .i64 j∧sa=.int .i64 ((j:Nat):Int)∧ZJ wr w.heap.size ((some ⟨g0,0,none⟩,3,c0),(some ⟨g1,0,none⟩,4,c1),(some ⟨g2,0,none⟩,2,c2),(some ⟨g3,0,none⟩,6,c3)) (Yw s (j))∧Blk wr gS 112 [.slice (some ⟨g0,0,none⟩) 3 c0,.slice (some ⟨g1,0,none⟩) 4 c1,.slice (some ⟨g2,0,none⟩) 2 c2,.slice (some ⟨g3,0,none⟩) 6 c3]∧Blk wr w.heap.size 112 [.slice none 0 0,.slice none 0 0,.slice none 0 0,.slice none 0 0]∧Below w.heap.size w wr) (fun _ si _=>3 - (intOf si).toNat)
 case atStart=>exact ⟨0,by omega,rfl,rfl,hO,pS,pR,bw⟩
 case round =>
  clear hO pS pR bw
  obtain ⟨j,hj,rfl,rfl,hO,pS,pR,bw⟩:=hrel
  by_cases hlt:j<3
  ·have hix:=X9 s (j) ((j:Int)) (by omega) (by omega)
   have hbb:=XI s (j)
   have hst:=hO.set0 j (btV s (j) - 48)
   rw [LW s hlt] at hst
   have hold:=hO.1.1.at9 hlt
   have hfz:=hO.1.1.frz9 j
   have hlo:=hO.1.1.lo9
   have neS:=hO.1.1.ne9 pS (by decide)
   have neR:=hO.1.1.ne9 pR (by decide)
   generalize btV s (j)=bx at *
   have pS2:=pS.off ⟨g0,j,none⟩ (.int .i64 (bx - 48)) neS
   have pR2:=pR.off ⟨g0,j,none⟩ (.int .i64 (bx - 48)) neR
   have b2:=bw.setCell (p:=⟨g0,j,none⟩) hlo.1 (.int .i64 (bx - 48))
   have hjI:(j:Int)<3:=by omega
   obtain ⟨old,hold'⟩:∃ u,wr.cell? ⟨g0,j,none⟩=some u:=⟨_,hold⟩
   clear hold hO pS pR bw
   go_wp2
   go_roundw
   case rel=>exact ⟨j+1,by omega,by go_num,by go_num,hst,pS2,pR2,b2⟩
   case measure=>simp [intOf];omega
  obtain rfl:j=3:=by omega
  skip
  go_wp2_with fail
  rw [rounds_succ]
  go_wp2_with fail
  go_loopw [5,25] (fun sa si wr=>∃ j:Nat,j≤4∧si=.int .i64 j∧sa=.int .i64 ((3+j:Nat):Int)∧ZJ wr w.heap.size ((some ⟨g0,0,none⟩,3,c0),(some ⟨g1,0,none⟩,4,c1),(some ⟨g2,0,none⟩,2,c2),(some ⟨g3,0,none⟩,6,c3)) (Yw s (3+j))∧Blk wr gS 112 [.slice (some ⟨g0,0,none⟩) 3 c0,.slice (some ⟨g1,0,none⟩) 4 c1,.slice (some ⟨g2,0,none⟩) 2 c2,.slice (some ⟨g3,0,none⟩) 6 c3]∧Blk wr w.heap.size 112 [.slice none 0 0,.slice none 0 0,.slice none 0 0,.slice none 0 0]∧Below w.heap.size w wr) (fun _ si _=>4 - (intOf si).toNat)
  case atStart=>exact ⟨0,by omega,rfl,rfl,hO,pS,pR,bw⟩
  case round =>
   clear hO pS pR bw
   obtain ⟨j,hj,rfl,rfl,hO,pS,pR,bw⟩:=hrel
   by_cases hlt:j<4
   ·have hix:=X9 s (3+j) (3+(j:Int)) (by omega) (by omega)
    have hbb:=XI s (3+j)
    have hst:=hO.set1 j (btV s (3+j) - 48)
    rw [LX s hlt] at hst
    have hold:=hO.1.2.1.at9 hlt
    have hfz:=hO.1.2.1.frz9 j
    have hlo:=hO.1.2.1.lo9
    have neS:=hO.1.2.1.ne9 pS (by decide)
    have neR:=hO.1.2.1.ne9 pR (by decide)
    generalize btV s (3+j)=bx at *
    have pS2:=pS.off ⟨g1,j,none⟩ (.int .i64 (bx - 48)) neS
    have pR2:=pR.off ⟨g1,j,none⟩ (.int .i64 (bx - 48)) neR
    have b2:=bw.setCell (p:=⟨g1,j,none⟩) hlo.1 (.int .i64 (bx - 48))
    have hjI:(j:Int)<4:=by omega
    obtain ⟨old,hold'⟩:∃ u,wr.cell? ⟨g1,j,none⟩=some u:=⟨_,hold⟩
    clear hold hO pS pR bw
    go_wp2
    go_roundw
    case rel=>exact ⟨j+1,by omega,by go_num,by go_num,hst,pS2,pR2,b2⟩
    case measure=>simp [intOf];omega
   obtain rfl:j=4:=by omega
   simp only [Nat.reduceAdd] at hO
   go_wp2_with fail
   rw [rounds_succ]
   go_wp2_with fail
   go_loopw [5,25] (fun sa si wr=>∃ j:Nat,j≤2∧si=.int .i64 j∧sa=.int .i64 ((7+j:Nat):Int)∧ZJ wr w.heap.size ((some ⟨g0,0,none⟩,3,c0),(some ⟨g1,0,none⟩,4,c1),(some ⟨g2,0,none⟩,2,c2),(some ⟨g3,0,none⟩,6,c3)) (Yw s (7+j))∧Blk wr gS 112 [.slice (some ⟨g0,0,none⟩) 3 c0,.slice (some ⟨g1,0,none⟩) 4 c1,.slice (some ⟨g2,0,none⟩) 2 c2,.slice (some ⟨g3,0,none⟩) 6 c3]∧Blk wr w.heap.size 112 [.slice none 0 0,.slice none 0 0,.slice none 0 0,.slice none 0 0]∧Below w.heap.size w wr) (fun _ si _=>2 - (intOf si).toNat)
   case atStart=>exact ⟨0,by omega,rfl,rfl,hO,pS,pR,bw⟩
   case round =>
    clear hO pS pR bw
    obtain ⟨j,hj,rfl,rfl,hO,pS,pR,bw⟩:=hrel
    by_cases hlt:j<2
    ·have hix:=X9 s (7+j) (7+(j:Int)) (by omega) (by omega)
     have hbb:=XI s (7+j)
     have hst:=hO.set2 j (btV s (7+j) - 48)
     rw [LY s hlt] at hst
     have hold:=hO.1.2.2.1.at9 hlt
     have hfz:=hO.1.2.2.1.frz9 j
     have hlo:=hO.1.2.2.1.lo9
     have neS:=hO.1.2.2.1.ne9 pS (by decide)
     have neR:=hO.1.2.2.1.ne9 pR (by decide)
     generalize btV s (7+j)=bx at *
     have pS2:=pS.off ⟨g2,j,none⟩ (.int .i64 (bx - 48)) neS
     have pR2:=pR.off ⟨g2,j,none⟩ (.int .i64 (bx - 48)) neR
     have b2:=bw.setCell (p:=⟨g2,j,none⟩) hlo.1 (.int .i64 (bx - 48))
     have hjI:(j:Int)<2:=by omega
     obtain ⟨old,hold'⟩:∃ u,wr.cell? ⟨g2,j,none⟩=some u:=⟨_,hold⟩
     clear hold hO pS pR bw
     go_wp2
     go_roundw
     case rel=>exact ⟨j+1,by omega,by go_num,by go_num,hst,pS2,pR2,b2⟩
     case measure=>simp [intOf];omega
    obtain rfl:j=2:=by omega
    simp only [Nat.reduceAdd] at hO
    go_wp2_with fail
    rw [rounds_succ]
    go_wp2_with fail
    go_loopw [5,25] (fun sa si wr=>∃ j:Nat,j≤6∧si=.int .i64 j∧sa=.int .i64 ((9+j:Nat):Int)∧ZJ wr w.heap.size ((some ⟨g0,0,none⟩,3,c0),(some ⟨g1,0,none⟩,4,c1),(some ⟨g2,0,none⟩,2,c2),(some ⟨g3,0,none⟩,6,c3)) (Yw s (9+j))∧Blk wr gS 112 [.slice (some ⟨g0,0,none⟩) 3 c0,.slice (some ⟨g1,0,none⟩) 4 c1,.slice (some ⟨g2,0,none⟩) 2 c2,.slice (some ⟨g3,0,none⟩) 6 c3]∧Blk wr w.heap.size 112 [.slice none 0 0,.slice none 0 0,.slice none 0 0,.slice none 0 0]∧Below w.heap.size w wr) (fun _ si _=>6 - (intOf si).toNat)
    case atStart=>exact ⟨0,by omega,rfl,rfl,hO,pS,pR,bw⟩
    case round =>
     clear hO pS pR bw
     obtain ⟨j,hj,rfl,rfl,hO,pS,pR,bw⟩:=hrel
     by_cases hlt:j<6
     ·have hix:=X9 s (9+j) (9+(j:Int)) (by omega) (by omega)
      have hbb:=XI s (9+j)
      have hst:=hO.set3 j (btV s (9+j) - 48)
      rw [LZ s hlt] at hst
      have hold:=hO.1.2.2.2.at9 hlt
      have hfz:=hO.1.2.2.2.frz9 j
      have hlo:=hO.1.2.2.2.lo9
      have neS:=hO.1.2.2.2.ne9 pS (by decide)
      have neR:=hO.1.2.2.2.ne9 pR (by decide)
      generalize btV s (9+j)=bx at *
      have pS2:=pS.off ⟨g3,j,none⟩ (.int .i64 (bx - 48)) neS
      have pR2:=pR.off ⟨g3,j,none⟩ (.int .i64 (bx - 48)) neR
      have b2:=bw.setCell (p:=⟨g3,j,none⟩) hlo.1 (.int .i64 (bx - 48))
      have hjI:(j:Int)<6:=by omega
      obtain ⟨old,hold'⟩:∃ u,wr.cell? ⟨g3,j,none⟩=some u:=⟨_,hold⟩
      clear hold hO pS pR bw
      go_wp2
      go_roundw
      case rel=>exact ⟨j+1,by omega,by go_num,by go_num,hst,pS2,pR2,b2⟩
      case measure=>simp [intOf];omega
     obtain rfl:j=6:=by omega
     simp only [Nat.reduceAdd] at hO
     have hO':ZJ wr w.heap.size ((some ⟨g0,0,none⟩,3,c0),(some ⟨g1,0,none⟩,4,c1),(some ⟨g2,0,none⟩,2,c2),(some ⟨g3,0,none⟩,6,c3)) bv:=by rw [HBV.out];exact hO
     have kR1:=kR wr (hO'.mem (by rw [HBV.out];exact hfit)) (hV.below bw)
     have e0:=pS.cell 0
     have e1:=pS.cell 1
     have e2:=pS.cell 2
     have e3:=pS.cell 3
     simp only [List.getElem?_cons_zero,List.getElem?_cons_succ] at e0 e1 e2 e3
     clear hO kR y0 y1 y2 y3 hfit HBV
     go_wp2_with fail
     rw [rounds_succ]
     go_wp2_with fail
     refine kR1.mono ?_
     rintro e w3 ⟨rfl,hb⟩
     replace bw:=Zb bw hb
     replace pS:=pS.below hb
     replace pR:=pR.below hb
     replace hO':=hO'.below hb
     clear hb e0 e1 e2 e3 kR1
     cases hok:Zd bv
     ·obtain rfl:z=([],[],[],[]):=by rw [HZ.out,hok];rfl
      obtain rfl:c=3:=by rw [HC.out,hok];rfl
      clear HZ HC
      go_wp2_with (refine Zf rfl 112 _ _ rfl w.heap.size [.slice none 0 0,.slice none 0 0,.slice none 0 0,.slice none 0 0] rfl rfl pR (by kernel_rfl) rfl rfl ?_)
      intro w4 pR4 g4
      replace bw:=bw.grown g4 bw.size (fun x hx=>by cases hx;omega)
      clear g4
      go_wp2_with fail
      refine bodyPost_ret (Zp Tryz.results112 _ _ _ _ _ _ rfl pR4.out Tryz.underlying112 rfl (by kernel_rfl)) rfl ?_
      exact ⟨Yn.mk9 ((none,0,0),(none,0,0),(none,0,0),(none,0,0)) rfl (Vh _ _),bw⟩
     obtain rfl:z=bv:=by rw [HZ.out,hok];rfl
     obtain rfl:c=0:=by rw [HC.out,hok];rfl
     clear HZ HC
     go_wp2_with (first | refine Zc rfl 112 _ rfl gS rfl pS _ Tryz.underlying112 rfl (by kernel_rfl) ?_ | refine Zf rfl 112 _ _ rfl w.heap.size [.slice (some ⟨g0,0,none⟩) 3 c0,.slice (some ⟨g1,0,none⟩) 4 c1,.slice (some ⟨g2,0,none⟩) 2 c2,.slice (some ⟨g3,0,none⟩) 6 c3] rfl rfl pR (by kernel_rfl) rfl rfl ?_)
     intro w4 pR4 g4
     replace bw:=bw.grown g4 bw.size (fun x hx=>by cases hx;omega)
     replace hO':=hO'.kept9 g4 pR (by decide)
     clear g4
     go_wp2_with fail
     refine bodyPost_ret (Zp Tryz.results112 _ _ _ _ _ _ rfl pR4.out Tryz.underlying112 rfl (by kernel_rfl)) rfl ?_
     exact ⟨Yn.mk9 ((some ⟨g0,0,none⟩,3,c0),(some ⟨g1,0,none⟩,4,c1),(some ⟨g2,0,none⟩,2,c2),(some ⟨g3,0,none⟩,6,c3)) rfl hO',bw⟩
end Go.Proofs.YtnffeclgboomoaaGreatDoor
