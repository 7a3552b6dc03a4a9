/-
  Joined: VerI, VerP, Clone, CopI, MemI, KepI.
-/
import Derived.Lib.Strings
import Derived.Lib.Walk
import Derived.Lib.BufferWrite
import Derived.Lib.UnsafeStr
import Derived.Laws.MakeOwn
import Derived.Test.YtgmhhegckcionaaGreatDoorP31

namespace Go.Proofs.YtgmhhegckcionaaGreatDoor
set_option maxRecDepth 100000
set_option maxHeartbeats 16000000
open Go.RowKit
set_option linter.unusedVariables false
set_option linter.unusedSimpArgs false

def atM9 (rows:List (List I3)) (k pc:Nat):Option I3:=(rows.getD k [])[pc]?
def siteV9:Option I3→Value
 | some x=>.iface 122 x.val
 | none=>.iface 162 (.agg #[])

theorem at9_some {rows:List (List I3)} {k pc:Nat} (h:pc<(rows.getD k []).length):atM9 rows k pc=some ((rows.getD k []).getD pc (0,0,0)):=by
 unfold atM9
 generalize rows.getD k []=r at *
 rw [List.getD,List.getElem?_eq_getElem h]
 rfl
theorem at9_none {rows:List (List I3)} {k pc:Nat} (h:¬ pc<(rows.getD k []).length):atM9 rows k pc=none:=List.getElem?_eq_none (by omega)

theorem codes_row9 {w:World} {a:Option Addr} {len cap:Nat} {rows:List (List I3)} (h:Codes w a len cap rows) {k:Nat} (hk:k<len) :
  ∃ b off a' l' c',a=some ⟨b,off,none⟩∧w.cell? ⟨b,off+k,none⟩=some (.slice a' l' c')∧Instrs w a' l' c' (rows.getD k []):=by
 obtain ⟨_,_,_,hc⟩:=h
 rcases hc with h0 | ⟨b,off,ha,_,hc⟩
 ·omega
 ·obtain ⟨a',l',c',h1,h2⟩:=hc k hk
  exact ⟨b,off,a',l',c',ha,h1,h2⟩
theorem instrs_at9 {w:World} {a:Option Addr} {l c:Nat} {xs:List I3} (h:Instrs w a l c xs) {j:Nat} (hj:j<l) :
  ∃ b off,a=some ⟨b,off,none⟩∧w.cell? ⟨b,off+j*3,none⟩=some (.int .i64 (xs.getD j (0,0,0)).1)∧w.cell? ⟨b,off+j*3+1,none⟩=some (.int .i64 (xs.getD j (0,0,0)).2.1)∧w.cell? ⟨b,off+j*3+2,none⟩=some (.int .i64 (xs.getD j (0,0,0)).2.2):=by
 obtain ⟨_,_,_,_,hc⟩:=h
 rcases hc with h0 | ⟨b,off,ha,_,hc⟩
 ·omega
 ·exact ⟨b,off,ha,hc j hj⟩

theorem siteOf_is {w:World} {a:Option Addr} {cap:Nat} {rows:List (List I3)} (h:Codes w a 3 cap rows) {k pc:Nat} (hk:k<3) (hp:pc<7) :
  Calls Tryz.prog 58 #[.agg #[.slice a 3 cap],.int .i64 k,.int .i64 pc] w fun e w'=>e=.returned (siteV9 (atM9 rows k pc))∧Below w.heap.size w w':=by
 obtain ⟨b,off,a',l',c',rfl,r0,hI⟩:=codes_row9 h (hk)
 have hl:=hI.1
 have hk2:(k:Int)<3:=by omega
 have hk0:(0:Int)≤(k:Int):=by omega
 have bw:Below w.heap.size w (w.alloc (.cells #[.slice (some ⟨b,off,none⟩) 3 cap] 25)):=by go_grown
 have g0:(w.alloc (.cells #[.slice (some ⟨b,off,none⟩) 3 cap] 25)).cell? ⟨w.heap.size,0,none⟩=some (.slice (some ⟨b,off,none⟩) 3 cap):=by first | (simp [go_sem];done) | (simp [World.cell?];done)
 replace r0:=cells_kept bw _ _ r0
 by_cases hlt:pc<l'
 ·rw [at9_some (by omega)]
  obtain ⟨b2,o2,rfl,q0,q1,q2⟩:=instrs_at9 hI hlt
  generalize (rows.getD k []).getD pc (0,0,0)=x at *
  obtain ⟨x0,x1,x2⟩:=x
  simp only [siteV9,I3.val] at *
  replace q0:=cells_kept bw _ _ q0
  replace q1:=cells_kept bw _ _ q1
  replace q2:=cells_kept bw _ _ q2
  have hlt2:(pc:Int)<(l':Int):=by omega
  have hp0:(0:Int)≤(pc:Int):=by omega
  clear h hI
  go_enter Tryz.func58,Tryz.ntmps58
  go_wp2_with fail
  generalize (w.alloc (.cells #[.slice (some ⟨b,off,none⟩) 3 cap] 25))=W at *
  go_wp2
  go_ret
  exact ⟨rfl,bw⟩
 ·rw [at9_none (by omega)]
  simp only [siteV9]
  have hlt2:decide ((pc:Int)<(l':Int))=false:=by simp;omega
  clear h hI
  go_enter Tryz.func58,Tryz.ntmps58
  go_wp2_with fail
  generalize (w.alloc (.cells #[.slice (some ⟨b,off,none⟩) 3 cap] 25))=W at *
  go_wp2
  go_ret
  exact ⟨rfl,bw⟩

theorem ta_ins9 (v:Value) (w:World):(Instr.typeAssert (.iface 122 v) 65 122 true).run Tryz.prog w=.ok (.tuple #[v,.bool true]) w:=by kernel_rfl
theorem ta_non9 (v:Value) (w:World):(Instr.typeAssert (.iface 162 v) 65 122 true).run Tryz.prog w=.ok (.tuple #[.agg #[.int .i64 0,.int .i64 0,.int .i64 0],.bool false]) w:=by kernel_rfl

theorem sameSite_is (a b:Option I3) (w:World) :
  Calls Tryz.prog 59 #[siteV9 a,siteV9 b] w fun e w'=>e=.returned (.bool (decide (a=b)))∧Below w.heap.size w w':=by
 have t1:=ta_ins9
 have t2:=ta_non9
 cases a with
 | none =>
  cases b with
  | none =>
   simp only [siteV9]
   go_enter Tryz.func59,Tryz.ntmps59
   go_wp2
   go_ret
   exact ⟨by simp,by go_grown⟩
  | some y =>
   obtain ⟨y0,y1,y2⟩:=y
   simp only [siteV9,I3.val]
   go_enter Tryz.func59,Tryz.ntmps59
   go_wp2
   go_ret
   exact ⟨by simp,by go_grown⟩
 | some x =>
  obtain ⟨x0,x1,x2⟩:=x
  cases b with
  | none =>
   simp only [siteV9,I3.val]
   go_enter Tryz.func59,Tryz.ntmps59
   go_wp2
   go_ret
   exact ⟨by simp,by go_grown⟩
  | some y =>
   obtain ⟨y0,y1,y2⟩:=y
   simp only [siteV9,I3.val]
   go_enter Tryz.func59,Tryz.ntmps59
   go_wp2
   all_goals (go_ret;exact ⟨by simp_all,by go_grown⟩)


abbrev Pl9:=Nat × Nat
def row9 (P Q:List (List I3)) (k p:Nat):List Pl9:=((List.range p).filter (fun pc=>decide (¬ atM9 P k pc=atM9 Q k pc))).map (fun pc=>(k,pc))
def upto9 (P Q:List (List I3)) (k:Nat):List Pl9:=(List.range k).flatMap (fun j=>row9 P Q j 7)
def chg9 (P Q:List (List I3)):List Pl9:=upto9 P Q 3
def itm9 (x:Pl9):Int:=8*(x.1:Int)+(x.2:Int)
def chgI (P Q:List (List I3)):List Int:=(chg9 P Q).map itm9

theorem row9_zero (P Q:List (List I3)) (k:Nat):row9 P Q k 0=[]:=rfl
theorem row9_same {P Q:List (List I3)} {k p:Nat} (h:atM9 P k p=atM9 Q k p):row9 P Q k (p+1)=row9 P Q k p:=by
 simp [row9,List.range_succ,List.filter_append,h]
theorem row9_new {P Q:List (List I3)} {k p:Nat} (h:¬ atM9 P k p=atM9 Q k p):row9 P Q k (p+1)=row9 P Q k p++[(k,p)]:=by
 simp [row9,List.range_succ,List.filter_append,h]
theorem upto9_succ (P Q:List (List I3)) (k:Nat):upto9 P Q (k+1)=upto9 P Q k++row9 P Q k 7:=by
 simp [upto9,List.range_succ]
theorem row9_len (P Q:List (List I3)) (k p:Nat):(row9 P Q k p).length≤p:=by
 unfold row9
 rw [List.length_map]
 exact Nat.le_trans (List.length_filter_le _ _) (by simp)
theorem upto9_len (P Q:List (List I3)):∀ k,(upto9 P Q k).length≤7*k
 | 0=>by simp [upto9]
 | k+1=>by
  rw [upto9_succ,List.length_append]
  have:=upto9_len P Q k
  have:=row9_len P Q k 7
  omega
theorem chg9_len (P Q:List (List I3)):(chg9 P Q).length≤21:=upto9_len P Q 3
theorem row9_mem {P Q:List (List I3)} {k p:Nat} {x:Pl9} (h:x ∈ row9 P Q k p):x.1=k∧x.2<p∧¬ atM9 P x.1 x.2=atM9 Q x.1 x.2:=by
 simp only [row9,List.mem_map,List.mem_filter,List.mem_range,decide_eq_true_eq] at h
 obtain ⟨pc,⟨h1,h2⟩,rfl⟩:=h
 exact ⟨rfl,h1,h2⟩
theorem chg9_mem {P Q:List (List I3)} {x:Pl9}:x ∈ chg9 P Q↔x.1<3∧x.2<7∧¬ atM9 P x.1 x.2=atM9 Q x.1 x.2:=by
 simp only [chg9,upto9,List.mem_flatMap,List.mem_range]
 constructor
 ·rintro ⟨j,hj,hx⟩
  obtain ⟨h1,h2,h3⟩:=row9_mem hx
  exact ⟨by omega,h2,h3⟩
 ·rintro ⟨h1,h2,h3⟩
  refine ⟨x.1,h1,?_⟩
  simp only [row9,List.mem_map,List.mem_filter,List.mem_range,decide_eq_true_eq]
  exact ⟨x.2,⟨h2,h3⟩,rfl⟩
theorem chgI_len (P Q:List (List I3)):(chgI P Q).length≤21:=by
 unfold chgI
 rw [List.length_map]
 exact chg9_len P Q
theorem itm9_ok {k p:Nat} (hk:k<3) (hp:p<7):itOk (itm9 (k,p))=true:=by
 have h1:0≤itm9 (k,p)∧itm9 (k,p)≤22∧itm9 (k,p) % 8≤6:=by
  unfold itm9
  simp only
  omega
 simp [itOk,h1]
theorem chgI_ok {P Q:List (List I3)}:∀ y ∈ chgI P Q,itOk y=true:=by
 intro y hy
 obtain ⟨x,hx,rfl⟩:=List.mem_map.1 hy
 obtain ⟨h1,h2,_⟩:=chg9_mem.1 hx
 exact itm9_ok h1 h2


theorem clone_info:(Tryz.prog.info? 5).map (fun i=>(i.zero,i.size,i.bytes))=some (some (.int .u8 0),1,1):=by kernel_rfl

theorem stringslite_Clone (s:ByteArray) (w:World) (hlim:s.size≤281474976710656) :
  Calls Tryz.prog 133 #[.string s] w fun e w'=>e=.returned (.string s)∧Below w.heap.size w w':=by
 by_cases h0:s.size=0
 ·have hs:s=⟨#[]⟩:=by
   apply ByteArray.ext
   exact Array.eq_empty_of_size_eq_zero h0
  subst hs
  go_enter Tryz.func133,Tryz.ntmps133
  go_wp2
  go_ret
  exact ⟨rfl,Below.refl _ _⟩
 ·obtain ⟨i0,hi,hz0,hz1,hz2⟩:=info_parts clone_info
  have hinfo:(Tryz.prog.info? 5).map (·.size)=some 1:=by rw [hi];simp [hz1]
  have hco:Tryz.prog.cellsOf 5=1:=by simp [Program.cellsOf,hi,hz1]
  obtain ⟨M,hM⟩:∃ M,M=madeCells (Value.int .u8 0).cells (((s.size:Nat):Int).toNat*i0.size):=⟨_,rfl⟩
  have hMs:M.size=s.size:=by rw [hM,size_madeCells,hz1];simp
  have hmk:∀ W:World,(Instr.makeSlice 22 (.int .i64 (s.size:Int)) (.int .i64 (s.size:Int))).run Tryz.prog W=.ok (.slice (some ⟨W.heap.size,0,none⟩) s.size s.size) (W.alloc (.cells M 5)):=fun W=>by
   have h:=run_make (P:=Tryz.prog) W 22 5 i0 (.int .u8 0) Tryz.underlying22 hi hz0 .i64 .i64 (s.size:Int) (s.size:Int) (by omega) (by omega) (by rw [hz2];omega) (by omega)
   rw [← hM] at h
   simpa using h
  clear hM
  have hcp:=Lib.run_copy_row_string (P:=Tryz.prog) (w.alloc (.cells M 5)) 22 9 3 5 w.heap.size 0 s.size s.size s M 5 Tryz.underlying22 hinfo (heap_alloc_new w _) (Nat.le_refl _) (by omega)
  obtain ⟨Y,hY⟩:∃ Y,Y=(M.toList.take 0++Lib.byteCells s.data.toList++M.toList.drop (0+s.size)).toArray:=⟨_,rfl⟩
  rw [← hY] at hcp
  have hYl:Y.toList=Lib.byteCells s.data.toList:=by
   rw [hY,List.toList_toArray,List.take_zero,List.nil_append,List.drop_of_length_le (by rw [Array.length_toList];omega),List.append_nil]
  have hYs:Y.size=s.size:=by rw [← Array.length_toList,hYl,Lib.byteCells_length,← Lib.size_eq]
  have hgY:((w.alloc (.cells M 5)).setRow w.heap.size Y).heap[w.heap.size]?=some (.cells Y 5 (0,0)):=setRow_heap _ _ M _ 5 (0,0) (heap_alloc_new w _)
  have hne:s.data.toList≠[]:=fun e=>h0 (by rw [Lib.size_eq,e];rfl)
  have hUS:=Lib.run_unsafeString_row (P:=Tryz.prog) ((w.alloc (.cells M 5)).setRow w.heap.size Y) 230 3 9 5 Tryz.underlying230 hco w.heap.size Y.size (by unfold World.shape?;rw [hgY]) s.data.toList hne (by rw [← Lib.size_eq];omega) (by rw [← Lib.size_eq];omega)
   (fun j x hx=>Lib.cells_of_row hgY Y.size j _ (by rw [List.take_of_length_le (by rw [Array.length_toList];exact Nat.le_refl _),hYl];simp [Lib.byteCells,hx]))
  rw [← Lib.size_eq] at hUS
  clear hY
  go_enter Tryz.func133,Tryz.ntmps133
  go_wp2
  go_ret
  have hb1:Below w.heap.size w (w.alloc (.cells M 5)):=(Below.refl _ w).alloc (Nat.le_refl _) _
  have hb2:Below w.heap.size (w.alloc (.cells M 5)) ((w.alloc (.cells M 5)).setRow w.heap.size Y):=⟨rfl,rfl,rfl,by simp,fun k hk=>setRow_other _ _ _ _ (by omega)⟩
  exact ⟨rfl,Lib.below_freeze (hb1.trans hb2) (p:=⟨w.heap.size,0,none⟩) (Nat.le_refl _) _⟩

theorem strings_Clone (s:ByteArray) (w:World) (hlim:s.size≤281474976710656) :
  Calls Tryz.prog 88 #[.string s] w fun e w'=>e=.returned (.string s)∧Below w.heap.size w w':=by
 go_enter Tryz.func88,Tryz.ntmps88
 go_wp2_with (go_at_call 133;refine (stringslite_Clone s _ hlim).mono ?_;rintro e w1 ⟨rfl,hb1⟩)
 go_ret
 exact ⟨rfl,hb1⟩


theorem copied_is (e:E3) (s:Sl2) (w:World) (h:Emem w s e) (h1:e.2.1.length≤1048576) (h2:e.2.2.length≤1048576) (h3:e.1.size≤1048576) :
  Calls Tryz.prog 50 #[entV e.1 s] w fun x w'=>EntGot x w' w.heap.size e∧Below w.heap.size w w':=by
 obtain ⟨i0,hi0,hz00,hz01,hz02⟩:=info_parts info_bug
 obtain ⟨i1,hi1,hz10,hz11,hz12⟩:=info_parts info_int
 obtain ⟨⟨_,z1,z2⟩,hB,hF,_⟩:=h
 have l1:=hB.1
 have l2:=hF.1
 have hb1:=hB.2.1
 have hb2:=hF.2.1
 obtain ⟨ek,eb,ez⟩:=e
 obtain ⟨⟨a1,n1,c1⟩,⟨a2,n2,c2⟩⟩:=s
 unfold entV
 simp only at z1 z2 hB hF l1 l2 h1 h2 h3 hb1 hb2 ⊢
 subst l1
 subst l2
 have no1:=nil_of0 (m:=0) (P:=True) z1 hb1
 have no2:=nil_of0 (m:=0) (P:=True) z2 hb2
 clear z1 z2 hb1 hb2
 have kC:=fun W=>strings_Clone ek W (by omega)
 have bw:Below w.heap.size w ((w.alloc (.cells #[.string ek,.slice a1 eb.length c1,.slice a2 ez.length c2] 45)).alloc (.cells #[.string ⟨#[]⟩,.slice none 0 0,.slice none 0 0] 45)):=by go_grown
 have pX:Blk ((w.alloc (.cells #[.string ek,.slice a1 eb.length c1,.slice a2 ez.length c2] 45)).alloc (.cells #[.string ⟨#[]⟩,.slice none 0 0,.slice none 0 0] 45)) w.heap.size 45 [.string ek,.slice a1 eb.length c1,.slice a2 ez.length c2]:=blkOld _ (blkAt _ _ _ rfl)
 have pR:Blk ((w.alloc (.cells #[.string ek,.slice a1 eb.length c1,.slice a2 ez.length c2] 45)).alloc (.cells #[.string ⟨#[]⟩,.slice none 0 0,.slice none 0 0] 45)) (w.heap.size+1) 45 [.string ⟨#[]⟩,.slice none 0 0,.slice none 0 0]:=blkAt _ _ _ (by simp)
 have x0:=pX.cell 0
 have x1:=pX.cell 1
 have x2:=pX.cell 2
 simp only [List.getElem?_cons_zero,List.getElem?_cons_succ] at x0 x1 x2
 go_enter Tryz.func50,Tryz.ntmps50
 go_wp2_with fail
 generalize ((w.alloc (.cells #[.string ek,.slice a1 eb.length c1,.slice a2 ez.length c2] 45)).alloc (.cells #[.string ⟨#[]⟩,.slice none 0 0,.slice none 0 0] 45))=W at *
 have bd0:Below W.heap.size W W.drew:=by go_grown
 have bd:Below w.heap.size w W.drew:=bel8 bw bd0
 refine wp_region_held_drew (S:=(fun w'=>w'.cell? ⟨w.heap.size,0,none⟩=some (.string ek)∧w'.cell? ⟨w.heap.size,1,none⟩=some (.slice a1 eb.length c1)∧w'.cell? ⟨w.heap.size,2,none⟩=some (.slice a2 ez.length c2))) (by kernel_rfl) ⟨x0,x1,x2⟩ (fun hS0=>?_)
 refine tkv 0 3 (.pointer (some ⟨w.heap.size,0,none⟩)) ?_
 refine tkv 1 4 (.string ek) ?_
 refine tkv 3 6 (.pointer (some ⟨w.heap.size,1,none⟩)) ?_
 refine tkv 4 7 (.slice a1 eb.length c1) ?_
 refine tkv 6 9 (.pointer (some ⟨w.heap.size,2,none⟩)) ?_
 refine tkv 7 10 (.slice a2 ez.length c2) ?_
 refine tkr 2 5 (fun K hK=>?_)
 go_simp
 refine (kC _).mono ?_
 rintro e W1 ⟨rfl,hb1⟩
 go_wp2_with fail
 refine hK.out _ _ ?_ (fun hS1=>?_)
 ·exact ⟨cells_kept hb1 _ _ hS0.1,cells_kept hb1 _ _ hS0.2.1,cells_kept hb1 _ _ hS0.2.2⟩
 clear hK
 replace bw:=bel8 bd hb1
 replace pX:=(pX.below bd0).below hb1
 replace pR:=(pR.below bd0).below hb1
 clear hb1 bd bd0
 refine tkr 5 8 (fun K hK=>?_)
 refine step_app9 rfl _ _ 28 rfl (w.heap.size+2) 103 i0 (.agg #[.int .i64 0,.int .i64 0,.int .i64 0]) 3 24 Tryz.underlying28 hi0 hz00 hz01 hz02 rfl (by decide) (.slice none 0 0) 0 [] rfl (World.ownsRow_nil _ _ _ _) a1 eb.length c1 rfl no1 (flat eb) (by rw [flat_length]) (fun ad ha=>by subst ha;exact newsB9 (hB.below bw)) (flat_one eb) (by unfold maxLen;omega) (by omega) (by have:=pR.lt;omega) ?_
 intro v5 W5 hown hgrow _
 have hbn:Below W1.heap.size W1 W5:=⟨hgrow.os,hgrow.tape,hgrow.output,hgrow.size,fun g hg=>hgrow.block g hg (by simp [Value.ownBlock])⟩
 have q5:W5.ownsRow (w.heap.size+2) 103 3 v5 eb.length (flat eb):=by simpa using hown
 go_simp
 refine hK.out _ _ ?_ (fun hS5=>?_)
 ·exact ⟨cells_kept hbn _ _ hS1.1,cells_kept hbn _ _ hS1.2.1,cells_kept hbn _ _ hS1.2.2⟩
 clear hK
 try simp only [Act.put,tka,tkb,tkc]
 replace bw:=bel8 bw hbn
 replace pX:=pX.below hbn
 replace pR:=pR.below hbn
 skip
 obtain ⟨va5,vc5,rfl⟩:=slice8 q5
 clear hown hgrow hbn
 refine tkr 8 11 (fun K hK=>?_)
 refine step_app9 rfl _ _ 36 rfl (w.heap.size+2) 3 i1 (.int .i64 0) 1 8 Tryz.underlying36 hi1 hz10 hz11 hz12 rfl (by decide) (.slice none 0 0) 0 [] rfl (World.ownsRow_nil _ _ _ _) a2 ez.length c2 rfl no2 (ez.map (Value.int .i64)) (by rw [List.length_map,Nat.mul_one]) (fun ad ha=>by subst ha;exact newsI9 (hF.below bw)) (one8 ez) (by unfold maxLen;omega) (by omega) (by have:=pR.lt;omega) ?_
 intro v8 W8 hown hgrow _
 have hbn:Below W5.heap.size W5 W8:=⟨hgrow.os,hgrow.tape,hgrow.output,hgrow.size,fun g hg=>hgrow.block g hg (by simp [Value.ownBlock])⟩
 have q8:W8.ownsRow (w.heap.size+2) 3 1 v8 ez.length (ez.map (Value.int .i64)):=by simpa using hown
 go_simp
 refine hK.out _ _ ?_ (fun hS8=>?_)
 ·exact ⟨cells_kept hbn _ _ hS5.1,cells_kept hbn _ _ hS5.2.1,cells_kept hbn _ _ hS5.2.2⟩
 clear hK
 try simp only [Act.put,tka,tkb,tkc]
 replace bw:=bel8 bw hbn
 replace pX:=pX.below hbn
 replace pR:=pR.below hbn
 replace q5:=owns8 q5 hbn
 obtain ⟨va8,vc8,rfl⟩:=slice8 q8
 clear hown hgrow hbn
 refine tkv 9 12 (.agg #[.string ek,.slice va5 eb.length vc5,.slice va8 ez.length vc8]) ?_
 have r0:=pR.cell 0
 have r1:=pR.cell 1
 have r2:=pR.cell 2
 have fr0:=pR.frozen 0
 have fr1:=pR.frozen 1
 have fr2:=pR.frozen 2
 simp only [List.getElem?_cons_zero,List.getElem?_cons_succ] at r0 r1 r2
 have pZ:=((pR.set 0 (.string ek)).set 1 (.slice va5 eb.length vc5)).set 2 (.slice va8 ez.length vc8)
 have pX2:=((pX.off ⟨w.heap.size+1,0,none⟩ (.string ek) (by simp)).off ⟨w.heap.size+1,1,none⟩ (.slice va5 eb.length vc5) (by simp)).off ⟨w.heap.size+1,2,none⟩ (.slice va8 ez.length vc8) (by simp)
 simp only [List.set_cons_zero,List.set_cons_succ] at pZ
 have z0:=pZ.cell 0
 have zz1:=pZ.cell 1
 have zz2:=pZ.cell 2
 have m0:=pX2.cell 0
 have m1:=pX2.cell 1
 have m2:=pX2.cell 2
 simp only [List.getElem?_cons_zero,List.getElem?_cons_succ] at z0 zz1 zz2 m0 m1 m2
 have hle:w.heap.size≤w.heap.size+1:=by omega
 have hlt9:w.heap.size+1<w.heap.size+2:=by omega
 have bz:=((bw.setCell (p:=⟨w.heap.size+1,0,none⟩) hle (.string ek)).setCell (p:=⟨w.heap.size+1,1,none⟩) hle (.slice va5 eb.length vc5)).setCell (p:=⟨w.heap.size+1,2,none⟩) hle (.slice va8 ez.length vc8)
 replace q5:=ownsRow_setCell_below (ownsRow_setCell_below (ownsRow_setCell_below q5 (a:=⟨w.heap.size+1,0,none⟩) hlt9 (.string ek)) (a:=⟨w.heap.size+1,1,none⟩) hlt9 (.slice va5 eb.length vc5)) (a:=⟨w.heap.size+1,2,none⟩) hlt9 (.slice va8 ez.length vc8)
 replace q8:=ownsRow_setCell_below (ownsRow_setCell_below (ownsRow_setCell_below q8 (a:=⟨w.heap.size+1,0,none⟩) hlt9 (.string ek)) (a:=⟨w.heap.size+1,1,none⟩) hlt9 (.slice va5 eb.length vc5)) (a:=⟨w.heap.size+1,2,none⟩) hlt9 (.slice va8 ez.length vc8)
 have qB9:=lower8 q5 (show w.heap.size≤w.heap.size+2 by omega)
 have qF9:=lower8 q8 (show w.heap.size≤w.heap.size+2 by omega)
 clear pR pZ pX pX2 bw q5 q8
 refine tkz 10 (fun K hK=>?_)
 go_simp
 refine hK.out _ _ ?_ (fun hS10=>?_)
 ·exact ⟨m0,m1,m2⟩
 clear hK
 try simp only [Act.put,tka,tkb,tkc]
 refine wpAnyH_done (by kernel_rfl) ?_ _
 go_wp2
 refine bodyPost_ret (by simp [results,Tryz.results50,go_sem,z0,zz1,zz2];try rfl) rfl ?_
 exact ⟨EntGot.mk9 (e:=(ek,eb,ez)) ((va5,eb.length,vc5),(va8,ez.length,vc8)) ⟨qB9,qF9⟩,bz⟩


def MemGot (x:Ending) (w':World) (B:Nat) (es:List E3):Prop:=∃ v,x=.returned (.agg #[v])∧OwnM w' B v es
theorem MemGot.mk9 {w':World} {B:Nat} {v:Value} {es:List E3} (h:OwnM w' B v es):MemGot (.returned (.agg #[v])) w' B es:=⟨v,rfl,h⟩
theorem EntGot.lower {x:Ending} {w':World} {B B':Nat} {e:E3} (h:EntGot x w' B e) (hB:B'≤B):EntGot x w' B' e:=by
 obtain ⟨s,h1,h2⟩:=h
 exact ⟨s,h1,h2.lower hB⟩
theorem news_new9 (w:World) (cs:List Value) (t:TypeId):∀ ad,some (⟨w.heap.size,0,none⟩:Addr)=some ad→∀ j u,cs[j]?=some u→(w.alloc (.cells cs.toArray t)).cell? (ad.add j)=some u:=by
 intro ad ha j u hj
 cases ha
 have e:(⟨w.heap.size,0,none⟩:Addr).add j=⟨w.heap.size,0+j,none⟩:=by unfold Addr.add;split<;>simp_all
 rw [e,Nat.zero_add]
 have p:Blk (w.alloc (.cells cs.toArray t)) w.heap.size t cs:=blkAt _ _ _ rfl
 rw [p.cell j]
 exact hj
theorem entC_one (k:ByteArray) (s:Sl2):∀ u ∈ entC k s,u.oneCell'=true:=by
 intro u hu
 simp [entC] at hu
 rcases hu with rfl | rfl | rfl<;>rfl
theorem take_snoc9 {es:List E3} {k:Nat} (h:k<es.length):es.take k++[es.getD k e3d]=es.take (k+1):=by
 rw [List.take_add_one,List.getElem?_eq_getElem h,getD9 h]
 rfl
theorem keep_snoc9 {es:List E3} {ch:List Int} {k:Nat} (h:k<es.length):keepE (es.take (k+1)) ch=if tchB (es.getD k e3d).2.2 ch then keepE (es.take k) ch else keepE (es.take k) ch++[es.getD k e3d]:=by
 rw [← take_snoc9 h]
 unfold keepE
 rw [List.filter_append]
 cases hc:tchB (es.getD k e3d).2.2 ch
 ·simp only [List.filter_cons,hc,List.filter_nil]
  rfl
 ·simp only [List.filter_cons,hc,List.filter_nil]
  simp

def SmE (es:List E3):Prop:=es.length≤2000∧∀ i,i<es.length→(es.getD i e3d).2.1.length≤1048576∧(es.getD i e3d).2.2.length≤1048576
theorem smE_of {es:List E3} (h:memOk es=true):SmE es:=⟨memOk_len h,fun i hi=>by
 have h1:=entOk_bugs (memOk_ent h hi)
 have h2:=entOk_foot (memOk_ent h hi)
 omega⟩
theorem l10Own_isR (a:Option Addr) (n cap:Nat) (es:List E3) (w:World) (h:Ents w a n cap es) (hok:SmE es) :
  Calls Tryz.prog 33 #[.agg #[.slice a n cap]] w fun e w'=>MemGot e w' w.heap.size (es)∧Below w.heap.size w w':=by
 obtain ⟨i0,hi0,hz0,hz1,hz2⟩:=info_parts info_entry
 have hl:=h.1
 have hn:n≤2000:=by have:=hok.1;omega
 have bu:Below w.heap.size w ((w.alloc (.cells #[.slice a n cap] 33)).alloc (.cells #[.slice none 0 0] 33)):=by go_grown
 have pM:Blk ((w.alloc (.cells #[.slice a n cap] 33)).alloc (.cells #[.slice none 0 0] 33)) w.heap.size 33 [.slice a n cap]:=blkOld _ (blkAt _ _ _ rfl)
 have pR:Blk ((w.alloc (.cells #[.slice a n cap] 33)).alloc (.cells #[.slice none 0 0] 33)) (w.heap.size+1) 33 [.slice none 0 0]:=blkAt _ _ _ (by simp)
 have g0:=pM.cell 0
 simp only [List.getElem?_cons_zero] at g0
 go_enter Tryz.func33,Tryz.ntmps33
 go_wp2_with fail
 have bE:Below ((w.alloc (.cells #[.slice a n cap] 33)).alloc (.cells #[.slice none 0 0] 33)).heap.size ((w.alloc (.cells #[.slice a n cap] 33)).alloc (.cells #[.slice none 0 0] 33)) (((w.alloc (.cells #[.slice a n cap] 33)).alloc (.cells #[.slice none 0 0] 33)).alloc (.cells #[] 45)):=by go_grown
 have M0:OwnM (((w.alloc (.cells #[.slice a n cap] 33)).alloc (.cells #[.slice none 0 0] 33)).alloc (.cells #[] 45)) (w.heap.size+2) (.slice (some ⟨w.heap.size+1+1,0,none⟩) 0 0) []:=by
  have h9:=empty8 ((w.alloc (.cells #[.slice a n cap] 33)).alloc (.cells #[.slice none 0 0] 33)) 45 3 (w.heap.size+2) (by simp)
  exact ⟨[],by simpa using h9,fun t ht=>by simp at ht,fun t _ ht=>by simp at ht⟩
 have bU:=bel8 bu bE
 have gU:=cell8 bE g0
 have rU:=pR.below bE
 generalize (((w.alloc (.cells #[.slice a n cap] 33)).alloc (.cells #[.slice none 0 0] 33)).alloc (.cells #[] 45))=U at *
 have rUs:w.heap.size+2≤U.heap.size:=by have:=rU.lt;omega
 go_loopw [3,4] (fun so si wr=>∃ (k:Nat) (va:Option Addr) (vn vc:Nat),k≤n∧si=.int .i64 k∧so=.slice va vn vc∧OwnM wr (w.heap.size+2) (.slice va vn vc) (es.take k)∧Below w.heap.size w wr∧wr.cell? ⟨w.heap.size,0,none⟩=some (.slice a n cap)∧Blk wr (w.heap.size+1) 33 [.slice none 0 0]∧w.heap.size+2≤wr.heap.size) (fun _ si _=>n - (intOf si).toNat)
 case atStart=>exact ⟨0,_,_,_,by omega,rfl,rfl,by simpa using M0,bU,gU,rU,rUs⟩
 case round =>
  obtain ⟨k,xa,xn,xc,hk,rfl,rfl,hM,bw,gw,pW,hsW⟩:=hrel
  by_cases hlt:k<n
  ·obtain ⟨_,_,_,hcase⟩:=h.below bw
   rcases hcase with e0 | ⟨b,off,rfl,hb,hc⟩
   ·omega
   obtain ⟨s,x0,x1,x2,hm⟩:=hc k hlt
   clear hc hb
   have hek:=hok.2 k (by omega)
   have y1:=hek.1
   have y2:=hek.2
   have kE:=fun W (hb:Below wr.heap.size wr W)=>(l10OwnEntry_is (es.getD k e3d) s W (hm.below hb) (by omega) (by omega)).mono (fun x w' h9=>(⟨h9.1.lower hb.size,bel8 hb h9.2⟩:EntGot x w' wr.heap.size (es.getD k e3d)∧Below wr.heap.size wr w'))
   have hsn:=take_snoc9 (es:=es) (k:=k) (by omega)
   clear hm hek y1 y2
   generalize es.getD k e3d=x at *
   generalize hps:es.take k=ps at *
   have hpl:ps.length≤2000:=by rw [← hps];rw [List.length_take];omega
   clear hps
   obtain ⟨xk,xb,xz⟩:=x
   obtain ⟨⟨a1,n1,c1⟩,⟨a2,n2,c2⟩⟩:=s
   unfold entV at kE
   simp only at x0 x1 x2 kE
   have hlt':(k:Int)<(n:Int):=by omega
   have hk0:(0:Int)≤(k:Int):=by omega
   go_wp2_with fail
   refine (kE _ (Below.refl _ _)).mono ?_
   rintro e w1 ⟨⟨⟨⟨d1,p1,q1⟩,⟨d2,p2,q2⟩⟩,rfl,hO⟩,hbn⟩
   obtain ⟨cs,ho,hE⟩:=hM
   have hb2:Below w1.heap.size w1 (w1.alloc (.cells #[.string xk,.slice d1 p1 q1,.slice d2 p2 q2] 45)):=by go_grown
   have ho2:=owns8 (owns8 ho hbn) hb2
   have hs2:w.heap.size+2≤(w1.alloc (.cells #[.string xk,.slice d1 p1 q1,.slice d2 p2 q2] 45)).heap.size:=by have:=hb2.size;have:=hbn.size;omega
   clear x0 x1 x2 kE
   unfold entV
   simp only
   go_wp2_with (at_builtin;refine wpList_app9 rfl _ _ 31 rfl (w.heap.size+2) 45 i0 (.agg #[.string ⟨#[]⟩,.slice none 0 0,.slice none 0 0]) 3 64 Tryz.underlying31 hi0 hz0 hz1 hz2 rfl (by decide) _ _ _ rfl ho2 _ 1 1 rfl (fun h9=>by cases h9) (entC xk ((d1,p1,q1),(d2,p2,q2))) (by simp [entC]) (news_new9 w1 [.string xk,.slice d1 p1 q1,.slice d2 p2 q2] 45) (entC_one _ _) (by unfold maxLen;omega) (by omega) hs2 ?_)
   intro v3 w3 hown hgrow _
   obtain ⟨va9,vc9,rfl⟩:=slice8 hown
   have hM3:=OwnM.snoc9 (s:=((d1,p1,q1),(d2,p2,q2))) ho hE hbn hO hb2 hgrow hown (by omega)
   have hgB:∀ g,(Value.ownBlock (.slice xa xn xc))=some g→w.heap.size+2≤g:=fun g hg=>(ho2.lt g hg).1
   have b3:Below w.heap.size w w3:=(bel8 (bel8 bw hbn) hb2).grown hgrow (by omega) (fun g hg=>by have:=hgB g hg;omega)
   have g3:=(Blk.kept ((pW.below hbn).below hb2) hgrow (fun e9=>by have:=hgB _ e9;omega))
   have c3:w3.cell? ⟨w.heap.size,0,none⟩=some (.slice (some ⟨b,off,none⟩) n cap):=grown8 hgrow (cell8 hb2 (cell8 hbn gw)) (fun e9=>by have:=hgB _ e9.symm;simp at this;omega)
   have s3:w.heap.size+2≤w3.heap.size:=Nat.le_trans hs2 hgrow.size
   skip
   clear ho hE hbn hO hb2 ho2 hs2 hown hgrow hgB
   go_wp2
   go_roundw
   case rel=>exact ⟨k+1,_,_,_,by omega,by go_num,rfl,by rw [← hsn];exact hM3,b3,c3,g3,s3⟩
   case measure=>simp [intOf];omega
  ·obtain rfl:k=n:=by omega
   have e9:es.take k=es:=by rw [List.take_of_length_le (by omega)]
   rw [e9] at hM
   have r0:=pW.cell 0
   have fr0:=pW.frozen 0
   have pZ:=pW.set 0 (.slice xa xn xc)
   simp only [List.set_cons_zero] at pZ
   have z0:=pZ.cell 0
   simp only [List.getElem?_cons_zero] at z0 r0
   have hM9:=(hM.low (p:=⟨w.heap.size+1,0,none⟩) (show w.heap.size+1<w.heap.size+2 by omega) (.slice xa xn xc)).lower (show w.heap.size≤w.heap.size+2 by omega)
   have bz:=bw.setCell (p:=⟨w.heap.size+1,0,none⟩) (show w.heap.size≤w.heap.size+1 by omega) (.slice xa xn xc)
   clear hM pZ pW bw e9
   go_wp2
   refine bodyPost_ret (by simp [results,Tryz.results33,go_sem,z0];try rfl) rfl ?_
   exact ⟨MemGot.mk9 hM9,bz⟩

theorem l10Own_is (a:Option Addr) (n cap:Nat) (es:List E3) (w:World) (h:Ents w a n cap es) (hok:memOk es=true) :
  Calls Tryz.prog 33 #[.agg #[.slice a n cap]] w fun e w'=>MemGot e w' w.heap.size (es)∧Below w.heap.size w w':=l10Own_isR a n cap es w h (smE_of hok)


theorem kept_is (a:Option Addr) (n cap:Nat) (es:List E3) (ch:List Int) (a':Option Addr) (n' c':Nat) (w:World) (h:Ents w a n cap es) (hok:memOk es=true) (hC:Ints .i64 w a' n' c' ch) (hn':n'≤4096) (hwf:wfs ch) :
  Calls Tryz.prog 30 #[.agg #[.slice a n cap],.slice a' n' c'] w fun e w'=>MemGot e w' w.heap.size (keepE es ch)∧Below w.heap.size w w':=by
 obtain ⟨i0,hi0,hz0,hz1,hz2⟩:=info_parts info_entry
 have hl:=h.1
 have hn:n≤2000:=by have:=memOk_len hok;omega
 have bu:Below w.heap.size w ((w.alloc (.cells #[.slice a n cap] 33)).alloc (.cells #[.slice none 0 0] 33)):=by go_grown
 have pM:Blk ((w.alloc (.cells #[.slice a n cap] 33)).alloc (.cells #[.slice none 0 0] 33)) w.heap.size 33 [.slice a n cap]:=blkOld _ (blkAt _ _ _ rfl)
 have pR:Blk ((w.alloc (.cells #[.slice a n cap] 33)).alloc (.cells #[.slice none 0 0] 33)) (w.heap.size+1) 33 [.slice none 0 0]:=blkAt _ _ _ (by simp)
 have g0:=pM.cell 0
 simp only [List.getElem?_cons_zero] at g0
 have hRow:=rows_one ((w.alloc (.cells #[.slice a n cap] 33)).alloc (.cells #[.slice none 0 0] 33)) (hC.below bu)
 have hsz:((w.alloc (.cells #[.slice a n cap] 33)).alloc (.cells #[.slice none 0 0] 33)).heap.size=w.heap.size+1+1:=by simp
 rw [hsz] at hRow
 have kM:=merged_is _ 1 1 [ch] _ hRow (by omega) (by simp;have:=hC.1;omega) (fun x hx=>hwf x (by simpa using hx))
 have e9:[ch].flatten=ch:=by simp
 rw [e9] at kM
 clear hRow e9 hsz
 go_enter Tryz.func30,Tryz.ntmps30
 go_wp2_with fail
 refine kM.mono ?_
 rintro e U ⟨⟨v9,rfl,hq⟩,hbU⟩
 obtain ⟨va,vc,rfl⟩:=slice8 hq
 replace bu:=bel8 (bel8 bu (by go_grown)) hbU
 replace pM:=(pM.below (by go_grown)).below hbU
 replace pR:=(pR.below (by go_grown)).below hbU
 replace g0:=pM.cell 0
 simp only [List.getElem?_cons_zero] at g0
 have hI:=ints8 hq
 have hwI:wfs (mrgI ch):=fun x hx=>hwf x ((mrgI_mem ch x).1 hx)
 have hnI:(mrgI ch).length≤4096:=Nat.le_trans (mrgI_len ch) (by have:=hC.1;omega)
 clear hbU hq kM
 go_wp2_with fail
 have hRU:=pR.lt
 have rUs:w.heap.size+2≤U.heap.size:=by have:=pR.lt;omega
 go_loopw [6,15] (fun so si wr=>∃ (k:Nat) (va:Option Addr) (vn vc:Nat),k≤n∧si=.int .i64 k∧so=.slice va vn vc∧OwnM wr U.heap.size (.slice va vn vc) (keepE (es.take k) ch)∧Below w.heap.size w wr∧wr.cell? ⟨w.heap.size,0,none⟩=some (.slice a n cap)∧Blk wr (w.heap.size+1) 33 [.slice none 0 0]∧U.heap.size≤wr.heap.size∧Below U.heap.size U wr) (fun _ si _=>n - (intOf si).toNat)
 case atStart=>exact ⟨0,none,0,0,by omega,rfl,rfl,by simpa [keepE] using OwnM.nil9 _ _,bu,g0,pR,Nat.le_refl _,Below.refl _ _⟩
 case round =>
  obtain ⟨k,xa,xn,xc,hk,rfl,rfl,hM,bw,gw,pW,hsW,bUW⟩:=hrel
  by_cases hlt:k<n
  ·obtain ⟨_,_,_,hcase⟩:=h.below bw
   rcases hcase with e0 | ⟨b,off,rfl,hb,hc⟩
   ·omega
   obtain ⟨s,x0,x1,x2,hm⟩:=hc k hlt
   clear hc hb
   have hek:=memOk_ent hok (i:=k) (by omega)
   have y1:=entOk_bugs hek
   have y2:=entOk_foot hek
   have y3:=entOk_key hek
   have kE:=fun W (hb:Below wr.heap.size wr W)=>(copied_is (es.getD k e3d) s W (hm.below hb) (by omega) (by omega) (by omega)).mono (fun x w' h9=>(⟨h9.1.lower hb.size,bel8 hb h9.2⟩:EntGot x w' wr.heap.size (es.getD k e3d)∧Below wr.heap.size wr w'))
   have hsn:=keep_snoc9 (es:=es) (ch:=ch) (k:=k) (by omega)
   have kT:=fun W (hb:Below wr.heap.size wr W)=>implTouches_is s.2.1 s.2.2.1 s.2.2.2 (es.getD k e3d).2.2 va (mrgI ch).length vc (mrgI ch) W ((hm.below hb).2.2.1) ((hI.below bUW).below hb) (by have:=hm.2.2.1.1;omega) (by omega) hm.2.2.2 hwI
   have hTT:tchV (es.getD k e3d).2.2 (mrgI ch)=tchB (es.getD k e3d).2.2 ch:=by
    unfold tchV
    rw [decide_eq_true (show (es.getD k e3d).2.2.length≤4096 by omega),decide_eq_true hnI,Bool.true_and,Bool.true_and]
    unfold tchB
    simp only [mrgI_mem]
   rw [hTT] at kT
   clear hTT
   clear hm hek y1 y2 y3
   generalize es.getD k e3d=x at *
   generalize hps:keepE (es.take k) ch=ps at *
   have hpl:ps.length≤2000:=by rw [← hps];unfold keepE;refine Nat.le_trans (List.length_filter_le _ _) ?_;rw [List.length_take];omega
   clear hps
   have HS:Hid (keepE (es.take (k+1)) ch=if tchB x.2.2 ch then ps else ps++[x]):=hsn
   clear hsn
   obtain ⟨xk,xb,xz⟩:=x
   obtain ⟨⟨a1,n1,c1⟩,⟨a2,n2,c2⟩⟩:=s
   unfold entV at kE
   simp only at x0 x1 x2 kE kT HS
   have hlt':(k:Int)<(n:Int):=by omega
   have hk0:(0:Int)≤(k:Int):=by omega
   have pB:Blk (wr.alloc (.cells #[.string xk,.slice a1 n1 c1,.slice a2 n2 c2] 45)) wr.heap.size 45 [.string xk,.slice a1 n1 c1,.slice a2 n2 c2]:=blkAt _ _ _ rfl
   generalize tchB xz ch=tb at *
   cases tb
   ·replace HS:Hid (keepE (es.take (k+1)) ch=ps++[(xk,xb,xz)]):=HS.out
    go_wp2_with fail
    refine (kT _ (by go_grown)).mono ?_
    rintro e wt ⟨rfl,hbt⟩
    replace pB:=pB.below hbt
    have hbx:Below wr.heap.size wr wt:=bel8 (by go_grown) hbt
    clear hbt kT x0 x1 x2
    have x0:=pB.cell 0
    have x1:=pB.cell 1
    have x2:=pB.cell 2
    simp only [List.getElem?_cons_zero,List.getElem?_cons_succ] at x0 x1 x2
    go_wp2_with fail
    refine (kE _ hbx).mono ?_
    rintro e w1 ⟨⟨⟨⟨d1,p1,q1⟩,⟨d2,p2,q2⟩⟩,rfl,hO⟩,hbn⟩
    obtain ⟨cs,ho,hE⟩:=hM
    have hb2:Below w1.heap.size w1 (w1.alloc (.cells #[.string xk,.slice d1 p1 q1,.slice d2 p2 q2] 45)):=by go_grown
    have ho2:=owns8 (owns8 ho hbn) hb2
    have hs2:U.heap.size≤(w1.alloc (.cells #[.string xk,.slice d1 p1 q1,.slice d2 p2 q2] 45)).heap.size:=by have:=hb2.size;have:=hbn.size;omega
    clear x0 x1 x2 kE
    unfold entV
    simp only
    go_wp2_with (at_builtin;refine wpList_app9 rfl _ _ 31 rfl (U.heap.size) 45 i0 (.agg #[.string ⟨#[]⟩,.slice none 0 0,.slice none 0 0]) 3 64 Tryz.underlying31 hi0 hz0 hz1 hz2 rfl (by decide) _ _ _ rfl ho2 _ 1 1 rfl (fun h9=>by cases h9) (entC xk ((d1,p1,q1),(d2,p2,q2))) (by simp [entC]) (news_new9 w1 [.string xk,.slice d1 p1 q1,.slice d2 p2 q2] 45) (entC_one _ _) (by unfold maxLen;omega) (by omega) hs2 ?_)
    intro v3 w3 hown hgrow _
    obtain ⟨va9,vc9,rfl⟩:=slice8 hown
    have hM3:=OwnM.snoc9 (s:=((d1,p1,q1),(d2,p2,q2))) ho hE hbn hO hb2 hgrow hown (by omega)
    have hgB:∀ g,(Value.ownBlock (.slice xa xn xc))=some g→U.heap.size≤g:=fun g hg=>(ho2.lt g hg).1
    have b3:Below w.heap.size w w3:=(bel8 (bel8 bw hbn) hb2).grown hgrow (by omega) (fun g hg=>by have:=hgB g hg;omega)
    have g3:=(Blk.kept ((pW.below hbn).below hb2) hgrow (fun e9=>by have:=hgB _ e9;omega))
    have c3:w3.cell? ⟨w.heap.size,0,none⟩=some (.slice (some ⟨b,off,none⟩) n cap):=grown8 hgrow (cell8 hb2 (cell8 hbn gw)) (fun e9=>by have:=hgB _ e9.symm;simp at this;omega)
    have s3:U.heap.size≤w3.heap.size:=Nat.le_trans hs2 hgrow.size
    have bU3:Below U.heap.size U w3:=(bel8 (bel8 bUW hbn) hb2).grown hgrow (by omega) (fun g hg=>by have:=hgB g hg;omega)
    clear ho hE hbn hO hb2 ho2 hs2 hown hgrow hgB
    go_wp2
    go_roundw
    case rel=>exact ⟨k+1,_,_,_,by omega,by go_num,rfl,by rw [HS.out];exact hM3,b3,c3,g3,s3,bU3⟩
    case measure=>simp [intOf];omega
   ·replace HS:Hid (keepE (es.take (k+1)) ch=ps):=HS.out
    go_wp2_with fail
    refine (kT _ (by go_grown)).mono ?_
    rintro e wt ⟨rfl,hbt⟩
    have hbx:Below wr.heap.size wr wt:=bel8 (by go_grown) hbt
    clear hbt kT x0 x1 x2 kE pB
    have hM3:=hM.below hbx
    have b3:=bel8 bw hbx
    have c3:=cell8 hbx gw
    have g3:=pW.below hbx
    have s3:=Nat.le_trans hsW hbx.size
    have bU3:=bel8 bUW hbx
    clear hM hbx
    go_wp2
    go_roundw
    case rel=>exact ⟨k+1,_,_,_,by omega,by go_num,rfl,by rw [HS.out];exact hM3,b3,c3,g3,s3,bU3⟩
    case measure=>simp [intOf];omega
  ·obtain rfl:k=n:=by omega
   have e9:keepE (es.take k) ch=keepE es ch:=by rw [List.take_of_length_le (by omega)]
   rw [e9] at hM
   have r0:=pW.cell 0
   have fr0:=pW.frozen 0
   have pZ:=pW.set 0 (.slice xa xn xc)
   simp only [List.set_cons_zero] at pZ
   have z0:=pZ.cell 0
   simp only [List.getElem?_cons_zero] at z0 r0
   have hM9:=(hM.low (p:=⟨w.heap.size+1,0,none⟩) (show w.heap.size+1<U.heap.size by omega) (.slice xa xn xc)).lower (show w.heap.size≤U.heap.size by omega)
   have bz:=bw.setCell (p:=⟨w.heap.size+1,0,none⟩) (show w.heap.size≤w.heap.size+1 by omega) (.slice xa xn xc)
   clear hM pZ pW bw e9
   go_wp2
   refine bodyPost_ret (by simp [results,Tryz.results30,go_sem,z0];try rfl) rfl ?_
   exact ⟨MemGot.mk9 hM9,bz⟩
end Go.Proofs.YtgmhhegckcionaaGreatDoor
