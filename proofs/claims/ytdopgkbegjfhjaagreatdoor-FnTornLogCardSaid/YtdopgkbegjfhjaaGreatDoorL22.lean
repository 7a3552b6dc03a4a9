/-
  Joined: DskI.
-/
import Derived.Below
import Derived.Deep.RegionWith
import Derived.Test.YtdopgkbegjfhjaaGreatDoorL17

namespace Go.Proofs.YtdopgkbegjfhjaaGreatDoor
set_option maxRecDepth 100000
set_option maxHeartbeats 16000000
open Go.RowKit
set_option linter.unusedVariables false
set_option linter.unusedSimpArgs false

abbrev D2:=ByteArray × ByteArray
def D2.val (d:D2):Value:=.agg #[.string d.1,.string d.2]
def D2.few (d:D2):Prop:=d.1.size+d.2.size≤1048576
def DBox (w:World) (g:Nat) (d:D2):Prop:=Blk w g 27 [.string d.1,.string d.2]
theorem drewD {n:Nat} {a b:World} (h:Below n a b):Below n a b.drew:=below_drewN h 1
theorem cellsD2 {w w':World} (h:Below w.heap.size w w'):∀ (p:Addr) (v:Value),w.cell? p=some v→w'.cell? p=some v:=by
 intro p v hc
 have hb:p.block<w.heap.size:=by
  rcases Nat.lt_or_ge p.block w.heap.size with h | h
  ·exact h
  ·simp [World.cell?,Array.getElem?_eq_none h] at hc
 rw [h.cell hb,hc]
theorem gcD (w:World) (b i:Nat) (v:Value):w.grownBy (w.setCell ⟨b,i,none⟩ v) (some b):=⟨rfl,rfl,rfl,by simp [World.setCell],fun k _ hk=>Below.heap_setCell w _ v k (fun e=>hk (by rw [e]))⟩
theorem gtD {a b c:World} {r:Option Nat} (h:Below a.heap.size a b) (k:b.grownBy c r):a.grownBy c r:=⟨k.os.trans h.os,k.tape.trans h.tape,k.output.trans h.output,Nat.le_trans h.size k.size,fun j hj hr=>(k.block j (Nat.lt_of_lt_of_le hj h.size) hr).trans (h.block j hj)⟩
theorem belD {a b c:World} (h:Below a.heap.size a b) (k:Below b.heap.size b c):Below a.heap.size a c:=h.trans (k.mono h.size)
theorem DBox.c0 {w:World} {g:Nat} {d:D2} (h:DBox w g d):w.cell? ⟨g,0,none⟩=some (.string d.1):=h.cell 0
theorem DBox.c1 {w:World} {g:Nat} {d:D2} (h:DBox w g d):w.cell? ⟨g,1,none⟩=some (.string d.2):=h.cell 1
theorem DBox.below {w w':World} {g:Nat} {d:D2} (h:DBox w g d) (b:Below w.heap.size w w'):DBox w' g d:=Blk.below h b

theorem room_is (g:Nat) (d:D2) (w:World) (hd:d.few) (hB:DBox w g d) :
  Calls Tryz.prog 65 #[.pointer (some ⟨g,0,none⟩)] w fun e w'=>e=.returned (.int .i64 (60000 - (d.1.size:Int) - (d.2.size:Int)))∧Below w.heap.size w w':=by
 obtain ⟨s,q⟩:=d
 unfold D2.few at hd
 have r0:=hB.c0
 have r1:=hB.c1
 simp only at hd r0 r1 ⊢
 generalize hs:s.size=n at *
 generalize hq:q.size=m at *
 have q1:IntKind.i64.wrap (60000 - (n:Int))=60000 - (n:Int):=IntWalk.i64_in _ ⟨by omega,by omega⟩
 have q2:IntKind.i64.wrap (60000 - (n:Int) - (m:Int))=60000 - (n:Int) - (m:Int):=IntWalk.i64_in _ ⟨by omega,by omega⟩
 go_enter Tryz.func65,Tryz.ntmps65
 go_wp2
 go_quiet (fail)
 go_wp2
 go_returns
 exact ⟨rfl,below_drewN (Below.refl _ _) _⟩

theorem boxD_new (w:World) (d:D2):DBox (w.alloc (.cells #[.string d.1,.string d.2] 27)) w.heap.size d:=Blk.new w 27 [.string d.1,.string d.2]
theorem bel_new (w:World) (o:Obj):Below w.heap.size w (w.alloc o):=(Below.refl _ w).alloc (Nat.le_refl _) _

theorem implDiskOK_is (d:D2) (w:World) (hd:d.few) :
  Calls Tryz.prog 36 #[d.val] w fun e w'=>e=.returned (.bool (decide (d.1.size+d.2.size≤60000)))∧Below w.heap.size w w':=by
 have hB:=boxD_new w d
 have hb:=bel_new w (.cells #[.string d.1,.string d.2] 27)
 unfold D2.val
 go_enter Tryz.func36,Tryz.ntmps36
 go_wp2_with fail
 refine (room_is _ d _ hd hB).mono ?_
 rintro e w1 ⟨rfl,b1⟩
 have hx:decide ((d.2.size:Int)≤60000 - (d.1.size:Int))=decide (d.1.size+d.2.size≤60000):=by congr 1;apply propext;omega
 go_wp2
 go_ret
 exact ⟨rfl,belD hb b1⟩

theorem add_yes (g:Nat) (d:D2) (t:ByteArray) (w:World) (hd:d.few) (hB:DBox w g d) (ht:d.1.size+d.2.size+t.size≤60000) :
  Calls Tryz.prog 64 #[.pointer (some ⟨g,0,none⟩),.string t] w fun e w'=>e=.returned (.bool true)∧DBox w' g (d.1,d.2++t)∧w.grownBy w' (some g):=by
 have hl:¬ (60000 - (d.1.size:Int) - (d.2.size:Int)<(t.size:Int)):=by omega
 have ha:=fun W=>run_string_add_sum (P:=Tryz.prog) W d.2 t (by omega)
 go_enter Tryz.func64,Tryz.ntmps64
 go_wp2_with fail
 refine (room_is _ d _ hd hB).mono ?_
 rintro e w1 ⟨rfl,b1⟩
 have hB1:=hB.below b1
 have r1:=hB1.c1
 have f1:=Blk.frozen hB1 1
 have hB2:=Blk.set hB1 1 (.string (d.2++t))
 have g2:=gtD b1 (gcD w1 g 1 (.string (d.2++t)))
 clear hB hB1
 go_wp2
 go_ret
 exact ⟨rfl,hB2,g2⟩

theorem add_no (g:Nat) (d:D2) (t:ByteArray) (w:World) (hd:d.few) (hB:DBox w g d) (ht:¬ d.1.size+d.2.size+t.size≤60000) (ht2:t.size≤1048576) :
  Calls Tryz.prog 64 #[.pointer (some ⟨g,0,none⟩),.string t] w fun e w'=>e=.returned (.bool false)∧Below w.heap.size w w':=by
 have hl:(60000 - (d.1.size:Int) - (d.2.size:Int)<(t.size:Int)):=by omega
 go_enter Tryz.func64,Tryz.ntmps64
 go_wp2_with fail
 refine (room_is _ d _ hd hB).mono ?_
 rintro e w1 ⟨rfl,b1⟩
 clear hB
 go_wp2
 go_ret
 exact ⟨rfl,b1⟩

theorem settle_is (g:Nat) (d:D2) (k:Int) (j:Nat) (w:World) (hd:d.few) (hB:DBox w g d) (hk:0≤k) (hj:(j:Int)=min k (d.2.size:Int)) :
  Calls Tryz.prog 41 #[.pointer (some ⟨g,0,none⟩),.int .i64 k] w fun e w'=>e=.returned (.tuple #[])∧DBox w' g (d.1++d.2.extract 0 j,ByteArray.empty)∧w.grownBy w' (some g):=by
 obtain ⟨s,q⟩:=d
 unfold D2.few at hd
 have r0:=hB.c0
 have r1:=hB.c1
 simp only at hd r0 r1 hj ⊢
 have hjq:j≤q.size:=by omega
 have hjx:(q.extract 0 j).size≤q.size:=by rw [ByteArray.size_extract];omega
 have ha:=fun W=>run_string_add_sum (P:=Tryz.prog) W s (q.extract 0 j) (by omega)
 have f0:=Blk.frozen hB 0
 go_enter Tryz.func41,Tryz.ntmps41
 go_wp2
 have hjn:(min k (q.size:Int)).toNat=j:=by omega
 subst hjn
 go_region
 have hB2:=Blk.set hB 0 (.string (s++q.extract 0 (min k (q.size:Int)).toNat))
 have g2:=gcD w g 0 (.string (s++q.extract 0 (min k (q.size:Int)).toNat))
 clear r0 r1 f0 hB
 obtain ⟨w2,hw2⟩:∃ w2,w2=w.setCell ⟨g,0,none⟩ (.string (s++q.extract 0 (min k (q.size:Int)).toNat)):=⟨_,rfl⟩
 rw [← hw2] at hB2 g2
 rw [← hw2]
 clear hw2
 have f1:=Blk.frozen hB2 1
 have r1:=Blk.cell hB2 1
 simp only [List.set_cons_zero,List.getElem?_cons_succ,List.getElem?_cons_zero] at r1
 have hB4:=Blk.set (Blk.drew hB2) 1 (.string ⟨#[]⟩)
 have g4:w.grownBy (w2.drew.setCell ⟨g,1,none⟩ (.string ⟨#[]⟩)) (some g):=g2.trans (gtD (below_drewN (Below.refl _ w2) 1) (gcD w2.drew g 1 (.string ⟨#[]⟩)))
 clear hB2
 go_wp2
 go_returns
 exact ⟨rfl,hB4,g4⟩

theorem replace_yes (g:Nat) (d:D2) (t:ByteArray) (w:World) (hB:DBox w g d) (ht:t.size≤60000) :
  Calls Tryz.prog 46 #[.pointer (some ⟨g,0,none⟩),.string t] w fun e w'=>e=.returned (.bool true)∧DBox w' g (t,ByteArray.empty)∧w.grownBy w' (some g):=by
 have hl:¬ (60000<(t.size:Int)):=by omega
 have r0:=hB.c0
 have r1:=hB.c1
 have f0:=Blk.frozen hB 0
 have f1:=Blk.frozen hB 1
 go_enter Tryz.func46,Tryz.ntmps46
 go_wp2
 go_ret
 exact ⟨rfl,Blk.set (Blk.set hB 0 _) 1 _,(gcD w g 0 _).trans (gcD _ g 1 _)⟩

theorem replace_no (g:Nat) (d:D2) (t:ByteArray) (w:World) (ht:¬ t.size≤60000) (ht2:t.size≤1048576) :
  Calls Tryz.prog 46 #[.pointer (some ⟨g,0,none⟩),.string t] w fun e w'=>e=.returned (.bool false)∧Below w.heap.size w w':=by
 have hl:(60000<(t.size:Int)):=by omega
 go_enter Tryz.func46,Tryz.ntmps46
 go_wp2
 go_ret
 exact ⟨rfl,Below.refl _ _⟩

def OwnSD (w w':World) (g:Nat) (s q:ByteArray):Prop:=DBox w' g (s,q)∧Blk w' w.heap.size 27 [.string ⟨#[]⟩,.string ⟨#[]⟩]∧Below w.heap.size w w'
theorem OwnSD.hid {w w' w'':World} {g:Nat} {s q:ByteArray} (b:Below w'.heap.size w' w'') (h:Hid (OwnSD w w' g s q)):Hid (OwnSD w w'' g s q):=⟨h.out.1.below b,h.out.2.1.below b,h.out.2.2.trans (b.mono (Nat.le_of_lt h.out.2.1.lt))⟩
theorem OwnSD.cells {w w':World} {g:Nat} {s q:ByteArray} (h:OwnSD w w' g s q):w'.cell? ⟨g,0,none⟩=some (.string s)∧w'.cell? ⟨g,1,none⟩=some (.string q)∧w'.cell? ⟨w.heap.size,0,none⟩=some (.string ⟨#[]⟩)∧w'.cell? ⟨w.heap.size,1,none⟩=some (.string ⟨#[]⟩)∧w'.frozen? ⟨w.heap.size,0,none⟩=false∧w'.frozen? ⟨w.heap.size,1,none⟩=false:=⟨h.1.c0,h.1.c1,h.2.1.cell 0,h.2.1.cell 1,h.2.1.frozen 0,h.2.1.frozen 1⟩
theorem OwnSD.fin {w w':World} {g:Nat} {s q:ByteArray} (h:Hid (OwnSD w w' g s q)):∃ W,W=(w'.setCell ⟨w.heap.size,0,none⟩ (.string s)).setCell ⟨w.heap.size,1,none⟩ (.string q)∧W.cell? ⟨w.heap.size,0,none⟩=some (.string s)∧W.cell? ⟨w.heap.size,1,none⟩=some (.string q)∧Below w.heap.size w W:=
 ⟨_,rfl,((h.out.2.1.set 0 (.string s)).set 1 (.string q)).cell 0,((h.out.2.1.set 0 (.string s)).set 1 (.string q)).cell 1,h.out.2.2.trans ((Below.setCell (Below.refl _ w') (p:=⟨w.heap.size,0,none⟩) (Nat.le_refl _) _).trans (Below.setCell (Below.refl _ _) (p:=⟨w.heap.size,1,none⟩) (Nat.le_refl _) _))⟩

theorem own_is (g:Nat) (d:D2) (w:World) (hd:d.few) (hB:DBox w g d) :
  Calls Tryz.prog 38 #[.pointer (some ⟨g,0,none⟩)] w fun e w'=>e=.returned d.val∧Below w.heap.size w w':=by
 obtain ⟨s,q⟩:=d
 unfold D2.few at hd
 simp only at hd
 have hgn:g<w.heap.size:=Blk.lt hB
 have hne:g≠w.heap.size:=by omega
 have hb:=bel_new w (.cells #[.string ⟨#[]⟩,.string ⟨#[]⟩] 27)
 have hR:OwnSD w (w.alloc (.cells #[.string ⟨#[]⟩,.string ⟨#[]⟩] 27)) g s q:=⟨hB.below hb,Blk.new w 27 [.string ⟨#[]⟩,.string ⟨#[]⟩],hb⟩
 go_enter Tryz.func38,Tryz.ntmps38
 go_wp2_with fail
 obtain ⟨w1,hw1⟩:∃ w1,w1=w.alloc (.cells #[.string ⟨#[]⟩,.string ⟨#[]⟩] 27):=⟨_,rfl⟩
 rw [← hw1] at hR hb
 rw [← hw1]
 clear hw1
 obtain ⟨c0,c1,c2,c3,c4,c5⟩:=hR.cells
 have HR:Hid (OwnSD w w1.drew g s q):=⟨hR.1,hR.2.1,below_drewN hR.2.2 1⟩
 clear hR
 go_region_with (first | (go_at_call 66;refine (strings_Clone _ _ (by omega)).mono ?_;rintro e w' ⟨rfl,b1⟩;have HS:=OwnSD.hid b1 (by first | exact HR | assumption);obtain ⟨_,_,_,_,_,_⟩:=OwnSD.cells HS.out))
 all_goals
  clear HR c0 c1 c2 c3 c4 c5
  obtain ⟨W,hW,e0,e1,bW⟩:=OwnSD.fin HS
  rw [← hW]
  clear hW HS
  go_wp2
  refine bodyPost_ret (by simp [results,Tryz.results38,go_sem,e0,e1];try rfl) rfl ?_
  exact ⟨rfl,bW⟩
end Go.Proofs.YtdopgkbegjfhjaaGreatDoor
