/-
  Joined: ItmI, Ints.
-/
import Derived.OwnWalk
import Derived.Test.YtfpopbbmnbehiaaGreatDoorC01

namespace Go.Proofs.YtfpopbbmnbehiaaGreatDoor
set_option maxRecDepth 100000
set_option maxHeartbeats 16000000
open Go.RowKit
set_option linter.unusedVariables false

def inB8 (n a b:Int):Bool:=decide (a≤n∧n≤b)
theorem inB8_true {n a b:Int}:inB8 n a b=true↔a≤n∧n≤b:=by simp [inB8]
theorem inB8_false {n a b:Int}:inB8 n a b=false↔¬ (a≤n∧n≤b):=by simp only [inB8,decide_eq_false_iff_not]
theorem isThread8 (n:Int) (w:World):Calls Tryz.prog 106 #[.int .i64 n] w fun e w'=>e=.returned (.bool (inB8 n 0 2))∧w=w':=by
 cases h:inB8 n 0 2
 ·rw [inB8_false] at h
  by_cases h1:0≤n
  ·have h2:decide (n<3)=false:=by simp;omega
   clear h
   go_enter Tryz.func106,Tryz.ntmps106
   go_wp2
   go_ret
   exact ⟨rfl,rfl⟩
  ·clear h
   go_enter Tryz.func106,Tryz.ntmps106
   go_wp2
   go_ret
   exact ⟨rfl,rfl⟩
 ·rw [inB8_true] at h
  obtain ⟨h1,h3⟩:=h
  have h2:decide (n<3)=true:=by simp;omega
  clear h3
  go_enter Tryz.func106,Tryz.ntmps106
  go_wp2
  go_ret
  exact ⟨by simp_all,rfl⟩

theorem isPlace8 (n:Int) (w:World):Calls Tryz.prog 153 #[.int .i64 n] w fun e w'=>e=.returned (.bool (inB8 n 0 6))∧w=w':=by
 cases h:inB8 n 0 6
 ·rw [inB8_false] at h
  by_cases h1:0≤n
  ·have h2:decide (n≤6)=false:=by simp;omega
   clear h
   go_enter Tryz.func153,Tryz.ntmps153
   go_wp2
   go_ret
   exact ⟨rfl,rfl⟩
  ·clear h
   go_enter Tryz.func153,Tryz.ntmps153
   go_wp2
   go_ret
   exact ⟨rfl,rfl⟩
 ·rw [inB8_true] at h
  obtain ⟨h1,h3⟩:=h
  have h2:decide (n≤6)=true:=by simp;omega
  clear h3
  go_enter Tryz.func153,Tryz.ntmps153
  go_wp2
  go_ret
  exact ⟨by simp_all,rfl⟩

def itemV (k pc:Int):Value:=if inB8 k 0 2=true∧inB8 pc 0 6=true then .tuple #[.int .i64 (8*k+pc),.int .i64 0] else .tuple #[.int .i64 0,.int .i64 4]
theorem itemV_yes {k pc:Int} (h1:inB8 k 0 2=true) (h2:inB8 pc 0 6=true):itemV k pc=.tuple #[.int .i64 (8*k+pc),.int .i64 0]:=if_pos ⟨h1,h2⟩
theorem itemV_no1 {k pc:Int} (h1:inB8 k 0 2=false):itemV k pc=.tuple #[.int .i64 0,.int .i64 4]:=if_neg (by rw [h1];simp)
theorem itemV_no2 {k pc:Int} (h2:inB8 pc 0 6=false):itemV k pc=.tuple #[.int .i64 0,.int .i64 4]:=if_neg (by rw [h2];simp)

theorem implItemOf_is (k pc:Int) (w:World):Calls Tryz.prog 129 #[.int .i64 k,.int .i64 pc] w fun e w'=>e=.returned (itemV k pc)∧w=w':=by
 have kT:=isThread8 k
 have kP:=isPlace8 pc
 cases hA:inB8 k 0 2
 ·rw [itemV_no1 hA]
  rw [hA] at kT
  clear hA
  go_enter Tryz.func129,Tryz.ntmps129
  go_wp2_with fail
  refine (kT _).mono ?_
  rintro e w1 ⟨rfl,rfl⟩
  go_wp2
  go_ret2
  exact ⟨rfl,rfl⟩
 ·cases hB:inB8 pc 0 6
  ·rw [itemV_no2 hB]
   rw [hA] at kT
   rw [hB] at kP
   clear hA hB
   go_enter Tryz.func129,Tryz.ntmps129
   go_wp2_with fail
   refine (kT _).mono ?_
   rintro e w1 ⟨rfl,rfl⟩
   go_wp2_with fail
   refine (kP _).mono ?_
   rintro e w1 ⟨rfl,rfl⟩
   go_wp2
   go_ret2
   exact ⟨rfl,rfl⟩
  ·rw [itemV_yes hA hB]
   rw [hA] at kT
   rw [hB] at kP
   obtain ⟨a1,a2⟩:=inB8_true.1 hA
   obtain ⟨b1,b2⟩:=inB8_true.1 hB
   clear hA hB
   have q1:IntKind.i64.wrap (8*k)=8*k:=by rw [IntKind.wrap_i64];omega
   have q2:IntKind.i64.wrap (8*k+pc)=8*k+pc:=by rw [IntKind.wrap_i64];omega
   go_enter Tryz.func129,Tryz.ntmps129
   go_wp2_with fail
   refine (kT _).mono ?_
   rintro e w1 ⟨rfl,rfl⟩
   go_wp2_with fail
   refine (kP _).mono ?_
   rintro e w1 ⟨rfl,rfl⟩
   go_wp2
   go_ret2
   exact ⟨rfl,rfl⟩

theorem l08Item_is (k pc:Int) (w:World) (h1:inB8 k 0 2=true) (h2:inB8 pc 0 6=true):Calls Tryz.prog 152 #[.int .i64 k,.int .i64 pc] w fun e w'=>e=.returned (.int .i64 (8*k+pc))∧w=w':=by
 obtain ⟨a1,a2⟩:=inB8_true.1 h1
 obtain ⟨b1,b2⟩:=inB8_true.1 h2
 clear h1 h2
 have q1:IntKind.i64.wrap (8*k)=8*k:=by rw [IntKind.wrap_i64];omega
 have q2:IntKind.i64.wrap (8*k+pc)=8*k+pc:=by rw [IntKind.wrap_i64];omega
 go_enter Tryz.func152,Tryz.ntmps152
 go_wp2
 go_ret
 exact ⟨rfl,rfl⟩

def itOk (n:Int):Bool:=decide (0≤n∧n≤22∧n % 8≤6)


theorem set_step:∀ (zs:List Int) (len k:Nat),k<len→zs.length=len→(zs.take k++List.replicate (len - k) 0).set k (zs.getD k 0)=zs.take (k+1)++List.replicate (len - (k+1)) 0
 | [],len,k,hk,hl=>by simp at hl;omega
 | z::zs,len,0,_,hl=>by
  obtain ⟨n,rfl⟩:∃ n,len=n+1:=⟨len - 1,by simp at hl;omega⟩
  simp [List.replicate_succ]
 | z::zs,len,k+1,hk,hl=>by
  obtain ⟨n,rfl⟩:∃ n,len=n+1:=⟨len - 1,by omega⟩
  have ih:=set_step zs n k (by omega) (by simpa using hl)
  simp only [Nat.add_sub_add_right,List.take_succ_cons,List.cons_append,List.set_cons_succ,List.getD_cons_succ,ih]

theorem toIntS_any (a:Option Addr) (len cap:Nat) (zs:List Int) (w:World) (h:Ints .i64 w a len cap zs) (hlen:len≤1048576) :
  Calls Tryz.prog 95 #[.slice a len cap] w fun e w'=>e=.returned (.slice (some ⟨w.heap.size,0,none⟩) len len) ∧
   w'.ownsRow w.heap.size 3 1 (.slice (some ⟨w.heap.size,0,none⟩) len len) len (zs.map (Value.int .i64))∧Below w.heap.size w w':=by
 obtain ⟨i0,hi,hz0,hz1,hz2⟩:=info_parts info_int
 obtain ⟨hl,hlc,hcm,hcase⟩:=h
 unfold maxLen at hcm
 rcases hcase with h0 | ⟨b,off,rfl,hblt,hcell⟩
 ·subst h0
  have hz:zs=[]:=by simpa using hl
  subst hz
  go_enter Tryz.func95,Tryz.ntmps95
  go_wp2_with (at_make;refine wpList_make_full _ rfl _ _ 31 rfl w.heap.size 3 i0 (.int .i64 0) 1 Tryz.underlying31 hi hz0 hz1 _ _ _ _ 0 rfl rfl (by omega) (by omega) ?b2 ?b3 (Nat.le_refl _) ?_)
  case b2=>omega
  case b3=>unfold maxLen;omega
  intro w0 hown0 hgrow0
  have hb0:Below w.heap.size w w0:=(Below.refl _ _).grown hgrow0 (Nat.le_refl _) (fun k h=>by cases h)
  rw [made_ints] at hown0
  clear hgrow0
  go_wp2
  refine wp_loop_rounds 1 ?_
  rw [rounds_succ]
  go_wp2
  go_ret
  exact ⟨rfl,hown0,hb0⟩
 ·go_enter Tryz.func95,Tryz.ntmps95
  go_wp2_with (at_make;refine wpList_make_full _ rfl _ _ 31 rfl w.heap.size 3 i0 (.int .i64 0) 1 Tryz.underlying31 hi hz0 hz1 _ _ _ _ len rfl rfl (by omega) (by omega) ?b2 ?b3 (Nat.le_refl _) ?_)
  case b2=>rw [hz2];omega
  case b3=>unfold maxLen;omega
  intro w0 hown0 hgrow0
  have hb0:Below w.heap.size w w0:=(Below.refl _ _).grown hgrow0 (Nat.le_refl _) (fun k h=>by cases h)
  rw [made_ints] at hown0
  clear hgrow0
  go_wp2
  go_loopw [4] (fun si wr=>∃ k:Nat,k≤len∧si=.int .i64 k∧wr.ownsRow w.heap.size 3 1 (.slice (some ⟨w.heap.size,0,none⟩) len len) len ((zs.take k++List.replicate (len - k) (0:Int)).map (Value.int .i64))∧Below w.heap.size w wr) (fun si _=>len - (intOf si).toNat)
  case atStart=>exact ⟨0,by omega,rfl,by simpa using hown0,hb0⟩
  case round =>
   obtain ⟨k,hk,rfl,ho,hbel⟩:=hrel
   by_cases hlt:k<len
   ·have hc:wr.cell? ⟨b,off+k,none⟩=some (.int .i64 (zs.getD k 0)):=by rw [hbel.cell (p:=⟨b,off+k,none⟩) hblt];exact hcell k hlt
    have hf:=ho.frozenAt k
    have hst:=ho.stored k (.int .i64 (zs.getD k 0))
    have hold:∃ u,wr.cell? ⟨w.heap.size,k,none⟩=some u:=by
     have:=ho.cellAt k (by omega)
     rw [this]
     exact ⟨_,List.getElem?_eq_getElem (by simp;omega)⟩
    obtain ⟨u,hu⟩:=hold
    have R:(wr.setCell ⟨w.heap.size,k,none⟩ (.int .i64 (zs.getD k 0))).ownsRow w.heap.size 3 1 (.slice (some ⟨w.heap.size,0,none⟩) len len) len ((zs.take (k+1)++List.replicate (len - (k+1)) (0:Int)).map (Value.int .i64)):=by
     have:=hst.1
     rw [← List.map_set,set_step zs len k hlt hl] at this
     exact this
    have hb1:Below w.heap.size w (wr.setCell ⟨w.heap.size,k,none⟩ (.int .i64 (zs.getD k 0))):=hbel.setCell (Nat.le_refl _) _
    clear hst ho
    generalize zs.getD k 0=x at hc R hb1
    go_wp2
    go_roundw
    case rel=>exact ⟨k+1,by omega,by go_num,R,hb1⟩
    case measure=>simp [intOf];omega
   ·obtain rfl:k=len:=by omega
    go_wp2
    go_ret
    refine ⟨rfl,?_,hbel⟩
    have e:zs.take k++List.replicate (k - k) (0:Int)=zs:=by rw [Nat.sub_self];simp [List.take_of_length_le (Nat.le_of_eq hl)]
    rw [e] at ho
    exact ho
end Go.Proofs.YtfpopbbmnbehiaaGreatDoor
