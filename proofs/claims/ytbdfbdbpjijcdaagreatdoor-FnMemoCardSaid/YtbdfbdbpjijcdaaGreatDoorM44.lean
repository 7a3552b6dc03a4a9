/-
  Joined: Read.
-/
import Derived.WalkSpells
import Derived.WalkLawsBesides
import Derived.LaidEql
import Derived.Stop.Asserts
import Derived.RowKitTokens
import Derived.Laws.CopyOwn
import Derived.LoopTactic
import Derived.Laws.Runes
import Derived.Test.YtbdfbdbpjijcdaaGreatDoorM22

namespace Go.Proofs.YtbdfbdbpjijcdaaGreatDoor
set_option maxRecDepth 100000
set_option maxHeartbeats 16000000
open Go.RowKit

theorem width_pos (s:ByteArray) (pos:Nat) (h:pos<s.size):1≤(Utf8.decode s pos).2:=by
 by_cases ha:(s[pos]'h).toNat<128
 ·rw [decode_ascii s pos h ha]
  exact Nat.le_refl _
 ·exact (decode_high s pos h (by omega)).2

theorem numberSize_any (s:ByteArray) (w:World) (hs:s.size≤65536) :
  Calls Tryz.prog 243 #[.string s] w fun e w'=>∃ k:Nat,e=.returned (.int .i64 k)∧((IsEnd s 0 k)∨(k=0∧NoEnd s 0))∧Below w.heap.size w w':=by
 by_cases h5:s.size≤5
 ·obtain ⟨m,hm⟩:∃ m:Nat,m=s.size:=⟨_,rfl⟩
  have hm5:m≤5:=by omega
  have hms:m≤s.size:=by omega
  have hend:5≤m∨s.size≤0+m:=by omega
  have HXS:Hid (s.size=m):=hm.symm
  clear hm
  go_enter Tryz.func243,Tryz.ntmps243
  go_wp2
  go_loopw [3] (fun _ wr=>∃ pos:Nat,pos≤m∧wr=w.iter s pos∧highTo s 0 pos) (fun _ wr=>m - wr.iterPos w.heap.size)
  case atStart=>exact ⟨0,by omega,rfl,highTo_zero s 0⟩
  case round =>
   obtain ⟨pos,hpl,rfl,hh⟩:=hrel
   by_cases hp:pos<m
   ·have hp':pos<s.size:=by rw [HXS.out];exact hp
    have hbp:bt s pos=bt s (0+pos):=by rw [Nat.zero_add]
    have hg:=bt_get s pos hp'
    by_cases ha:(s[pos]'hp').toNat<128
    ·have hnx:∀ ty,(Instr.next (.pointer (some ⟨w.heap.size,0,none⟩)) true ty).run Tryz.prog (w.iter s pos)=_:=fun ty=>run_next_ascii w s pos ty hp' ha
     have hE:IsEnd s 0 (pos+1):=isEnd_at hh (by omega) (by omega) (by rw [← hbp,← hg];exact ha)
     clear hg hbp
     go_wp2
     go_ret
     exact ⟨pos+1,by go_num,.inl hE,(Below.refl _ _).alloc (Nat.le_refl _) _⟩
    ·have hnx:∀ ty,(Instr.next (.pointer (some ⟨w.heap.size,0,none⟩)) true ty).run Tryz.prog (w.iter s pos)=_:=fun ty=>run_next_any w s pos ty hp'
     have hd:=(decode_high s pos hp' (by omega)).1
     have hwd:=width_pos s pos hp'
     have hsp:=decode_span s pos hp' (by omega)
     have hd':¬ ((Utf8.decode s pos).1:Int)<128:=by omega
     have hle:pos+(Utf8.decode s pos).2≤m:=by
      have:=(hsp ((Utf8.decode s pos).2 - 1) (by omega)).1
      rw [HXS.out] at this
      omega
     have hto:highTo s 0 (pos+(Utf8.decode s pos).2):=by
      intro i hi
      rcases Nat.lt_or_ge i pos with h | h
      ·exact hh i h
      ·have:=(hsp (i - pos) (by omega)).2
       rw [show pos+(i - pos)=i by omega] at this
       simpa using this
     clear hg hbp hsp hd ha
     go_wp2
     go_roundw
     case rel=>exact ⟨pos+(Utf8.decode s pos).2,hle,rfl,hto⟩
     case measure=>simp;omega
   ·have hp':¬ pos<s.size:=by rw [HXS.out];exact hp
    have hnx:∀ ty,(Instr.next (.pointer (some ⟨w.heap.size,0,none⟩)) true ty).run Tryz.prog (w.iter s pos)=_:=fun ty=>run_next_end w s pos ty hp'
    obtain rfl:pos=m:=by omega
    go_wp2
    go_ret
    exact ⟨0,rfl,.inr ⟨rfl,noEnd_of hh hend⟩,(Below.refl _ _).alloc (Nat.le_refl _) _⟩
 ·obtain ⟨x,hX⟩:∃ x:ByteArray,x=s.extract 0 5:=⟨_,rfl⟩
  obtain ⟨m,hm⟩:∃ m:Nat,m=5:=⟨_,rfl⟩
  have hm5:m≤5:=by omega
  have hms:m≤s.size:=by omega
  have hend:5≤m∨s.size≤0+m:=by omega
  have HXS:Hid (x.size=m):=by rw [Hid,hX];simp;omega
  have HB:Hid (∀ i,i<m→bt x i=bt s i):=by
   intro i hi
   rw [hX,← hm]
   exact bt_head s m i hi hms
  have HX:Hid (x=s.extract 0 5):=hX
  clear hX hm
  go_enter Tryz.func243,Tryz.ntmps243
  go_wp2
  rw [← HX.out]
  clear HX
  go_loopw [3] (fun _ wr=>∃ pos:Nat,pos≤m∧wr=w.iter x pos∧highTo s 0 pos) (fun _ wr=>m - wr.iterPos w.heap.size)
  case atStart=>exact ⟨0,by omega,rfl,highTo_zero s 0⟩
  case round =>
   obtain ⟨pos,hpl,rfl,hh⟩:=hrel
   by_cases hp:pos<m
   ·have hp':pos<x.size:=by rw [HXS.out];exact hp
    have hbp:bt x pos=bt s (0+pos):=by rw [Nat.zero_add];exact HB.out pos hp
    have hg:=bt_get x pos hp'
    by_cases ha:(x[pos]'hp').toNat<128
    ·have hnx:∀ ty,(Instr.next (.pointer (some ⟨w.heap.size,0,none⟩)) true ty).run Tryz.prog (w.iter x pos)=_:=fun ty=>run_next_ascii w x pos ty hp' ha
     have hE:IsEnd s 0 (pos+1):=isEnd_at hh (by omega) (by omega) (by rw [← hbp,← hg];exact ha)
     clear hg hbp
     go_wp2
     go_ret
     exact ⟨pos+1,by go_num,.inl hE,(Below.refl _ _).alloc (Nat.le_refl _) _⟩
    ·have hnx:∀ ty,(Instr.next (.pointer (some ⟨w.heap.size,0,none⟩)) true ty).run Tryz.prog (w.iter x pos)=_:=fun ty=>run_next_any w x pos ty hp'
     have hd:=(decode_high x pos hp' (by omega)).1
     have hwd:=width_pos x pos hp'
     have hsp:=decode_span x pos hp' (by omega)
     have hd':¬ ((Utf8.decode x pos).1:Int)<128:=by omega
     have hle:pos+(Utf8.decode x pos).2≤m:=by
      have:=(hsp ((Utf8.decode x pos).2 - 1) (by omega)).1
      rw [HXS.out] at this
      omega
     have hto:highTo s 0 (pos+(Utf8.decode x pos).2):=by
      intro i hi
      rcases Nat.lt_or_ge i pos with h | h
      ·exact hh i h
      ·have:=(hsp (i - pos) (by omega)).2
       rw [show pos+(i - pos)=i by omega,HB.out i (by omega)] at this
       simpa using this
     clear hg hbp hsp hd ha
     go_wp2
     go_roundw
     case rel=>exact ⟨pos+(Utf8.decode x pos).2,hle,rfl,hto⟩
     case measure=>simp;omega
   ·have hp':¬ pos<x.size:=by rw [HXS.out];exact hp
    have hnx:∀ ty,(Instr.next (.pointer (some ⟨w.heap.size,0,none⟩)) true ty).run Tryz.prog (w.iter x pos)=_:=fun ty=>run_next_end w x pos ty hp'
    obtain rfl:pos=m:=by omega
    go_wp2
    go_ret
    exact ⟨0,rfl,.inr ⟨rfl,noEnd_of hh hend⟩,(Below.refl _ _).alloc (Nat.le_refl _) _⟩
end Go.Proofs.YtbdfbdbpjijcdaaGreatDoor
