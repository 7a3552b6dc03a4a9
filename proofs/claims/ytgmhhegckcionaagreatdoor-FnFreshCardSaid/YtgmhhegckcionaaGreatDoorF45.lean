/-
  Joined: OnmP, ChfI, Vj1I, Vj0P, Vj2P, CkcI, MemK, Cn3I.
-/
import Derived.Shelf.SlIter.Nil
import Derived.Sort.KeysCollected
import Derived.Test.YtgmhhegckcionaaGreatDoorF39

namespace Go.Proofs.YtgmhhegckcionaaGreatDoor
set_option maxRecDepth 100000
set_option maxHeartbeats 16000000
open Go.RowKit
set_option linter.unusedVariables false
set_option linter.unusedSimpArgs false

def VX (v:Value):Option (DataW Value × List MemPlace):=some (.held v,[])
def VU (k:ByteArray):Lit:=.string k.data.toList
theorem Jb {a b:ByteArray} (h:a≠b):VU a≠VU b:=Kw h
structure UR (D:DataW Value) (L:List EQ):Prop where
 up:UpE (L.map (·.1))
 has:∀ k:ByteArray,Maps.has D (VU k)=isE (L.map (·.1)) k
 at9:∀ x ∈ L,∀ z,D.atKey (VU x.1.1) z=.held (ZW x.1.1 x.2)
theorem UR.start:UR (.map []) []:=⟨List.Pairwise.nil,fun k=>by simp [Maps.has,isE],fun x hx=>by cases hx⟩
theorem Gu {es:List E3} {e x:E3} (hU:UpE es) (hx:x ∈ es) (hne:x.1≠e.1):x ∈ XE es e:=by
 unfold XE
 simp only [List.mem_append,List.mem_singleton]
 cases hi:isE es e.1
 ·simp only [Bool.false_eq_true,if_false]
  rw [← List.take_append_drop (Yf es e.1) es] at hx
  rcases List.mem_append.1 hx with h | h
  ·exact .inl (.inl h)
  exact .inr h
 simp only [if_true]
 simp only [isE,Bool.and_eq_true,decide_eq_true_eq] at hi
 rw [← List.take_append_drop (Yf es e.1) es] at hx
 rcases List.mem_append.1 hx with h | h
 ·exact .inl (.inl h)
 rw [List.drop_eq_getElem_cons hi.1] at h
 rcases List.mem_cons.1 h with h9 | h9
 ·exfalso
  refine hne ?_
  have h8:=hi.2
  rw [Y5 hi.1] at h8
  rw [h9]
  exact h8
 exact .inr h9
theorem DR {es:List E3} {e:E3} (hU:UpE es) (k:ByteArray):isE (XE es e) k=if k=e.1 then true else isE es k:=by
 have hU2:=QX (e:=e) hU
 by_cases hk:k=e.1
 ·rw [if_pos hk]
  refine (XS hU2).2 ⟨e,?_,hk.symm⟩
  unfold XE
  simp
 rw [if_neg hk,Bool.eq_iff_iff,XS hU2,XS hU]
 constructor
 ·rintro ⟨x,hx,rfl⟩
  rcases WI hx with h9 | h9
  ·rw [h9] at hk;exact absurd rfl hk
  exact ⟨x,h9,rfl⟩
 rintro ⟨x,hx,rfl⟩
 exact ⟨x,Gu hU hx hk,rfl⟩
theorem Gv {L:List EQ} {e:E3} {s:Sl2} (hU:UpE (L.map (·.1))) {x:EQ} (hx:x ∈ UP L e s):x=(e,s)∨(x ∈ L∧x.1.1≠e.1):=by
 unfold UP at hx
 simp only [List.mem_append,List.mem_singleton] at hx
 rcases hx with (hx | hx) | hx
 ·refine .inr ⟨List.mem_of_mem_take hx,fun h=>?_⟩
  have h1:x.1 ∈ (L.map (·.1)).take (Yf (L.map (·.1)) e.1):=by rw [← List.map_take];exact List.mem_map.2 ⟨x,hx,rfl⟩
  obtain ⟨t,h2,h3,h4⟩:=Ug h1
  have:=WG h2
  rw [← h4,h,VD] at this
  cases this
 ·exact .inl hx
 refine .inr ⟨List.mem_of_mem_drop hx,fun h=>?_⟩
 have h1:x.1 ∈ (L.map (·.1)).drop (if isE (L.map (·.1)) e.1 then Yf (L.map (·.1)) e.1+1 else Yf (L.map (·.1)) e.1):=by rw [← List.map_drop];exact List.mem_map.2 ⟨x,hx,rfl⟩
 obtain ⟨t,h2,h3,h4⟩:=Rj h1
 have:=SS hU h2 h3
 rw [← h4,h,VD] at this
 cases this
theorem UR.put {D:DataW Value} {L:List EQ} (h:UR D L) (hm:Maps.IsMap D) (e:E3) (s:Sl2):UR (D.put (VU e.1) (.held (ZW e.1 s))) (UP L e s):=by
 have hkl:WideAt.IsKeyLit (VU e.1):=trivial
 refine ⟨by rw [SU];exact QX h.up,fun k=>?_,fun x hx z=>?_⟩
 ·rw [SU,DR h.up]
  by_cases hk:k=e.1
  ·rw [if_pos hk,hk,Maps.has_put_same hm hkl]
  rw [if_neg hk,Maps.has_put_other (Jb hk),h.has]
 rcases Gv h.up hx with h9 | ⟨h9,hne⟩
 ·rw [h9,Maps.atKey_put_same hm hkl]
 rw [Maps.atKey_put_other (Jb hne),h.at9 x h9]
theorem UR.found {D:DataW Value} {L:List EQ} (h:UR D L) {k:ByteArray} (hi:isE (L.map (·.1)) k=true):∃ s,(Vz (L.map (·.1)) k,s) ∈ L∧(Vz (L.map (·.1)) k).1=k∧∀ z,D.atKey (VU k) z=.held (ZW k s):=by
 have hi2:=hi
 simp only [isE,Bool.and_eq_true,decide_eq_true_eq] at hi2
 have hf:Vz (L.map (·.1)) k=(L.map (·.1)).getD (Yf (L.map (·.1)) k) e3d:=by unfold Vz;rw [if_pos hi]
 have hl:Yf (L.map (·.1)) k<L.length:=by simpa using hi2.1
 have hx:(L[Yf (L.map (·.1)) k]).1=Vz (L.map (·.1)) k:=by
  rw [hf,Y5 hi2.1]
  simp
 refine ⟨(L[Yf (L.map (·.1)) k]).2,?_,by rw [hf];exact hi2.2,?_⟩
 ·rw [← hx]
  exact List.getElem_mem _
 have h9:=h.at9 _ (List.getElem_mem hl)
 rw [hx,show (Vz (L.map (·.1)) k).1=k by rw [hf];exact hi2.2] at h9
 exact h9


theorem Vo:Maps.Keyed Tryz.prog 9:=Maps.string_keyed Tryz.underlying9
theorem Qa {w:World} {C nb:Nat} (g nd:Nat) (hC:Blk w C 108 [.map (some nb),.int .i64 (g:Int),.int .i64 (nd:Int)]) (hs:g+nd≤4000000000) :
  Calls Tryz.prog 49 #[.pointer (some ⟨C,0,none⟩)] w fun e w'=>e=.returned (.bool (decide (2000<g+nd)))∧Below w.heap.size w w':=by
 have c1:=hC.cell 1
 have c2:=hC.cell 2
 simp only [List.getElem?_cons_zero,List.getElem?_cons_succ] at c1 c2
 have hw1:IntKind.i64.wrap ((g:Int)+(nd:Int))=(g:Int)+(nd:Int):=by rw [IntKind.wrap_i64];omega
 obtain ⟨b,hb⟩:∃ b,b=decide (2000<g+nd):=⟨_,rfl⟩
 rw [← hb]
 have HB:Hid (b=decide ((2000:Int)<(g:Int)+(nd:Int))):=by
  rw [Hid,hb]
  by_cases h:2000<g+nd
  ·rw [decide_eq_true h,decide_eq_true (by omega)]
  rw [decide_eq_false h,decide_eq_false (by omega)]
 clear hb hC
 go_enter Tryz.func49,Tryz.ntmps49
 go_wp2_with fail
 go_quiet (fail)
 go_wp2
 go_ret
 exact ⟨by rw [HB.out];rfl,Bj (Below.refl _ _) _⟩
theorem Gw {L:List EQ} {k:Nat} (hU:UpE (L.map (·.1))) (hk:k<L.length):UP (L.take k) (L[k]).1 (L[k]).2=L.take (k+1):=by
 have hp:Yf ((L.take k).map (·.1)) (L[k]).1.1=k:=Qd (fun i hi=>by
  have h9:=hU.lt (i:=i) (j:=k) hi (by simpa using hk)
  rw [Y5 (show i<(L.map (·.1)).length by rw [List.length_map];omega),Y5 (show k<(L.map (·.1)).length by simpa using hk)] at h9
  rw [Y5 (show i<((L.take k).map (·.1)).length by rw [List.length_map,List.length_take];omega)]
  simpa using h9) (by rw [List.length_map,List.length_take];omega) (fun h9=>by rw [List.length_map,List.length_take] at h9;omega)
 have hi:isE ((L.take k).map (·.1)) (L[k]).1.1=false:=by
  unfold isE
  rw [hp,decide_eq_false (by rw [List.length_map,List.length_take];omega)]
  rfl
 unfold UP
 rw [hp,hi,List.take_take,Nat.min_self]
 simp only [Bool.false_eq_true,if_false]
 rw [List.drop_of_length_le (by rw [List.length_take];omega),List.append_nil,List.take_add_one,List.getElem?_eq_getElem hk]
 rfl
def R2 (e:Ending) (w':World) (B n:Nat) (L:List EQ):Prop:=∃ (nb:Nat) (D:DataW Value),e=.returned (.agg #[.map (some nb),.int .i64 (n:Int),.int .i64 0])∧w'.ownsMap Tryz.prog 9 VX nb n D∧UR D L∧B≤nb
theorem R2.mk9 {w':World} {B n nb:Nat} {L:List EQ} {D:DataW Value} (h:w'.ownsMap Tryz.prog 9 VX nb n D) (hG:UR D L) (hB:B≤nb):R2 (.returned (.agg #[.map (some nb),.int .i64 (n:Int),.int .i64 0])) w' B n L:=⟨nb,D,rfl,h,hG,hB⟩
theorem Uq (a:Option Addr) (n c:Nat) (L:List EQ) (w:World) (hQ:Wv w a n c L) (hok:Yl (L.map (·.1))=true) :
  Calls Tryz.prog 47 #[.agg #[.slice a n c]] w fun e w'=>R2 e w' w.heap.size n L∧Below w.heap.size w w':=by
 have hU:UpE (L.map (·.1)):=(Ph hok).up
 have hl:=hQ.1
 have hn2:n≤2000:=by have:=WB hok;rw [List.length_map] at this;omega
 have hmm:=@run_makeMap Tryz.prog
 have bw:Below w.heap.size w ((w.alloc (.cells #[.slice a n c] 33)).alloc (.cells #[.map none,.int .i64 0,.int .i64 0] 108)):=by go_grown
 have pM:Blk ((w.alloc (.cells #[.slice a n c] 33)).alloc (.cells #[.map none,.int .i64 0,.int .i64 0] 108)) w.heap.size 33 [.slice a n c]:=Zl _ (Zj _ _ _ rfl)
 have pR:Blk ((w.alloc (.cells #[.slice a n c] 33)).alloc (.cells #[.map none,.int .i64 0,.int .i64 0] 108)) (w.heap.size+1) 108 [.map none,.int .i64 0,.int .i64 0]:=Zj _ _ _ (by simp)
 go_enter Tryz.func47,Tryz.ntmps47
 go_upto_region 1 with fail
 generalize ((w.alloc (.cells #[.slice a n c] 33)).alloc (.cells #[.map none,.int .i64 0,.int .i64 0] 108))=U at *
 have g0:=pM.cell 0
 simp only [List.getElem?_cons_zero] at g0
 have hb1:Below U.heap.size U (U.alloc (.map #[] 0)):=⟨rfl,rfl,rfl,by simp,fun k hk=>Below.heap_alloc U _ k hk⟩
 have g1:=ZM hb1 g0
 go_upto_region 2 with fail
 have hb2:Below (U.alloc (.map #[] 0)).heap.size (U.alloc (.map #[] 0)) ((U.alloc (.map #[] 0)).alloc (.cells #[.map (some U.heap.size),.int .i64 (n:Int),.int .i64 0] 108)):=by go_grown
 have hb:=Zo hb1 hb2
 have pY:Blk ((U.alloc (.map #[] 0)).alloc (.cells #[.map (some U.heap.size),.int .i64 (n:Int),.int .i64 0] 108)) (U.heap.size+1) 108 [.map (some U.heap.size),.int .i64 (n:Int),.int .i64 0]:=Zj _ _ _ (by simp)
 have hm0:((U.alloc (.map #[] 0)).alloc (.cells #[.map (some U.heap.size),.int .i64 (n:Int),.int .i64 0] 108)).ownsMap Tryz.prog 9 VX U.heap.size 0 (.map []:DataW Value):=(World.ownsMap_made (H:=Value) U Tryz.prog 9 VX).alloc _
 have hnbU:=bw.size
 have hsz9:w.heap.size+2≤U.heap.size:=by have:=pR.lt;omega
 replace bw:=Zo bw hb
 replace pM:=pM.below hb
 replace pR:=pR.below hb
 clear hb hb1 hb2 g0 g1 hmm
 generalize ((U.alloc (.map #[] 0)).alloc (.cells #[.map (some U.heap.size),.int .i64 (n:Int),.int .i64 0] 108))=V at *
 generalize hnb:U.heap.size=nb at *
 clear hnb
 have g0:=pM.cell 0
 simp only [List.getElem?_cons_zero] at g0
 go_upto_region 3 with fail
 clear g0
 go_loopw [14] (fun s14 wr=>∃ (k:Nat) (D:DataW Value),s14=.int .i64 (k:Int)∧k≤n∧wr.ownsMap Tryz.prog 9 VX nb k D∧UR D (L.take k)∧Below w.heap.size w wr∧Blk wr (nb+1) 108 [.map (some nb),.int .i64 (n:Int),.int .i64 0]∧Blk wr (w.heap.size+1) 108 [.map none,.int .i64 0,.int .i64 0]) (fun s14 _=>n - (Go.RowKit.intOf s14).toNat)
 case atStart=>exact ⟨0,_,rfl,Nat.zero_le _,hm0,by rw [List.take_zero];exact UR.start,bw,pY,pR⟩
 case round =>
  clear hm0 pY pR bw pM
  obtain ⟨k,D,rfl,hkn,hm,hG,bw,pY,pR⟩:=hrel
  by_cases hlt:k<n
  ·have hlt3:(k:Int)<(n:Int):=by omega
   have hk0:(0:Int)≤(k:Int):=by omega
   obtain ⟨_,_,_,hmem,hcase⟩:=hQ.below bw
   rcases hcase with e0 | ⟨b,off,rfl,hblt,hcell⟩
   ·omega
   have hkl:k<L.length:=by omega
   have hpq:=Gw hU hkl
   have hx:=hmem _ (List.getElem_mem hkl)
   have hxe:L[k]?=some L[k]:=List.getElem?_eq_getElem hkl
   have hc:=fun j (hj:j<3)=>VL hxe hj
   generalize L[k]=x at *
   obtain ⟨⟨ek,eb,ez⟩,⟨⟨s1a,s1n,s1c⟩,⟨s2a,s2n,s2c⟩⟩⟩:=x
   have x0:wr.cell? ⟨b,off+k*3,none⟩=some (.string ek):=by simpa using hcell (k*3+0) _ (hc 0 (by omega))
   have x1:wr.cell? ⟨b,off+k*3+1,none⟩=some (.slice s1a s1n s1c):=by have h9:=hcell (k*3+1) _ (hc 1 (by omega));rw [Nat.add_assoc];exact h9
   have x2:wr.cell? ⟨b,off+k*3+2,none⟩=some (.slice s2a s2n s2c):=by have h9:=hcell (k*3+2) _ (hc 2 (by omega));rw [Nat.add_assoc];exact h9
   have hkey:keyOf Tryz.prog 9 (.string ek)=some (VU ek):=WideMaps.keyOf_string_mk Tryz.underlying9 hx.1.1
   have hG2:=hG.put hm.isMap (ek,eb,ez) ((s1a,s1n,s1c),(s2a,s2n,s2c))
   rw [hpq] at hG2
   have hbE:Below wr.heap.size wr (wr.alloc (.cells #[.string ek,.slice s1a s1n s1c,.slice s2a s2n s2c] 45)):=by go_grown
   have hm2:=hm.alloc (.cells #[.string ek,.slice s1a s1n s1c,.slice s2a s2n s2c] 45)
   clear hc hcell hmem hxe hpq hG hm
   go_upto_region 5 with fail
   replace bw:=Zo bw hbE
   replace pY:=pY.below hbE
   replace pR:=pR.below hbE
   have pB:Blk (wr.alloc (.cells #[.string ek,.slice s1a s1n s1c,.slice s2a s2n s2c] 45)) wr.heap.size 45 [.string ek,.slice s1a s1n s1c,.slice s2a s2n s2c]:=Zj _ _ _ rfl
   clear x0 x1 x2 hbE
   generalize (wr.alloc (.cells #[.string ek,.slice s1a s1n s1c,.slice s2a s2n s2c] 45))=W5 at *
   have y0:=pY.cell 0
   have z0:=pB.cell 0
   have z1:=pB.cell 1
   have z2:=pB.cell 2
   simp only [List.getElem?_cons_zero,List.getElem?_cons_succ] at y0 z0 z1 z2
   have hnbW:=hm2.lt
   go_wp2_with (at_mapUpdate;refine wpList_mapUpdate_own _ rfl _ _ _ 106 rfl 9 45 Vo Tryz.underlying106 VX nb k D rfl hm2 (by unfold maxLen;omega) _ _ (VU ek) rfl rfl hkey (.held (ZW ek ((s1a,s1n,s1c),(s2a,s2n,s2c)))) [] rfl ?_;intro w9 hm9 hg9)
   have bz:=bw.grown hg9 bw.size (fun q hq=>by cases hq;omega)
   have pY9:=pY.kept hg9 (by simp)
   have pR9:=pR.kept hg9 (by simp;omega)
   clear y0 z0 z1 z2 hm2 hg9 pB
   go_wp2
   go_roundw
   case rel=>exact ⟨k+1,_,by go_num,by omega,hm9,hG2,bz,pY9,pR9⟩
   case measure=>simp [Go.RowKit.intOf];omega
  have hge:¬ (k:Int)<(n:Int):=by omega
  obtain rfl:k=n:=by omega
  rw [List.take_of_length_le (by omega)] at hG
  have y0:=pY.cell 0
  have y1:=pY.cell 1
  have y2:=pY.cell 2
  have r0:=pR.cell 0
  have r1:=pR.cell 1
  have r2:=pR.cell 2
  have f0:=pR.frozen 0
  have f1:=pR.frozen 1
  have f2:=pR.frozen 2
  simp only [List.getElem?_cons_zero,List.getElem?_cons_succ] at y0 y1 y2 r0 r1 r2
  have hz:=((pR.set 0 (.map (some nb))).set 1 (.int .i64 (k:Int))).set 2 (.int .i64 0)
  simp only [List.set_cons_zero,List.set_cons_succ] at hz
  have q0:=hz.cell 0
  have q1:=hz.cell 1
  have q2:=hz.cell 2
  simp only [List.getElem?_cons_zero,List.getElem?_cons_succ] at q0 q1 q2
  have hle:w.heap.size≤w.heap.size+1:=by omega
  have bz:=((bw.setCell (p:=⟨w.heap.size+1,0,none⟩) hle (.map (some nb))).setCell (p:=⟨w.heap.size+1,1,none⟩) hle (.int .i64 (k:Int))).setCell (p:=⟨w.heap.size+1,2,none⟩) hle (.int .i64 0)
  have hne:nb≠w.heap.size+1:=by omega
  have hmz:=((hm.setCell (a:=⟨w.heap.size+1,0,none⟩) hne (.map (some nb))).setCell (a:=⟨w.heap.size+1,1,none⟩) hne (.int .i64 (k:Int))).setCell (a:=⟨w.heap.size+1,2,none⟩) hne (.int .i64 0)
  clear hz pR pY hm bw
  go_wp2
  refine bodyPost_ret (by simp [results,Tryz.results47,go_sem,q0,q1,q2];try rfl) rfl ?_
  exact ⟨R2.mk9 hmz hG (by omega),bz⟩


theorem LI {H:Type} {P:Program} {ops:Array Oper} {o:Oper} {a:Act} {w:World} {K:Act→World→Prop} {Q:Exit→Act→World→Prop} {E:Prop} (hgd:o.guard=none) (m x v:Operand) (t:TypeId) (hop:o.op=Op.mapUpdate t m x v)
  (k e:TypeId) (Kd:Maps.Keyed P k) (ht:P.underlying t=some (.map k e)) (R:Value→Option (DataW H × List MemPlace)) (b n:Nat) (D:DataW H) (hm:a.eval m=.map (some b)) (hown:w.ownsMap P k R b n D) (hn:n<maxLen) (key val:Value) (kl:Lit) (hx:a.eval x=key) (hv:a.eval v=val) (hkey:keyOf P k key=some kl)
  (d:DataW H) (ps:List MemPlace) (hval:R val=some (d,ps)) (hK:∀ w',w'.ownsMap P k R b (n+1) (D.put kl d)→w.grownBy w' (some b)→K (a.put o.dst undef) w'):if Region.wanted o (yielded ops a.tmps)=true then Oper.wp P o a w K Q else E:=by
 have hw:Region.wanted o (yielded ops a.tmps)=true:=by simp [Region.wanted,hgd]
 rw [if_pos hw]
 obtain ⟨w',hrun,r1,r2⟩:=hown.update Kd ht hn hkey hval
 unfold Oper.wp
 simp [execOp,hop,hm,hx,hv,hrun,Result.andThen]
 exact hK w' r1 r2
theorem RV {H:Type} {P:Program} {ops:Array Oper} {o:Oper} {a:Act} {w:World} {K:Act→World→Prop} {Q:Exit→Act→World→Prop} {E:Prop} (hgd:o.guard=none) (m x:Operand) (t:TypeId) (hop:o.op=Op.lookup t m x true)
  (k e:TypeId) (Kd:Maps.Keyed P k) (ht:P.underlying t=some (.map k e)) (R:Value→Option (DataW H × List MemPlace)) {z:Value} (hz:(zeroValue e).run P w=.ok z w) (zd:DataW H) (zp:List MemPlace) (hzd:R z=some (zd,zp)) (b n:Nat) (D:DataW H)
  (hm:a.eval m=.map (some b)) (hown:w.ownsMap P k R b n D) (key:Value) (kl:Lit) (hx:a.eval x=key) (hkey:keyOf P k key=some kl)
  (hK:∀ v ps,R v=some (D.atKey kl zd,ps)→K (a.put o.dst (.tuple #[v,.bool (Maps.has D kl)])) w):if Region.wanted o (yielded ops a.tmps)=true then Oper.wp P o a w K Q else E:=by
 have hw:Region.wanted o (yielded ops a.tmps)=true:=by simp [Region.wanted,hgd]
 rw [if_pos hw]
 obtain ⟨v,ps,hrun,hv⟩:=hown.look_ok Kd ht hz hzd hkey
 unfold Oper.wp
 simp [execOp,hop,hm,hx,hrun,Result.andThen]
 exact hK v ps hv
def CQ (w':World) (nb n:Nat) (D:DataW Value) (L:List EQ):Prop:=∃ D',w'.ownsMap Tryz.prog 9 VX nb n D'∧UR D' L
theorem GU {w:World} {X4 X2 X5 C nb n:Nat} {g nd:Int} {D:DataW Value} {L:List EQ} (e:E3) (s:Sl2) (p4:Blk w X4 45 [.string e.1,.slice s.1.1 s.1.2.1 s.1.2.2,.slice s.2.1 s.2.2.1 s.2.2.2]) (p2:w.cell? ⟨X2,0,none⟩=some (.pointer (some ⟨C,0,none⟩))) (p5:w.cell? ⟨X5,0,none⟩=some (.string e.1)) (hC:Blk w C 108 [.map (some nb),.int .i64 g,.int .i64 nd]) (hm:w.ownsMap Tryz.prog 9 VX nb n D) (hG:UR D L) (hk:e.1.size≤maxLen) (hn:n≤4000000000) :
  CallsD Tryz.prog 86 #[.pointer (some ⟨X4,0,none⟩),.pointer (some ⟨X2,0,none⟩),.pointer (some ⟨X5,0,none⟩)] .returning w fun x u' w'=>u'=.returning∧x=.returned (.tuple #[])∧CQ w' nb (n+1) D (UP L e s)∧w.grownBy w' (some nb):=by
 obtain ⟨ek,eb,ez⟩:=e
 obtain ⟨⟨s1a,s1n,s1c⟩,⟨s2a,s2n,s2c⟩⟩:=s
 simp only at p4 p5 hk
 have hkey:keyOf Tryz.prog 9 (.string ek)=some (VU ek):=WideMaps.keyOf_string_mk Tryz.underlying9 hk
 have hG2:=hG.put hm.isMap (ek,eb,ez) ((s1a,s1n,s1c),(s2a,s2n,s2c))
 have x0:=p4.cell 0
 have x1:=p4.cell 1
 have x2:=p4.cell 2
 have c0:=hC.cell 0
 simp only [List.getElem?_cons_zero,List.getElem?_cons_succ] at x0 x1 x2 c0
 clear p4 hC hG
 go_enter_d Tryz.func86,Tryz.ntmps86
 go_wp2_with fail
 refine wp_region_held_drew (S:=(fun w'=>w'.cell? ⟨X2,0,none⟩=some (.pointer (some ⟨C,0,none⟩))∧w'.cell? ⟨C,0,none⟩=some (.map (some nb))∧w'.cell? ⟨X5,0,none⟩=some (.string ek)∧w'.cell? ⟨X4,0,none⟩=some (.string ek)∧w'.cell? ⟨X4,1,none⟩=some (.slice s1a s1n s1c)∧w'.cell? ⟨X4,2,none⟩=some (.slice s2a s2n s2c))) (by kernel_rfl) ⟨p2,c0,p5,x0,x1,x2⟩ (fun hS0=>?_)
 refine tkv 0 3 (.pointer (some ⟨C,0,none⟩)) ?_
 refine tkv 1 4 (.pointer (some ⟨C,0,none⟩)) ?_
 refine tkv 2 5 (.pointer (some ⟨C,0,none⟩)) ?_
 refine tkv 3 6 (.map (some nb)) ?_
 refine tkv 4 7 (.string ek) ?_
 refine tkv 5 8 (.agg #[.string ek,.slice s1a s1n s1c,.slice s2a s2n s2c]) ?_
 have hmD:=hm.drew
 have gD:w.grownBy w.drew none:=⟨rfl,rfl,rfl,Nat.le_refl _,fun _ _ _=>rfl⟩
 refine tkz 6 (fun K hK=>?_)
 refine LI rfl _ _ _ 106 rfl 9 45 Vo Tryz.underlying106 VX nb n D rfl hmD (by unfold maxLen;omega) _ _ (VU ek) rfl rfl hkey (.held (ZW ek ((s1a,s1n,s1c),(s2a,s2n,s2c)))) [] rfl ?_
 intro w9 hm9 hg9
 have hne:∀ (X o:Nat) (v:Value),w.drew.cell? ⟨X,o,none⟩=some v→X≠nb:=fun X o v h9 e9=>by
  obtain ⟨es9,clock,hb9,_⟩:=hmD
  rw [e9] at h9
  simp only [World.cell?] at h9
  rw [hb9] at h9
  simp at h9
 refine hK.out _ _ ⟨Zp hg9 hS0.1 (fun e9=>hne _ _ _ hS0.1 (by injection e9)),Zp hg9 hS0.2.1 (fun e9=>hne _ _ _ hS0.2.1 (by injection e9)),Zp hg9 hS0.2.2.1 (fun e9=>hne _ _ _ hS0.2.2.1 (by injection e9)),Zp hg9 hS0.2.2.2.1 (fun e9=>hne _ _ _ hS0.2.2.2.1 (by injection e9)),Zp hg9 hS0.2.2.2.2.1 (fun e9=>hne _ _ _ hS0.2.2.2.2.1 (by injection e9)),Zp hg9 hS0.2.2.2.2.2 (fun e9=>hne _ _ _ hS0.2.2.2.2.2 (by injection e9))⟩ (fun hS1=>?_)
 clear hK
 try simp only [Act.put,tka,tkb,tkc]
 refine wpAnyH_done (by kernel_rfl) ?_ _
 have HP:Hid (CQ w9 nb (n+1) D (UP L (ek,eb,ez) ((s1a,s1n,s1c),(s2a,s2n,s2c)))):=⟨_,hm9,hG2⟩
 have HG9:Hid (w.grownBy w9 (some nb)):=⟨hg9.os,hg9.tape,hg9.output,hg9.size,fun k h1 h2=>hg9.block k h1 h2⟩
 clear hS0 hS1 hne hm9 hg9 gD hmD hm hG2
 go_wp2
 go_end0
 exact ⟨rfl,HP.out,HG9.out⟩


def UJ:Nat→Nat
 | 0=>0
 | f+1=>1+3*UJ f
theorem Nu:UJ 19=581130733:=by decide
theorem Jk (rows:List (List I3)) (m:V4):(nxM rows m).length≤3:=by
 unfold nxM
 rw [List.length_map]
 exact YM rows m 3
theorem Pl {rows:List (List I3)} {m:V4} {rec:V4→Zy→E3 × Zy} {B:Nat} (h:∀ x st,(rec x st).2.2≤st.2+B):∀ (ts:List (Int × V4)) (acc:List I3 × List Int) (st:Zy),(Wk rows m rec ts acc st).2.2≤st.2+ts.length*B
 | [],acc,st=>Nat.le_add_right _ _
 | t::ts,acc,st=>by
  unfold Wk
  have h1:=h t.2 st
  have h2:=Pl (rows:=rows) (m:=m) h ts (((acc.1++Xg rows m t.1)++ZC rows t.2)++(rec t.2 st).1.2.1,acc.2++(rec t.2 st).1.2.2) (rec t.2 st).2
  rw [List.length_cons,Nat.add_mul,Nat.one_mul]
  omega
theorem Tw {rows:List (List I3)} {g:Nat}:∀ (f:Nat) (m:V4) (st:Zy),(Z7 rows g f m st).2.2≤st.2+UJ f
 | 0,m,st=>Nat.le_refl _
 | f+1,m,st=>by
  unfold Z7
  have hT:UJ (f+1)=1+3*UJ f:=rfl
  by_cases h1:isE st.1 (Zt m)=true
  ·rw [if_pos h1]
   exact Nat.le_add_right _ _
  rw [if_neg h1]
  by_cases h2:2000<g+(st.2+1)
  ·rw [if_pos h2]
   show st.2+1≤st.2+UJ (f+1)
   omega
  rw [if_neg h2]
  have h3:=Pl (rows:=rows) (m:=m) (B:=UJ f) (fun x st=>Tw (rows:=rows) (g:=g) f x st) (nxM rows m) (ZC rows m,Zx m) (st.1,st.2+1)
  have h4:=Nat.mul_le_mul_right (UJ f) (Jk rows m)
  simp only at h3 ⊢
  omega


def NI (n:Nat) (a:List I3 × List Int):Prop:=(∀ x ∈ a.1,okB x=true)∧(∀ y ∈ a.2,Wj y=true)∧a.1.length≤1+n*39∧a.2.length≤3+n*23
theorem UY (rows:List (List I3)) (m:V4):(ZC rows m).length≤1:=by
 unfold ZC
 split<;>simp
theorem QU (rows:List (List I3)) (m:V4) (k:Int):(Xg rows m k).length≤1:=by
 unfold Xg
 split<;>simp
theorem Qi {rows:List (List I3)} {m:V4} (hs:Zc m=true):NI 0 (ZC rows m,Zx m):=⟨fun x hx=>TC (UZ (rows:=rows) hx),look_ok hs,UY rows m,by simp [Zx]⟩
theorem NI.step {rows:List (List I3)} {n:Nat} {a:List I3 × List Int} (h:NI n a) (hp:Zf rows=true) {m:V4} (hs:Zc m=true) {t:Int × V4} (ht:t ∈ nxM rows m) {e:E3} (he:YL e):NI (n+1) (((a.1++Xg rows m t.1)++ZC rows t.2)++e.2.1,a.2++e.2.2):=by
 obtain ⟨h1,h2,h3,h4⟩:=h
 have hk:t.1 ∈ Zm rows m 3:=by
  unfold nxM at ht
  obtain ⟨k,hk,rfl⟩:=List.mem_map.1 ht
  exact hk
 refine ⟨fun x hx=>?_,fun y hy=>?_,?_,?_⟩
 ·simp only [List.mem_append] at hx
  rcases hx with ((hx | hx) | hx) | hx
  ·exact h1 x hx
  ·exact TC (Mh hp hs (Xe hk) hx)
  ·exact TC (UZ (rows:=rows) hx)
  exact he.2.1 x hx
 ·rcases List.mem_append.1 hy with hy | hy
  ·exact h2 y hy
  exact he.2.2.2 y hy
 ·have:=he.bugs
  have:=QU rows m t.1
  have:=UY rows t.2
  simp only [List.length_append]
  omega
 have:=he.foot
 simp only [List.length_append]
 omega
theorem NI.ent {n:Nat} {a:List I3 × List Int} (h:NI n a) (m:V4) (st:Zy):YL (Ub m (a,st)):=by
 refine ⟨Yw _ _,fun x hx=>?_,YQ _,fun y hy=>h.2.1 y ((XV _ y).1 hy)⟩
 rcases YF.1 hx with h9 | h9
 ·exact h.1 x h9
 cases h9
theorem NA {rows:List (List I3)} {m:V4} {rec:V4→Zy→E3 × Zy} (t:Int × V4):∀ (ts:List (Int × V4)) (acc:List I3 × List Int) (st:Zy),
  Wk rows m rec (ts++[t]) acc st=(((((Wk rows m rec ts acc st).1.1++Xg rows m t.1)++ZC rows t.2)++(rec t.2 (Wk rows m rec ts acc st).2).1.2.1,(Wk rows m rec ts acc st).1.2++(rec t.2 (Wk rows m rec ts acc st).2).1.2.2),(rec t.2 (Wk rows m rec ts acc st).2).2)
 | [],acc,st=>rfl
 | s::ts,acc,st=>by
  show Wk rows m rec (ts++[t]) _ _=_
  rw [NA t ts]
  rfl
theorem Pk {rows:List (List I3)} (hp:Zf rows=true) {m:V4} (hs:Zc m=true) {rec:V4→Zy→E3 × Zy}:∀ (ts:List (Int × V4)) (n:Nat) (acc:List I3 × List Int) (st:Zy),(∀ t ∈ ts,t ∈ nxM rows m)→(∀ t ∈ ts,∀ st:Zy,(∀ x ∈ st.1,YL x)→YL (rec t.2 st).1∧∀ x ∈ (rec t.2 st).2.1,YL x)→NI n acc→(∀ x ∈ st.1,YL x) →
  NI (n+ts.length) (Wk rows m rec ts acc st).1∧∀ x ∈ (Wk rows m rec ts acc st).2.1,YL x
 | [],n,acc,st,hn,hr,ha,ht=>⟨ha,ht⟩
 | t::ts,n,acc,st,hn,hr,ha,ht=>by
  obtain ⟨h1,h2⟩:=hr t (List.mem_cons_self ..) st ht
  have h3:=Pk hp hs ts (n+1) _ (rec t.2 st).2 (fun s h=>hn s (List.mem_cons_of_mem _ h)) (fun s h=>hr s (List.mem_cons_of_mem _ h)) (ha.step hp hs (hn t (List.mem_cons_self ..)) h1) h2
  rw [List.length_cons,show n+(ts.length+1)=n+1+ts.length by omega]
  exact h3
theorem Tv {rows:List (List I3)} (hp:Zf rows=true) {g:Nat}:∀ (f:Nat) (m:V4) (st:Zy),Zc m=true→(∀ x ∈ st.1,YL x)→YL (Z7 rows g f m st).1∧∀ x ∈ (Z7 rows g f m st).2.1,YL x
 | 0,m,st,hs,ht=>⟨Wy,ht⟩
 | f+1,m,st,hs,ht=>by
  unfold Z7
  by_cases h1:isE st.1 (Zt m)=true
  ·rw [if_pos h1]
   refine ⟨?_,ht⟩
   have hi:=h1
   simp only [isE,Bool.and_eq_true,decide_eq_true_eq] at hi
   show YL (Vz st.1 (Zt m))
   unfold Vz
   rw [if_pos h1,Y5 hi.1]
   exact ht _ (List.getElem_mem _)
  rw [if_neg h1]
  by_cases h2:2000<g+(st.2+1)
  ·rw [if_pos h2]
   exact ⟨Wy,ht⟩
  rw [if_neg h2]
  obtain ⟨k1,k2⟩:=Pk hp hs (rec:=Z7 rows g f) (nxM rows m) 0 (ZC rows m,Zx m) (st.1,st.2+1) (fun t h=>h) (fun t htm st' ht'=>Tv hp f t.2 st' (XK hp hs t htm).1 ht') (Qi hs) ht
  have k3:=k1.ent m (Wk rows m (Z7 rows g f) (nxM rows m) (ZC rows m,Zx m) (st.1,st.2+1)).2
  refine ⟨k3,fun x hx=>?_⟩
  rcases WI hx with h9 | h9
  ·rw [h9];exact k3
  exact k2 x h9
def Z5 (rows:List (List I3)) (g f:Nat) (m:V4) (st:Zy) (i:Nat):(List I3 × List Int) × Zy:=Wk rows m (Z7 rows g f) ((nxM rows m).take i) (ZC rows m,Zx m) st
theorem KU (rows:List (List I3)) (g f:Nat) (m:V4) (st:Zy):Z5 rows g f m st 0=((ZC rows m,Zx m),st):=rfl
theorem KT {rows:List (List I3)} {g f:Nat} {m:V4} {st:Zy} {i:Nat} {k:Int} (h:(Zm rows m 3)[i]?=some k):Z5 rows g f m st (i+1)=(((((Z5 rows g f m st i).1.1++Xg rows m k)++ZC rows (goM rows m k).1)++(Z7 rows g f (goM rows m k).1 (Z5 rows g f m st i).2).1.2.1,(Z5 rows g f m st i).1.2++(Z7 rows g f (goM rows m k).1 (Z5 rows g f m st i).2).1.2.2),(Z7 rows g f (goM rows m k).1 (Z5 rows g f m st i).2).2):=by
 unfold Z5
 have h9:(nxM rows m)[i]?=some (k,(goM rows m k).1):=by unfold nxM;rw [List.getElem?_map,h];rfl
 rw [List.take_add_one,h9]
 exact NA (k,(goM rows m k).1) _ _ _
theorem Rx {rows:List (List I3)} {g f:Nat} {m:V4} {st:Zy} {i:Nat} (h:(Zm rows m 3).length≤i):Z5 rows g f m st i=Wk rows m (Z7 rows g f) (nxM rows m) (ZC rows m,Zx m) st:=by
 unfold Z5
 rw [List.take_of_length_le (by unfold nxM;rw [List.length_map];exact h)]
theorem GT {rows:List (List I3)} (hp:Zf rows=true) {m:V4} (hs:Zc m=true) {g f:Nat} {st:Zy} (ht:∀ x ∈ st.1,YL x) (i:Nat):NI 3 (Z5 rows g f m st i).1∧∀ x ∈ (Z5 rows g f m st i).2.1,YL x:=by
 obtain ⟨h1,h2⟩:=Pk hp hs (rec:=Z7 rows g f) ((nxM rows m).take i) 0 (ZC rows m,Zx m) st (fun t h=>List.mem_of_mem_take h) (fun t htm st' ht'=>Tv hp f t.2 st' (XK hp hs t (List.mem_of_mem_take htm)).1 ht') (Qi hs) ht
 have hl:=Jk rows m
 have hl2:((nxM rows m).take i).length≤3:=by rw [List.length_take];omega
 exact ⟨⟨h1.1,h1.2.1,by have:=h1.2.2.1;unfold Z5;omega,by have:=h1.2.2.2;unfold Z5;omega⟩,h2⟩
theorem Nx {rows:List (List I3)} {g f:Nat} {m:V4} {st:Zy} (i:Nat) (hi:i≤3):(Z5 rows g f m st i).2.2≤st.2+i*UJ f:=by
 have h:=Pl (rows:=rows) (m:=m) (B:=UJ f) (fun x st=>Tw (rows:=rows) (g:=g) f x st) ((nxM rows m).take i) (ZC rows m,Zx m) st
 have h2:=Nat.mul_le_mul_right (UJ f) (show ((nxM rows m).take i).length≤i by rw [List.length_take];omega)
 unfold Z5
 omega
theorem GS {rows:List (List I3)} {g f:Nat} {m:V4} {st:Zy} (i:Nat):st.2≤(Z5 rows g f m st i).2.2:=S5 (fun x st=>Pi (rows:=rows) (g:=g) f x st) _ _ _


def SlB (s:Sl) (j:Nat):Prop:=s.2.1≠0∧∃ o,s.1=some ⟨j,o,none⟩
def EnB (s:Sl2) (j:Nat):Prop:=SlB s.1 j∨SlB s.2 j
theorem Ut (w:World) (b i:Nat) (v:Value):w.grownBy (w.setCell ⟨b,i,none⟩ v) (some b):=⟨rfl,rfl,rfl,by simp [World.setCell],fun k _ hk=>Below.heap_setCell w _ v k (fun e=>hk (by rw [e]))⟩
theorem Vb {w:World} {B:Nat} {v:Value} {xs:List I3} (h:w.ownsRow B 103 3 v xs.length (Zn xs)) (hf:∀ x ∈ xs,I3.fits x):∃ a cap,v=.slice a xs.length cap∧Zr w a xs.length cap xs∧US a cap∧∀ j,SlB (a,xs.length,cap) j→v.ownBlock=some j:=by
 rcases h.2 with ⟨rfl,h0⟩ | ⟨g,cap,cur,hv,_⟩
 ·exact ⟨none,0,by rw [h0],⟨rfl,by omega,Nat.zero_le _,hf,.inl h0⟩,⟨fun _=>rfl,fun x hx=>by cases hx⟩,fun j hj=>absurd h0 hj.1⟩
 subst hv
 exact ⟨_,_,rfl,Zr.of_owns h rfl hf rfl,⟨fun h=>(by cases h),fun x hx=>by cases hx;rfl⟩,fun j hj=>by obtain ⟨_,o,e⟩:=hj;cases e;rfl⟩
theorem SB {w:World} {B:Nat} {v:Value} {xs:List Int} (h:w.ownsRow B 3 1 v xs.length (xs.map (Value.int .i64))):∃ a cap,v=.slice a xs.length cap∧Yn .i64 w a xs.length cap xs∧US a cap∧∀ j,SlB (a,xs.length,cap) j→v.ownBlock=some j:=by
 rcases h.2 with ⟨rfl,h0⟩ | ⟨g,cap,cur,hv,_⟩
 ·exact ⟨none,0,by rw [h0],⟨rfl,by omega,Nat.zero_le _,.inl h0⟩,⟨fun _=>rfl,fun x hx=>by cases hx⟩,fun j hj=>absurd h0 hj.1⟩
 subst hv
 exact ⟨_,_,rfl,MU h,⟨fun h=>(by cases h),fun x hx=>by cases hx;rfl⟩,fun j hj=>by obtain ⟨_,o,e⟩:=hj;cases e;rfl⟩
theorem Yn.same11 {k:IntKind} {w w':World} {a:Option Addr} {n c:Nat} {zs:List Int} (h:Yn k w a n c zs) (hz:w.heap.size≤w'.heap.size) (hb:∀ j,SlB (a,n,c) j→w'.heap[j]?=w.heap[j]?):Yn k w' a n c zs:=by
 obtain ⟨h1,h2,h3,h4⟩:=h
 refine ⟨h1,h2,h3,?_⟩
 rcases h4 with h4 | ⟨b,off,rfl,hlt,hc⟩
 ·exact .inl h4
 by_cases hn:n=0
 ·exact .inl hn
 exact .inr ⟨b,off,rfl,by omega,fun t ht=>by rw [World.cell?_of_block (w:=w) (a:=⟨b,off+t,none⟩) (hb b ⟨hn,off,rfl⟩)];exact hc t ht⟩
theorem Zr.same11 {w w':World} {a:Option Addr} {n c:Nat} {xs:List I3} (h:Zr w a n c xs) (hz:w.heap.size≤w'.heap.size) (hb:∀ j,SlB (a,n,c) j→w'.heap[j]?=w.heap[j]?):Zr w' a n c xs:=by
 obtain ⟨h1,h2,h3,hf,h4⟩:=h
 refine ⟨h1,h2,h3,hf,?_⟩
 rcases h4 with h4 | ⟨b,off,rfl,hlt,hc⟩
 ·exact .inl h4
 by_cases hn:n=0
 ·exact .inl hn
 refine .inr ⟨b,off,rfl,by omega,fun t ht=>?_⟩
 have e:=hb b ⟨hn,off,rfl⟩
 rw [World.cell?_of_block (w:=w) (a:=⟨b,off+t*3,none⟩) e,World.cell?_of_block (w:=w) (a:=⟨b,off+t*3+1,none⟩) e,World.cell?_of_block (w:=w) (a:=⟨b,off+t*3+2,none⟩) e]
 exact hc t ht
theorem YK.same11 {w w':World} {s:Sl2} {e:E3} (h:YK w s e) (hz:w.heap.size≤w'.heap.size) (hb:∀ j,EnB s j→w'.heap[j]?=w.heap[j]?):YK w' s e:=
 ⟨h.1,h.2.1.same11 hz (fun j hj=>hb j (.inl hj)),h.2.2.1.same11 hz (fun j hj=>hb j (.inr hj)),h.2.2.2⟩
theorem Yn.blk11 {k:IntKind} {w:World} {a:Option Addr} {n c:Nat} {zs:List Int} (h:Yn k w a n c zs) {j:Nat} (hj:SlB (a,n,c) j):j<w.heap.size∧∀ es clock,w.heap[j]?≠some (.map es clock):=by
 obtain ⟨h1,h2,h3,h4⟩:=h
 obtain ⟨hn,o,e⟩:=hj
 rcases h4 with h4 | ⟨b,off,rfl,hlt,hc⟩
 ·exact absurd h4 hn
 cases e
 refine ⟨hlt,fun es clock e9=>?_⟩
 have h9:=hc 0 (Nat.pos_of_ne_zero hn)
 simp only [World.cell?] at h9
 rw [e9] at h9
 simp at h9
theorem Zr.blk11 {w:World} {a:Option Addr} {n c:Nat} {xs:List I3} (h:Zr w a n c xs) {j:Nat} (hj:SlB (a,n,c) j):j<w.heap.size∧∀ es clock,w.heap[j]?≠some (.map es clock):=by
 obtain ⟨h1,h2,h3,hf,h4⟩:=h
 obtain ⟨hn,o,e⟩:=hj
 rcases h4 with h4 | ⟨b,off,rfl,hlt,hc⟩
 ·exact absurd h4 hn
 cases e
 refine ⟨hlt,fun es clock e9=>?_⟩
 have h9:=(hc 0 (Nat.pos_of_ne_zero hn)).1
 simp only [World.cell?] at h9
 rw [e9] at h9
 simp at h9
theorem YK.blk11 {w:World} {s:Sl2} {e:E3} (h:YK w s e) {j:Nat} (hj:EnB s j):j<w.heap.size∧∀ es clock,w.heap[j]?≠some (.map es clock):=by
 rcases hj with hj | hj
 ·exact h.2.1.blk11 hj
 exact h.2.2.1.blk11 hj
theorem Yn.int11 {w:World} {a:Option Addr} {n c:Nat} {zs:List Int} (h:Yn .i64 w a n c zs) {j:Nat} (hj:SlB (a,n,c) j):∃ o v,w.cell? ⟨j,o,none⟩=some (.int .i64 v):=by
 obtain ⟨h1,h2,h3,h4⟩:=h
 obtain ⟨hn,o,e⟩:=hj
 rcases h4 with h4 | ⟨b,off,rfl,hlt,hc⟩
 ·exact absurd h4 hn
 cases e
 exact ⟨_,_,hc 0 (Nat.pos_of_ne_zero hn)⟩
theorem Zr.int11 {w:World} {a:Option Addr} {n c:Nat} {xs:List I3} (h:Zr w a n c xs) {j:Nat} (hj:SlB (a,n,c) j):∃ o v,w.cell? ⟨j,o,none⟩=some (.int .i64 v):=by
 obtain ⟨h1,h2,h3,hf,h4⟩:=h
 obtain ⟨hn,o,e⟩:=hj
 rcases h4 with h4 | ⟨b,off,rfl,hlt,hc⟩
 ·exact absurd h4 hn
 cases e
 exact ⟨_,_,(hc 0 (Nat.pos_of_ne_zero hn)).1⟩
theorem YK.off11 {w:World} {s:Sl2} {e:E3} (h:YK w s e) {j:Nat} (hj:EnB s j) {X T:Nat} {cs:List Value} (hB:Blk w X T cs) (hn:Rz cs):j≠X:=by
 rcases hj with hj | hj
 ·obtain ⟨o,v,h9⟩:=h.2.1.int11 hj
  exact Vj hB hn h9
 obtain ⟨o,v,h9⟩:=h.2.2.1.int11 hj
 exact Vj hB hn h9
structure WM (w w':World) (C nb:Nat):Prop where
 os:w'.os=w.os
 tape:w'.tape=w.tape
 output:w'.output=w.output
 size:w.heap.size≤w'.heap.size
 block:∀ j,j<w.heap.size→j≠C→j≠nb→w'.heap[j]?=w.heap[j]?
theorem WM.refl (w:World) (C nb:Nat):WM w w C nb:=⟨rfl,rfl,rfl,Nat.le_refl _,fun _ _ _ _=>rfl⟩
theorem WM.trans {a b c:World} {C nb:Nat} (h:WM a b C nb) (k:WM b c C nb):WM a c C nb:=
 ⟨k.os.trans h.os,k.tape.trans h.tape,k.output.trans h.output,Nat.le_trans h.size k.size,fun j hj h1 h2=>(k.block j (Nat.lt_of_lt_of_le hj h.size) h1 h2).trans (h.block j hj h1 h2)⟩
theorem WM.of {a b:World} {C nb:Nat} (k:Below a.heap.size a b):WM a b C nb:=⟨k.os,k.tape,k.output,k.size,fun j hj _ _=>k.block j hj⟩
theorem WM.bel {a b c:World} {C nb:Nat} (h:WM a b C nb) (k:Below b.heap.size b c):WM a c C nb:=h.trans (WM.of k)
theorem WM.gr {a b c:World} {C nb:Nat} {r:Option Nat} (h:WM a b C nb) (k:b.grownBy c r) (hr:∀ j,r=some j→j=C∨j=nb∨a.heap.size≤j):WM a c C nb:=
 ⟨k.os.trans h.os,k.tape.trans h.tape,k.output.trans h.output,Nat.le_trans h.size k.size,fun j hj h1 h2=>(k.block j (Nat.lt_of_lt_of_le hj h.size) (fun e=>by
  rcases hr j e.symm with h9 | h9 | h9
  ·exact h1 h9
  ·exact h2 h9
  omega)).trans (h.block j hj h1 h2)⟩
theorem WM.blk {w w':World} {C nb g t:Nat} {cs:List Value} (k:WM w w' C nb) (p:Blk w g t cs) (hC:g≠C) (hn:g≠nb):Blk w' g t cs:=(k.block g p.lt hC hn).trans p
theorem WM.row {w w':World} {C nb B e s n:Nat} {v:Value} {xs:List Value} (k:WM w w' C nb) (ho:w.ownsRow B e s v n xs) (hC:v.ownBlock≠some C) (hn:v.ownBlock≠some nb):w'.ownsRow B e s v n xs:=by
 have hlt:=fun g hg=>(Yc ho (g:=g) hg).2
 refine ⟨ho.1,?_⟩
 rcases ho.2 with hn9 | ⟨g,cap,cur,rfl,hb9,hgg,rest⟩
 ·exact .inl hn9
 exact .inr ⟨g,cap,cur,rfl,hb9,(k.block g (hlt g rfl) (fun e=>hC (by rw [← e];rfl)) (fun e=>hn (by rw [← e];rfl))).trans hgg,rest⟩
def KZ (C:Nat) (s:Sl2):Prop:=US s.1.1 s.1.2.2∧∀ j,EnB s j→j≠C
structure OnC (w0 w:World) (C nb g n:Nat) (L:List EQ) (nd:Nat):Prop where
 base:Below w0.heap.size w0 w
 box:Blk w C 108 [.map (some nb),.int .i64 (g:Int),.int .i64 (nd:Int)]
 map:∃ D:DataW Value,w.ownsMap Tryz.prog 9 VX nb n D∧UR D L
 ents:∀ x ∈ L,YK w x.2 x.1∧KZ C x.2
 hC:w0.heap.size≤C
 hn:w0.heap.size≤nb
theorem Gf {w:World} {nb n:Nat} {D:DataW Value} (h:w.ownsMap Tryz.prog 9 VX nb n D):∃ es clock,w.heap[nb]?=some (.map es clock):=by
 obtain ⟨es,clock,hb,_⟩:=h
 exact ⟨es,clock,hb⟩
theorem OnC.any {w0 w:World} {C nb g n nd:Nat} {L:List EQ} (h:OnC w0 w C nb g n L nd):∃ es clock,w.heap[nb]?=some (.map es clock):=by
 obtain ⟨D,hm,_⟩:=h.map
 exact Gf hm
theorem OnC.noblk {w0 w:World} {C nb g n nd:Nat} {L:List EQ} (h:OnC w0 w C nb g n L nd) {q t:Nat} {cs:List Value} (hB:Blk w q t cs):q≠nb:=fun e=>by
 obtain ⟨es,clock,hb⟩:=h.any
 subst e
 unfold Blk at hB
 rw [hB] at hb
 cases hb
theorem OnC.norow {w0 w:World} {C nb g n nd:Nat} {L:List EQ} (h:OnC w0 w C nb g n L nd) {B e s k:Nat} {v:Value} {xs:List Value} (ho:w.ownsRow B e s v k xs):v.ownBlock≠some nb:=fun e9=>by
 obtain ⟨es,clock,hb⟩:=h.any
 rcases ho.2 with ⟨rfl,_⟩ | ⟨g9,cap,cur,rfl,_,hgg,_⟩
 ·cases e9
 cases e9
 rw [hgg] at hb
 cases hb
theorem OnC.ne {w0 w:World} {C nb g n nd:Nat} {L:List EQ} (h:OnC w0 w C nb g n L nd):C≠nb:=h.noblk h.box
theorem OnC.below {w0 w w':World} {C nb g n nd:Nat} {L:List EQ} (h:OnC w0 w C nb g n L nd) (hb:Below w.heap.size w w'):OnC w0 w' C nb g n L nd:=by
 obtain ⟨D,hm,hG⟩:=h.map
 exact ⟨Zb h.base hb,h.box.below hb,⟨D,hm.kept (row:=none) ⟨hb.os,hb.tape,hb.output,hb.size,fun k hk _=>hb.block k hk⟩ (by simp),hG⟩,fun x hx=>⟨(h.ents x hx).1.below hb,(h.ents x hx).2⟩,h.hC,h.hn⟩
theorem OnC.grow {w0 w w':World} {C nb g n nd:Nat} {L:List EQ} (h:OnC w0 w C nb g n L nd) {r:Option Nat} (hg:w.grownBy w' r) (hC:r≠some C) (hn:r≠some nb) (h0:∀ j,r=some j→w0.heap.size≤j) (hE:∀ x ∈ L,∀ j,EnB x.2 j→r≠some j):OnC w0 w' C nb g n L nd:=by
 obtain ⟨D,hm,hG⟩:=h.map
 exact ⟨h.base.grown hg h.base.size h0,h.box.kept hg hC,⟨D,hm.kept hg (fun e=>hn e.symm),hG⟩,fun x hx=>⟨(h.ents x hx).1.same11 hg.size (fun j hj=>hg.block j ((h.ents x hx).1.blk11 hj).1 (fun e=>hE x hx j hj e.symm)),(h.ents x hx).2⟩,h.hC,h.hn⟩
theorem OnC.node {w0 w:World} {C nb g n nd:Nat} {L:List EQ} (h:OnC w0 w C nb g n L nd) (nd':Nat):OnC w0 (w.setCell ⟨C,2,none⟩ (.int .i64 (nd':Int))) C nb g n L nd':=by
 obtain ⟨D,hm,hG⟩:=h.map
 have hg:=Ut w C 2 (.int .i64 (nd':Int))
 refine ⟨h.base.grown hg h.base.size (fun j e=>by cases e;exact h.hC),?_,⟨D,hm.kept hg (fun e=>h.ne (by cases e;rfl)),hG⟩,fun x hx=>⟨(h.ents x hx).1.same11 hg.size (fun j hj=>hg.block j ((h.ents x hx).1.blk11 hj).1 (fun e=>(h.ents x hx).2.2 j hj (by cases e;rfl))),(h.ents x hx).2⟩,h.hC,h.hn⟩
 have:=h.box.set 2 (.int .i64 (nd':Int))
 simpa using this
theorem Hy (w:World) (C nb:Nat) (v:Value):WM w (w.setCell ⟨C,2,none⟩ v) C nb:=(WM.refl w C nb).gr (Ut w C 2 v) (fun j e=>by cases e;exact .inl rfl)
theorem OnC.nbkeep {w0 w w':World} {C nb g n nd:Nat} {L:List EQ} (h:OnC w0 w C nb g n L nd) (hg:w.grownBy w' (some nb)) {s:Sl2} {e:E3} (hE:YK w s e):YK w' s e:=
 hE.same11 hg.size (fun j hj=>by
  obtain ⟨h1,h2⟩:=hE.blk11 hj
  obtain ⟨es,clock,hb⟩:=h.any
  exact hg.block j h1 (fun e9=>h2 es clock (by cases e9;exact hb)))
theorem OnC.put {w0 w w':World} {C nb g n nd:Nat} {L:List EQ} (h:OnC w0 w C nb g n L nd) {e:E3} {s:Sl2} (hE:YK w s e) (hO:KZ C s) {D:DataW Value} (hP:CQ w' nb (n+1) D (UP L e s)) (hg:w.grownBy w' (some nb)):OnC w0 w' C nb g (n+1) (UP L e s) nd:=by
 obtain ⟨D',hm,hG⟩:=hP
 refine ⟨h.base.grown hg h.base.size (fun j e9=>by cases e9;exact h.hn),h.box.kept hg (fun e9=>h.ne (by cases e9;rfl)),⟨D',hm,hG⟩,fun x hx=>?_,h.hC,h.hn⟩
 rcases QZ hx with h9 | h9
 ·exact ⟨h.nbkeep hg (h.ents x h9).1,(h.ents x h9).2⟩
 rw [h9]
 exact ⟨h.nbkeep hg hE,hO⟩
def LW (x:Ending) (w0 w w':World) (C nb g n:Nat) (L:List EQ) (nd:Nat) (R:E3 × Zy):Prop:=
 ∃ (s:Sl2) (L':List EQ) (n':Nat),x=.returned (ZW R.1.1 s)∧YK w' s R.1∧KZ C s∧(∀ j,EnB s j→w.heap.size≤j∨∃ x ∈ L,EnB x.2 j)∧OnC w0 w' C nb g n' L' R.2.2∧L'.map (·.1)=R.2.1∧n'+nd≤n+R.2.2∧(∀ x ∈ L',x ∈ L∨∀ j,EnB x.2 j→w.heap.size≤j)∧WM w w' C nb

open Go.RowKit Go.Maps Go.Sort Go.Shelf

def P4:Go.Shelf.Ren:=⟨fun | 7=>90 | 10=>136 | n=>n,fun | 23=>106 | 26=>9 | 3=>45 | 28=>156 | 0=>0 | 27=>155 | 33=>203 | 4=>4 | n=>n,fun | n=>n⟩
theorem CA:Go.Proofs.SlLaysZ.n7 Tryz.prog P4:={
 mixed:=by kernel_rfl
 f7:=⟨Tryz.f90.name,by decide,Tryz.func90.trans (congrArg some (by kernel_rfl))⟩
 f10:=⟨Tryz.f136.name,by decide,Tryz.func136.trans (congrArg some (by kernel_rfl))⟩
 t0:=Tryz.underlying0
 a0:=Tryz.isAgg0
 z0:=Tryz.sizeOf0
 v0:=Tryz.zeroValue0
 t4:=Tryz.underlying4
 a4:=Tryz.isAgg4
 z4:=Tryz.sizeOf4
 v4:=Tryz.zeroValue4
 t23:=Tryz.underlying106
 a23:=Tryz.isAgg106
 z23:=Tryz.sizeOf106
 v23:=Tryz.zeroValue106
 t26:=Tryz.underlying9
 a26:=Tryz.isAgg9
 z26:=Tryz.sizeOf9
 v26:=Tryz.zeroValue9
 t27:=Tryz.underlying155
 a27:=Tryz.isAgg155
 z27:=Tryz.sizeOf155
 v27:=Tryz.zeroValue155
 t28:=Tryz.underlying156
 a28:=Tryz.isAgg156
 z28:=Tryz.sizeOf156
 v28:=Tryz.zeroValue156
 t33:=Tryz.underlying203
 a33:=Tryz.isAgg203
 z33:=Tryz.sizeOf203
 v33:=Tryz.zeroValue203 }
def RT:Go.Shelf.Ren:=⟨fun | 6=>89 | 8=>134 | 9=>135 | 11=>163 | 13=>162 | 12=>164 | 23=>179 | 24=>180 | 14=>181 | 15=>182 | 16=>183 | 17=>184 | 18=>185 | 19=>186 | 20=>187 | 21=>188 | 22=>189 | 25=>204 | 26=>200 | 27=>201 | 28=>205 | 29=>206 | 30=>207 | 31=>212 | n=>n,fun | 26=>9 | 28=>156 | 24=>49 | 0=>0 | 3=>3 | 37=>204 | 48=>249 | 50=>251 | 4=>4 | 40=>243 | 39=>242 | 45=>114 | 5=>5 | 9=>9 | 51=>263 | 55=>267 | 57=>273 | 58=>128 | 33=>203 | n=>n,fun | n=>n⟩
theorem Cq:Go.Proofs.SlLaysZ.n6 Tryz.prog RT:={
 mixed:=by kernel_rfl
 f6:=⟨Tryz.f89.name,by decide,Tryz.func89.trans (congrArg some (by kernel_rfl))⟩
 f8:=⟨Tryz.f134.name,by decide,Tryz.func134.trans (congrArg some (by kernel_rfl))⟩
 f11:=⟨Tryz.f163.name,by decide,Tryz.func163.trans (congrArg some (by kernel_rfl))⟩
 t0:=Tryz.underlying0
 a0:=Tryz.isAgg0
 z0:=Tryz.sizeOf0
 v0:=Tryz.zeroValue0
 t24:=Tryz.underlying49
 a24:=Tryz.isAgg49
 z24:=Tryz.sizeOf49
 v24:=Tryz.zeroValue49
 t26:=Tryz.underlying9
 a26:=Tryz.isAgg9
 z26:=Tryz.sizeOf9
 v26:=Tryz.zeroValue9
 t28:=Tryz.underlying156
 a28:=Tryz.isAgg156
 z28:=Tryz.sizeOf156
 v28:=Tryz.zeroValue156
 i26:=by kernel_rfl }
def GF:Go.Shelf.Ren:=⟨fun | 6=>135 | 8=>162 | 9=>164 | 19=>179 | 20=>180 | 21=>181 | 22=>182 | 23=>183 | 24=>184 | 25=>185 | 26=>186 | 27=>187 | 28=>188 | 29=>189 | 36=>204 | 31=>200 | 32=>201 | 37=>205 | 38=>206 | 39=>207 | 41=>212 | n=>n,fun | 27=>49 | 29=>9 | 3=>3 | 32=>204 | 26=>49 | 0=>0 | 44=>249 | 46=>251 | 4=>4 | 36=>243 | 35=>242 | 41=>114 | 5=>5 | 9=>9 | 53=>263 | 57=>267 | 63=>273 | 64=>128 | n=>n,fun | n=>n⟩
theorem CI:Go.Proofs.SlLaysM.n6 Tryz.prog GF:={
 mixed:=by kernel_rfl
 f6:=⟨Tryz.f135.name,by decide,Tryz.func135.trans (congrArg some (by kernel_rfl))⟩
 f8:=Tryz.func162.trans (congrArg some (by kernel_rfl))
 f9:=⟨Tryz.f164.name,by decide,Tryz.func164.trans (congrArg some (by kernel_rfl))⟩
 f19:=Tryz.func179.trans (congrArg some (by kernel_rfl))
 f20:=Tryz.func180.trans (congrArg some (by kernel_rfl))
 f21:=⟨Tryz.f181.name,by decide,Tryz.func181.trans (congrArg some (by kernel_rfl))⟩
 f22:=⟨Tryz.f182.name,by decide,Tryz.func182.trans (congrArg some (by kernel_rfl))⟩
 f23:=⟨Tryz.f183.name,by decide,Tryz.func183.trans (congrArg some (by kernel_rfl))⟩
 f24:=⟨Tryz.f184.name,by decide,Tryz.func184.trans (congrArg some (by kernel_rfl))⟩
 f25:=⟨Tryz.f185.name,by decide,Tryz.func185.trans (congrArg some (by kernel_rfl))⟩
 f26:=⟨Tryz.f186.name,by decide,Tryz.func186.trans (congrArg some (by kernel_rfl))⟩
 f27:=⟨Tryz.f187.name,by decide,Tryz.func187.trans (congrArg some (by kernel_rfl))⟩
 f28:=⟨Tryz.f188.name,by decide,Tryz.func188.trans (congrArg some (by kernel_rfl))⟩
 f29:=⟨Tryz.f189.name,by decide,Tryz.func189.trans (congrArg some (by kernel_rfl))⟩
 f31:=Tryz.func200.trans (congrArg some (by kernel_rfl))
 f32:=Tryz.func201.trans (congrArg some (by kernel_rfl))
 f36:=⟨Tryz.f204.name,by decide,Tryz.func204.trans (congrArg some (by kernel_rfl))⟩
 f37:=⟨Tryz.f205.name,by decide,Tryz.func205.trans (congrArg some (by kernel_rfl))⟩
 f38:=⟨Tryz.f206.name,by decide,Tryz.func206.trans (congrArg some (by kernel_rfl))⟩
 f39:=⟨Tryz.f207.name,by decide,Tryz.func207.trans (congrArg some (by kernel_rfl))⟩
 f41:=⟨Tryz.f212.name,by decide,Tryz.func212.trans (congrArg some (by kernel_rfl))⟩
 t0:=Tryz.underlying0
 a0:=Tryz.isAgg0
 z0:=Tryz.sizeOf0
 v0:=Tryz.zeroValue0
 t3:=Tryz.underlying3
 a3:=Tryz.isAgg3
 z3:=Tryz.sizeOf3
 v3:=Tryz.zeroValue3
 t4:=Tryz.underlying4
 a4:=Tryz.isAgg4
 z4:=Tryz.sizeOf4
 v4:=Tryz.zeroValue4
 t5:=Tryz.underlying5
 a5:=Tryz.isAgg5
 z5:=Tryz.sizeOf5
 v5:=Tryz.zeroValue5
 t9:=Tryz.underlying9
 a9:=Tryz.isAgg9
 z9:=Tryz.sizeOf9
 v9:=Tryz.zeroValue9
 t26:=Tryz.underlying49
 a26:=Tryz.isAgg49
 z26:=Tryz.sizeOf49
 v26:=Tryz.zeroValue49
 t27:=Tryz.underlying49
 a27:=Tryz.isAgg49
 z27:=Tryz.sizeOf49
 v27:=Tryz.zeroValue49
 t29:=Tryz.underlying9
 a29:=Tryz.isAgg9
 z29:=Tryz.sizeOf9
 v29:=Tryz.zeroValue9
 t32:=Tryz.underlying204
 a32:=Tryz.isAgg204
 z32:=Tryz.sizeOf204
 v32:=Tryz.zeroValue204
 t35:=Tryz.underlying242
 a35:=Tryz.isAgg242
 z35:=Tryz.sizeOf242
 v35:=Tryz.zeroValue242
 t36:=Tryz.underlying243
 a36:=Tryz.isAgg243
 z36:=Tryz.sizeOf243
 v36:=Tryz.zeroValue243
 t41:=Tryz.underlying114
 a41:=Tryz.isAgg114
 z41:=Tryz.sizeOf114
 v41:=Tryz.zeroValue114
 t44:=Tryz.underlying249
 a44:=Tryz.isAgg249
 z44:=Tryz.sizeOf249
 v44:=Tryz.zeroValue249
 t46:=Tryz.underlying251
 a46:=Tryz.isAgg251
 z46:=Tryz.sizeOf251
 v46:=Tryz.zeroValue251
 t53:=Tryz.underlying263
 a53:=Tryz.isAgg263
 z53:=Tryz.sizeOf263
 v53:=Tryz.zeroValue263
 t57:=Tryz.underlying267
 a57:=Tryz.isAgg267
 z57:=Tryz.sizeOf267
 v57:=Tryz.zeroValue267
 t63:=Tryz.underlying273
 a63:=Tryz.isAgg273
 z63:=Tryz.sizeOf273
 v63:=Tryz.zeroValue273
 t64:=Tryz.underlying128
 a64:=Tryz.isAgg128
 z64:=Tryz.sizeOf128
 v64:=Tryz.zeroValue128 }

theorem Ba (m:Nat):AnyZ.SortsIn Tryz.prog RT Fence.wide m:=
 ⟨fun blk off cap ss W hH hblk hsz=>callsIn_wide.2 (AnyM.slices_Sort_string CI blk off cap ss W hH hblk hsz),
  fun p cap W=>callsIn_wide.2 (AnyM.slices_Sort_string_none CI p cap W)⟩
theorem C0 (mb:Option Nat) (W:World):Calls Tryz.prog 90 #[.map mb] W fun e w'=>e=.returned (.func (.func 136) #[] #[.pointer (some ⟨W.heap.size,0,none⟩)])∧w'=W.alloc (.cells #[.map mb] 106):=
 callsIn_wide.1 (AnyZ.keys_in CA Fence.wide 5 trivial rfl mb W)
theorem Dc (b nn:Nat) (D0:DataW Value) (w:World) (hown:w.ownsMap Tryz.prog 9 VX b nn D0) (hmax:nn≤1000000000) :
  Calls Tryz.prog 89 #[.func (.func 136) #[] #[.pointer (some ⟨w.heap.size,0,none⟩)]] (w.alloc (.cells #[.map (some b)] 106)) fun e w'=>∃ (v:Value) (ss:List (List UInt8)),e=.returned v∧ss.Perm (strKeys D0) ∧
   w'.ownsRow (w.alloc (.cells #[.map (some b)] 106)).heap.size 9 1 v ss.length ((ss.mergeSort (fun x y=>decide (x≤y))).map encStr)∧(v=.slice none 0 0↔ss=[])∧Below (w.alloc (.cells #[.map (some b)] 106)).heap.size (w.alloc (.cells #[.map (some b)] 106)) w':=by
 have hbl:=hown.lt
 have hsz:=hown.size_le
 have hseq:SeqGives Fence.wide 2 Tryz.prog 136 #[.pointer (some ⟨w.heap.size,0,none⟩)] encStr (fun ss=>ss.Perm (strKeys D0)) (Maps.size D0) (w.alloc (.cells #[.map (some b)] 106)):=
  AnyZ.keys_gives (ρ:=P4) { CA with } Fence.wide _ trivial rfl (by omega) w.heap.size b nn D0 _ (by simp) (by simp) (by
   obtain ⟨es,clock,hb,Ft,hs,hD⟩:=hown
   exact ⟨es,clock,(Below.heap_alloc _ _ b hbl).trans hb,Ft,hs,hD⟩)
 have cS:=AnyZ.sorted_in Cq Fence.wide 5 trivial trivial trivial trivial rfl (by omega) (Ba _) (enters_of Tryz.func135 (by kernel_rfl) rfl) 136 #[.pointer (some ⟨w.heap.size,0,none⟩)] trivial (enters_of Tryz.func136 (by kernel_rfl) rfl) _ _ (by unfold maxLen;omega) (by omega) _ hseq
 exact callsIn_wide.1 cS
theorem K1:∀ {a b:List UInt8},Go.Op.bytesLess a b=true↔a<b
 | [],[]=>by simp [Go.Op.bytesLess]
 | [],y::b=>by simp [Go.Op.bytesLess]
 | x::a,[]=>by simp [Go.Op.bytesLess]
 | x::a,y::b=>by rw [Sj,List.cons_lt_cons_iff,K1]
def SC (L:List EQ):List (List UInt8):=L.map fun x=>x.1.1.data.toList
theorem FI {a b:ByteArray} (h:ltS a b=true):a.data.toList<b.data.toList:=by
 unfold ltS at h
 rw [Go.ByteArray.toList_eq,Go.ByteArray.toList_eq] at h
 exact K1.1 h
theorem FB {L:List EQ} (hU:UpE (L.map (·.1))):(SC L).Pairwise (· < ·):=by
 unfold UpE at hU
 unfold SC
 rw [List.pairwise_map] at hU ⊢
 exact hU.imp (fun h=>FI h)
theorem Kq {w:World} {b nn:Nat} {D:DataW Value} {L:List EQ} {ss:List (List UInt8)} (hown:w.ownsMap Tryz.prog 9 VX b nn D) (hG:UR D L) (hp:ss.Perm (strKeys D)):ss.mergeSort (fun x y=>decide (x≤y))=SC L:=by
 obtain ⟨es,hD,hpw,_⟩:=hown.entries Vo
 obtain ⟨es',hD',hko⟩:=hown.keysOf
 obtain rfl:es=es':=by rw [hD] at hD';simpa using hD'
 subst hD
 have hup:=FB hG.up
 have hnd:(SC L).Nodup:=hup.imp (fun h e=>by subst e;exact absurd h (List.lt_irrefl _))
 have hp2:(SC L).Perm (strKeys (.map es)):=perm_strKeys hpw (fun p hp=>by obtain ⟨v,hv⟩:=hko p hp;obtain ⟨x,_,hx,_⟩:=Maps.keyOf_str Tryz.underlying9 hv;exact ⟨x,hx⟩) hnd (fun x=>by
  have h9:=hG.has ⟨x.toArray⟩
  have e9:VU ⟨x.toArray⟩=.string x:=by unfold VU;simp
  rw [e9] at h9
  rw [h9,XS hG.up]
  unfold SC
  rw [List.mem_map]
  constructor
  ·rintro ⟨y,hy,rfl⟩
   exact ⟨y.1,List.mem_map.2 ⟨y,hy,rfl⟩,by simp⟩
  rintro ⟨e,he,hek⟩
  obtain ⟨y,hy,rfl⟩:=List.mem_map.1 he
  exact ⟨y,hy,by rw [hek]⟩)
 have h1:=mergeSort_of_perm (hp.trans hp2.symm)
 show ss.mergeSort leB=_
 rw [h1]
 exact List.mergeSort_of_pairwise (hup.imp (fun h=>by simp only [leB,decide_eq_true_eq];exact List.le_of_lt h))
theorem Hx (L:List EQ):(SC L).map encStr=L.map fun x=>Value.string x.1.1:=by
 unfold SC
 rw [List.map_map]
 refine List.map_congr_left (fun x _=>?_)
 simp [encStr]

open Go.RowKit Go.Shelf

theorem Kc (g:Nat) (a0:Option Addr) (n0 c0:Nat) (xs:List I3) (a1:Option Addr) (n1 c1:Nat) (ys:List I3) (a2:Option Addr) (n2 c2:Nat) (zs:List I3) (w:World) (h0:Zr w a0 n0 c0 xs) (h1:Zr w a1 n1 c1 ys) (h2:Zr w a2 n2 c2 zs) (m0:n0≤300000) (m1:n1≤300000) (m2:n2≤300000)
  (g0:US a0 c0) (g1:US a1 c1) (g2:US a2 c2) (d0:w.cell? ⟨g,0,none⟩=some (.slice a0 n0 c0)) (d1:w.cell? ⟨g,1,none⟩=some (.slice a1 n1 c1)) (d2:w.cell? ⟨g,2,none⟩=some (.slice a2 n2 c2)) :
  Calls Tryz.prog 127 #[.slice (some ⟨g,0,none⟩) 3 3] w fun e w'=>(∃ v,e=.returned v∧(∃ a n c,v=.slice a n c)∧w'.ownsRow w.heap.size 103 3 v (n0+n1+n2) (Zn (xs++ys++zs)))∧Below w.heap.size w w':=by
 obtain ⟨i0,hi,hz0,hz1,hz2⟩:=info_parts Xp
 have l0:=h0.1
 have l1:=h1.1
 have l2:=h2.1
 have n0o:a0=none→n0=0∧c0=0:=fun e=>⟨by have:=h0.2.1;have:=g0.1 e;omega,g0.1 e⟩
 have n1o:a1=none→n1=0∧c1=0:=fun e=>⟨by have:=h1.2.1;have:=g1.1 e;omega,g1.1 e⟩
 have n2o:a2=none→n2=0∧c2=0:=fun e=>⟨by have:=h2.2.1;have:=g2.1 e;omega,g2.1 e⟩
 have H1:Hid (∀ W,Below w.heap.size w W→Zr W a1 n1 c1 ys):=fun W hb=>h1.below hb
 have H2:Hid (∀ W,Below w.heap.size w W→Zr W a2 n2 c2 zs):=fun W hb=>h2.below hb
 have hgw:g<w.heap.size:=World.block_lt_of_cell? _ _ d0
 have kG:Hid (∀ (z:Int) (W:World),z=(n0:Int)+(n1:Int)+(n2:Int)→Calls Tryz.prog 160 #[.slice none 0 0,.int .i64 z] W fun e w'=>(∃ v,e=.returned v∧(∃ a c,v=.slice a 0 c)∧w'.ownsRow W.heap.size 103 3 v 0 [])∧Below W.heap.size W w'):=by
  intro z W hz
  obtain rfl:z=((n0+n1+n2:Nat):Int):=by omega
  exact MO (n0+n1+n2) W (by omega)
 clear g0 g1 g2
 have HF:Hid (∀ (v:Value) (W:World),W.ownsRow w.heap.size 103 3 v (n0+n1+n2) (Zn xs++(Zn ys++Zn zs))→W.ownsRow w.heap.size 103 3 v (n0+n1+n2) (Zn (xs++ys++zs))):=by
  intro v W q
  rw [Yp,Yp,List.append_assoc]
  exact q
 go_enter Tryz.func127,Tryz.ntmps127
 go_wp2_with fail
 refine wp_loop_rounds 4 ?_
 rw [rounds_succ]
 go_wp2
 rw [rounds_succ]
 go_wp2
 rw [rounds_succ]
 go_wp2
 rw [rounds_succ]
 go_wp2_with fail
 refine (kG.out _ _ (by first | rfl | omega)).mono ?_
 rintro e w1 ⟨⟨v,rfl,⟨aG,cG,rfl⟩,q1⟩,bw⟩
 clear kG
 replace h0:=h0.below bw
 replace h1:=h1.below bw
 replace h2:=h2.below bw
 replace d0:=Za bw _ _ d0
 replace d1:=Za bw _ _ d1
 replace d2:=Za bw _ _ d2
 have hsz:=bw.size
 go_wp2_with fail
 refine wp_loop_rounds 4 ?_
 rw [rounds_succ]
 go_wp2_with (at_builtin;refine XH rfl _ _ 28 rfl w.heap.size 103 i0 (.agg #[.int .i64 0,.int .i64 0,.int .i64 0]) 3 24 Tryz.underlying28 hi hz0 hz1 hz2 rfl (by decide) (.slice aG 0 cG) _ _ rfl q1 a0 n0 c0 rfl n0o (Zn xs) (by rw [Zw];omega) (fun ad e=>by subst e;exact Rm h0) (Yk _) (by unfold maxLen;omega) (by omega) hsz ?_)
 intro v2 U2 q2 gr _
 replace d1:=Zg gr d1 (fun e=>by have h9:=(q1.lt _ e.symm).1;have h8:=hgw;simp at h9;omega)
 replace d2:=Zg gr d2 (fun e=>by have h9:=(q1.lt _ e.symm).1;have h8:=hgw;simp at h9;omega)
 replace bw:=bw.grown gr hsz (fun j hj=>(q1.lt j hj).1)
 replace h1:=H1.out _ bw
 replace h2:=H2.out _ bw
 replace hsz:=Nat.le_trans hsz gr.size
 clear gr
 go_wp2_with fail
 rw [rounds_succ]
 go_wp2_with (at_builtin;refine XH rfl _ _ 28 rfl w.heap.size 103 i0 (.agg #[.int .i64 0,.int .i64 0,.int .i64 0]) 3 24 Tryz.underlying28 hi hz0 hz1 hz2 rfl (by decide) v2 _ _ rfl q2 a1 n1 c1 rfl n1o (Zn ys) (by rw [Zw];omega) (fun ad e=>by subst e;exact Rm h1) (Yk _) (by unfold maxLen;omega) (by omega) hsz ?_)
 intro v3 U3 q3 gr _
 replace d2:=Zg gr d2 (fun e=>by have h9:=(q2.lt _ e.symm).1;have h8:=hgw;simp at h9;omega)
 replace bw:=bw.grown gr hsz (fun j hj=>(q2.lt j hj).1)
 replace h2:=H2.out _ bw
 replace hsz:=Nat.le_trans hsz gr.size
 clear gr
 go_wp2_with fail
 rw [rounds_succ]
 go_wp2_with (at_builtin;refine XH rfl _ _ 28 rfl w.heap.size 103 i0 (.agg #[.int .i64 0,.int .i64 0,.int .i64 0]) 3 24 Tryz.underlying28 hi hz0 hz1 hz2 rfl (by decide) v3 _ _ rfl q3 a2 n2 c2 rfl n2o (Zn zs) (by rw [Zw];omega) (fun ad e=>by subst e;exact Rm h2) (Yk _) (by unfold maxLen;omega) (by omega) hsz ?_)
 intro v4 U4 q4 gr _
 replace bw:=bw.grown gr hsz (fun j hj=>(q3.lt j hj).1)
 replace hsz:=Nat.le_trans hsz gr.size
 clear gr
 go_wp2_with fail
 rw [rounds_succ]
 have HQ:Hid (∀ e:Ending,e=Ending.returned v4→∃ v,e=Ending.returned v∧(∃ a n c,v=Value.slice a n c)∧U4.ownsRow w.heap.size 103 3 v (n0+n1+n2) (Zn (xs++ys++zs))):=fun e he=>⟨_,he,QV q4,HF.out _ _ q4⟩
 clear q4 q3 q2 h0 h1 h2 d0 d1 d2
 go_wp2
 go_ret
 exact ⟨HQ.out _ rfl,bw⟩
end Go.Proofs.YtgmhhegckcionaaGreatDoor
